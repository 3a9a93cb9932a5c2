/-
  (*spec.l07Make).join: arcs from each state of a row to each of another.
-/
import Derived.Test.YtkcflhlipdnbnaaJn05
import Derived.Test.YtkcflhlipdnbnaaJn06
import Derived.Deep.DeepCutAuto
namespace Go.Proofs.Ytkcflhlipdnbnaa
open Go.RowKit

/-- the maker's block -/
def mkC (pv lv av : Value) (bd : Bool) : Nat → Value := fun i => if i = 0 then pv else if i = 1 then lv else if i = 2 then av else .bool bd
/-- labels as they lie in memory -/
def lbC (lb : List Int) : Nat → Value := fun i => .int .u8 (lb.getD i 0)
/-- a slice that is as it was, or reaches a block that is new -/
def NewOr (H H' : Nat) (a a' : Option Addr) : Prop := a' = a ∨ ∀ b o, a' = some ⟨b, o, none⟩ → H ≤ b ∧ b < H'
theorem NewOr.refl (H H' : Nat) (a : Option Addr) : NewOr H H' a a := .inl rfl
/-- the maker while arcs are joined -/
def Jn (M : Nat) (w : World) (pv lv : Value) (bd : Bool) (a0 : Option Addr) (L : List Ed) (wr : World) : Prop :=
  ∃ (aa : Option Addr) (an ac : Nat), Hid (Blk wr M 4 (mkC pv lv (.slice aa an ac) bd)) ∧ Hid (L.length = an) ∧ Hid (EdgesIn (M + 1) wr.heap.size wr aa L) ∧ Hid (KeptP (fun c => c = M) w wr) ∧ Hid (NewOr w.heap.size wr.heap.size a0 aa)
theorem joinR_len (lb : List Int) (f : Int) : ∀ (ts : List Int) (ar : List Ed), (joinR lb f ts ar).length ≤ ar.length + ts.length
  | [], ar => Nat.le_refl _
  | t :: ts, ar => by
    have h1 := joinR_len lb f ts (putE ar (f, lbAt lb t, t))
    have h2 := putE_len ar (f, lbAt lb t, t)
    show (joinR lb f ts (putE ar _)).length ≤ _
    rw [List.length_cons]
    omega
theorem joinF_len (lb : List Int) (ts : List Int) : ∀ (fs : List Int) (ar : List Ed), (joinF lb fs ts ar).length ≤ ar.length + fs.length * ts.length
  | [], ar => by show ar.length ≤ _; omega
  | f :: fs, ar => by
    have h1 := joinF_len lb ts fs (joinR lb f ts ar)
    have h2 := joinR_len lb f ts ar
    show (joinF lb fs ts (joinR lb f ts ar)).length ≤ _
    rw [List.length_cons, Nat.add_mul]
    omega
theorem joinF_snoc (lb : List Int) (ts fs : List Int) (f : Int) (ar : List Ed) : joinF lb (fs ++ [f]) ts ar = joinR lb f ts (joinF lb fs ts ar) := by unfold joinF; rw [List.foldl_append]; rfl
theorem joinR_snoc (lb : List Int) (f t : Int) (ts : List Int) (ar : List Ed) : joinR lb f (ts ++ [t]) ar = putE (joinR lb f ts ar) (f, lbAt lb t, t) := by unfold joinR; rw [List.foldl_append]; rfl

set_option maxHeartbeats 600000 in
set_option maxRecDepth 100000 in
theorem join_any (M : Nat) (pv : Value) (la : Option Addr) (ln lc lo2 hi2 : Nat) (lb : List Int) (aa : Option Addr) (an ac : Nat) (ar : List Ed) (bd : Bool) (fa : Option Addr) (nf cf : Nat) (fs : List Int) (ta : Option Addr) (nt ct : Nat) (ts : List Int) (w : World)
    (hb : Blk w M 4 (mkC pv (.slice la ln lc) (.slice aa an ac) bd)) (hl : FlIn 1 lo2 hi2 w la ln (lbC lb)) (hlo : M < lo2) (hhi : hi2 ≤ w.heap.size) (hln : lb.length = ln) (hll : ln ≤ 24) (ha : EdgesIn (M + 1) w.heap.size w aa ar) (han : ar.length = an) (hf : RowIn (M + 1) w.heap.size w fa fs) (hfn : fs.length = nf) (ht : RowIn (M + 1) w.heap.size w ta ts) (htn : ts.length = nt) (htt : ∀ x, x ∈ ts → ∃ t : Nat, 1 ≤ t ∧ t ≤ ln ∧ x = (t : Int)) (hsz : an + nf * nt ≤ 1048576) (hnf : nf ≤ 1048576) (hnt : nt ≤ 1048576) :
    Calls Try.prog 35 #[.pointer (some ⟨M, 0, none⟩), .slice fa nf cf, .slice ta nt ct] w fun e w' => e = .returned (.tuple #[]) ∧ Jn M w pv (.slice la ln lc) bd aa (joinF lb fs ts ar) w' := by
  have HL : Hid (FlIn 1 lo2 hi2 w la ln (lbC lb)) := hl
  have HF : Hid (RowIn (M + 1) w.heap.size w fa fs) := hf
  have HT : Hid (RowIn (M + 1) w.heap.size w ta ts) := ht
  have HNF : Hid (fs.length = nf) := hfn
  have HNT : Hid (ts.length = nt) := htn
  have HLN : Hid (lb.length = ln ∧ ln ≤ 24 ∧ M < lo2 ∧ hi2 ≤ w.heap.size) := ⟨hln, hll, hlo, hhi⟩
  have HTT : Hid (∀ x, x ∈ ts → ∃ t : Nat, 1 ≤ t ∧ t ≤ ln ∧ x = (t : Int)) := htt
  have HMW : Hid (M < w.heap.size) := hb.lt
  have HLEN : Hid (∀ k j, k < nf → j ≤ nt → (joinR lb (fs.getD k 0) (ts.take j) (joinF lb (fs.take k) ts ar)).length ≤ 1048576) := fun k j hk hj => by
    have h1 := joinR_len lb (fs.getD k 0) (ts.take j) (joinF lb (fs.take k) ts ar)
    have h2 := joinF_len lb ts (fs.take k) ar
    rw [List.length_take] at h1 h2
    rw [htn] at h1 h2
    rw [hfn] at h2
    have h3 : (min k nf + 1) * nt ≤ nf * nt := Nat.mul_le_mul_right _ (by omega)
    rw [Nat.add_mul] at h3
    omega
  have HJ0 : Hid (Jn M w pv (.slice la ln lc) bd aa (joinF lb (fs.take 0) ts ar) w) := ⟨aa, an, ac, hb, han, ha, ⟨rfl, rfl, rfl, Nat.le_refl _, fun _ _ _ => rfl⟩, NewOr.refl _ _ _⟩
  clear hb hl hlo hhi hln hll ha han hf hfn ht htn htt hsz
  go_enter Try.func35, Try.ntmps35
  go_wp2
  go_loopw [6] (fun i wr => ∃ k : Nat, i = .int .i64 (k : Int) ∧ k ≤ nf ∧ Hid (Jn M w pv (.slice la ln lc) bd aa (joinF lb (fs.take k) ts ar) wr)) (fun i _ => nf - (intOf i).toNat)
  case atStart => exact ⟨0, rfl, by omega, HJ0⟩
  case round =>
    obtain ⟨k, rfl, hk, HJ⟩ := hrel
    by_cases hlt : k < nf
    · have hlt1 : (k : Int) < (nf : Int) := by omega
      have hlt0 : (0 : Int) ≤ (k : Int) := by omega
      obtain ⟨f, HFF⟩ : ∃ f, Hid (f = fs.getD k 0) := ⟨_, rfl⟩
      obtain ⟨AK, HAK⟩ : ∃ L, Hid (L = joinF lb (fs.take k) ts ar) := ⟨_, rfl⟩
      have HNX : Hid (joinF lb (fs.take (k + 1)) ts ar = joinR lb f ts AK) := by show _ = _; rw [take_snocI fs (by rw [HNF.out]; exact hlt), joinF_snoc, HFF.out, HAK.out]
      have HLK : Hid (∀ j, j ≤ nt → (joinR lb f (ts.take j) AK).length ≤ 1048576) := fun j hj => by rw [HFF.out, HAK.out]; exact HLEN.out k j hlt hj
      have HJ1 : Hid (Jn M w pv (.slice la ln lc) bd aa (joinR lb f (ts.take 0) AK) wr) := by show Jn _ _ _ _ _ _ _ _; rw [HAK.out]; exact HJ.out
      clear HJ
      go_wp2
      go_loopw [7] (fun i wr => ∃ j : Nat, i = .int .i64 (j : Int) ∧ j ≤ nt ∧ Hid (Jn M w pv (.slice la ln lc) bd aa (joinR lb f (ts.take j) AK) wr)) (fun i _ => nt - (intOf i).toNat)
      case atStart => exact ⟨0, rfl, by omega, HJ1⟩
      case round =>
        obtain ⟨j, rfl, hj, HJ⟩ := hrel
        by_cases hjt : j < nt
        · have hjt1 : (j : Int) < (nt : Int) := by omega
          have hjt0 : (0 : Int) ≤ (j : Int) := by omega
          obtain ⟨u, un, uc, HB, HUN, HU, HKW, HNO⟩ := HJ.out
          have HSZ : Hid (w.heap.size ≤ wr.heap.size) := HKW.out.size
          obtain ⟨t, ht1, ht2, hte⟩ := HTT.out (ts.getD j 0) (by rw [List.getD, List.getElem?_eq_getElem (by rw [HNT.out]; exact hjt)]; exact List.getElem_mem _)
          obtain ⟨fb, fo, rfl, hfr⟩ := (HF.out.kept HKW.out (Nat.le_refl _) (fun c h1 _ e => by omega)).num (i := k) (by rw [HNF.out]; exact hlt)
          obtain ⟨tb, tt, rfl, htr⟩ := (HT.out.kept HKW.out (Nat.le_refl _) (fun c h1 _ e => by omega)).num (i := j) (by rw [HNT.out]; exact hjt)
          obtain ⟨lbb, lbo, rfl, hlb1, _, hlc⟩ := (HL.out.kept HKW.out HLN.out.2.2.2 (fun c h1 _ e => by have := HLN.out; omega)).at (k := t - 1) (by omega)
          have hlr := hlc 0 (by omega)
          simp only [Nat.add_zero, Nat.mul_one] at hlr
          obtain ⟨y, HY⟩ : ∃ y, Hid (y = lb.getD (t - 1) 0) := ⟨_, rfl⟩
          have hlr2 : wr.cell? ⟨lbb, lbo + (t - 1), none⟩ = some (.int .u8 y) := by rw [hlr, HY.out]; rfl
          rw [hte] at htr
          rw [← HFF.out] at hfr
          have hm0 := HB.out.cell (i := 0) (by omega)
          have hm1 : wr.cell? ⟨M, 1, none⟩ = some (.slice (some ⟨lbb, lbo, none⟩) ln lc) := HB.out.cell (i := 1) (by omega)
          have hm2 : wr.cell? ⟨M, 2, none⟩ = some (.slice u un uc) := HB.out.cell (i := 2) (by omega)
          have hun : un ≤ 1048576 := by have h := HLK.out j hj; rw [HUN.out] at h; exact h
          have ht0 : (0 : Int) ≤ (t : Int) - 1 := by omega
          have ht4 : (1 : Int) ≤ (t : Int) := by omega
          have ht3 : (t : Int) - 1 < (ln : Int) := by omega
          have htn : ((t : Int) - 1).toNat = t - 1 := by omega
          have hw1 : IntKind.i64.wrap ((t : Int) - 1) = (t : Int) - 1 := by have := HLN.out.2.1; simp [IntKind.wrap, IntKind.bits, IntKind.signed]; omega
          obtain ⟨Q, HQ⟩ : ∃ Q, Hid (Q = joinR lb f (ts.take j) AK) := ⟨_, rfl⟩
          rw [← HQ.out] at HUN HU
          have HNQ : Hid (joinR lb f (ts.take (j + 1)) AK = putE Q (f, y, (t : Int))) := by show _ = _; rw [take_snocI ts (by rw [HNT.out]; exact hjt), joinR_snoc, HQ.out, hte, HY.out]; unfold lbAt; simp
          have HC : Hid (∀ w0, Below wr.heap.size wr w0 → Calls Try.prog 74 #[.slice u un uc, .agg #[.int .i64 f, .int .u8 y, .int .i64 (t : Int)]] w0 fun e w' => ∃ (a' : Option Addr) (n' cap' : Nat), e = .returned (.slice a' n' cap') ∧ Hid ((putE Q (f, y, (t : Int))).length = n') ∧ Hid (w'.ownsRow w0.heap.size 126 3 (.slice a' n' cap') n' (ecells (putE Q (f, y, (t : Int))))) ∧ Hid (Below w0.heap.size w0 w')) := fun w0 h =>
            l07Put_any (M + 1) wr.heap.size u un uc Q (f, y, (t : Int)) w0 (HU.out.below h (Nat.le_refl _)) h.size HUN.out hun
          have HBD : Hid (Below wr.heap.size wr wr.drew) := (Below.refl _ _).drew
          have HLB : Hid (lbb < wr.heap.size ∧ fb < wr.heap.size ∧ tb < wr.heap.size ∧ M < wr.heap.size) := ⟨lt_of_cell hlr2, lt_of_cell hfr, lt_of_cell htr, lt_of_cell hm2⟩
          have HNE : Hid (fb ≠ M ∧ tb ≠ M) := by
            refine ⟨?_, ?_⟩
            · rcases HF.out with h | ⟨b, o, e, h1, _⟩
              · rw [h] at HNF; have := HNF.out; simp at this; omega
              · cases e; omega
            · rcases HT.out with h | ⟨b, o, e, h1, _⟩
              · rw [h] at HNT; have := HNT.out; simp at this; omega
              · cases e; omega
          have HNM : Hid (lbb ≠ M) := by have := HLN.out; show _ ≠ _; omega
          have HKS : Hid (∀ z, Below wr.heap.size wr z → (z.cell? ⟨M, 1, none⟩ = some (.slice (some ⟨lbb, lbo, none⟩) ln lc) ∧ z.cell? ⟨M, 2, none⟩ = some (.slice u un uc)) ∧ z.cell? ⟨lbb, lbo + (t - 1), none⟩ = some (.int .u8 y) ∧ z.cell? ⟨fb, fo + k, none⟩ = some (.int .i64 f) ∧ z.cell? ⟨tb, tt + j, none⟩ = some (.int .i64 (t : Int))) := fun z h => ⟨⟨cell_below hm1 h HLB.out.2.2.2, cell_below hm2 h HLB.out.2.2.2⟩, cell_below hlr2 h HLB.out.1, cell_below hfr h HLB.out.2.1, cell_below htr h HLB.out.2.2.1⟩
          obtain ⟨⟨d1, d2⟩, d3, d4, d5⟩ := HKS.out _ HBD.out
          clear hte hlc hlr hm0 hm1 hm2 hlr2 hfr htr HJ
          go_upto_region 6 with fail
          refine wp_region_held_drew (S := fun z => z.cell? ⟨M, 1, none⟩ = some (.slice (some ⟨lbb, lbo, none⟩) ln lc) ∧ z.cell? ⟨lbb, lbo + (t - 1), none⟩ = some (.int .u8 y) ∧ z.cell? ⟨fb, fo + k, none⟩ = some (.int .i64 f) ∧ z.cell? ⟨tb, tt + j, none⟩ = some (.int .i64 (t : Int))) (by kernel_rfl) ⟨d1, d3, d4, d5⟩ (fun hHeld => ?_)
          refine wpAnyH_take (i := 0) (oi := { dst := some 20, op := Go.Op.move (Go.Operand.tmp 0), type := 64, pos := "l07_nfa.go:73", after := #[], guard := none }) (v := ?_) rfl (by kernel_rfl) (by kernel_rfl) (by kernel_rfl) (fun _ _ _ h => h) (Or.inl ⟨by kernel_rfl, ?_⟩) (by assumption) ?_
          rotate_left
          · intro w hSw; (try dsimp only at hSw); go_simp; try with_reducible rfl
          simp only [Act.put, List.setIfInBounds_toArray, List.set_cons_zero, List.set_cons_succ]
          refine wpAnyH_take (i := 1) (oi := { dst := some 21, op := Go.Op.move (Go.Operand.tmp 0), type := 64, pos := "l07_nfa.go:73", after := #[], guard := none }) (v := ?_) rfl (by kernel_rfl) (by kernel_rfl) (by kernel_rfl) (fun _ _ _ h => h) (Or.inl ⟨by kernel_rfl, ?_⟩) (by assumption) ?_
          rotate_left
          · intro w hSw; (try dsimp only at hSw); go_simp; try with_reducible rfl
          simp only [Act.put, List.setIfInBounds_toArray, List.set_cons_zero, List.set_cons_succ]
          refine wpAnyH_take (i := 2) (oi := { dst := some 22, op := Go.Op.nilCheck (Go.Operand.tmp 21), type := 0, pos := "l07_nfa.go:73", after := #[{ on := 1, ground := Go.Ground.data }], guard := none }) (v := ?_) rfl (by kernel_rfl) (by kernel_rfl) (by kernel_rfl) (fun _ _ _ h => h) (Or.inl ⟨by kernel_rfl, ?_⟩) (by assumption) ?_
          rotate_left
          · intro w hSw; (try dsimp only at hSw); go_simp; try with_reducible rfl
          simp only [Act.put, List.setIfInBounds_toArray, List.set_cons_zero, List.set_cons_succ]
          refine wpAnyH_take (i := 3) (oi := { dst := some 23, op := Go.Op.fieldAddr 67 (Go.Operand.tmp 22) 2, type := 0, pos := "l07_nfa.go:73", after := #[{ on := 2, ground := Go.Ground.data }], guard := none }) (v := ?_) rfl (by kernel_rfl) (by kernel_rfl) (by kernel_rfl) (fun _ _ _ h => h) (Or.inl ⟨by kernel_rfl, ?_⟩) (by assumption) ?_
          rotate_left
          · intro w hSw; (try dsimp only at hSw); go_simp; try with_reducible rfl
          simp only [Act.put, List.setIfInBounds_toArray, List.set_cons_zero, List.set_cons_succ]
          refine wpAnyH_take (i := 5) (oi := { dst := some 25, op := Go.Op.move (Go.Operand.tmp 1), type := 68, pos := "l07_nfa.go:73", after := #[], guard := none }) (v := ?_) rfl (by kernel_rfl) (by kernel_rfl) (by kernel_rfl) (fun _ _ _ h => h) (Or.inl ⟨by kernel_rfl, ?_⟩) (by assumption) ?_
          rotate_left
          · intro w hSw; (try dsimp only at hSw); go_simp; try with_reducible rfl
          simp only [Act.put, List.setIfInBounds_toArray, List.set_cons_zero, List.set_cons_succ]
          refine wpAnyH_take (i := 6) (oi := { dst := some 26, op := Go.Op.move (Go.Operand.tmp 6), type := 3, pos := "l07_nfa.go:73", after := #[], guard := none }) (v := ?_) rfl (by kernel_rfl) (by kernel_rfl) (by kernel_rfl) (fun _ _ _ h => h) (Or.inl ⟨by kernel_rfl, ?_⟩) (by assumption) ?_
          rotate_left
          · intro w hSw; (try dsimp only at hSw); go_simp; try with_reducible rfl
          simp only [Act.put, List.setIfInBounds_toArray, List.set_cons_zero, List.set_cons_succ]
          refine wpAnyH_take (i := 7) (oi := { dst := some 27, op := Go.Op.indexAddr 68 (Go.Operand.tmp 25) (Go.Operand.tmp 26), type := 0, pos := "l07_nfa.go:73", after := #[{ on := 5, ground := Go.Ground.data }, { on := 6, ground := Go.Ground.data }], guard := none }) (v := ?_) rfl (by kernel_rfl) (by kernel_rfl) (by kernel_rfl) (fun _ _ _ h => h) (Or.inl ⟨by kernel_rfl, ?_⟩) (by assumption) ?_
          rotate_left
          · intro w hSw; (try dsimp only at hSw); go_simp; try with_reducible rfl
          simp only [Act.put, List.setIfInBounds_toArray, List.set_cons_zero, List.set_cons_succ]
          refine wpAnyH_take (i := 8) (oi := { dst := some 28, op := Go.Op.load 3 (Go.Operand.tmp 27), type := 3, pos := "l07_nfa.go:73", after := #[{ on := 7, ground := Go.Ground.data }], guard := none }) (v := ?_) rfl (by kernel_rfl) (by kernel_rfl) (by kernel_rfl) (fun _ _ _ h => h) (Or.inl ⟨by kernel_rfl, ?_⟩) (by assumption) ?_
          rotate_left
          · intro w hSw; (try dsimp only at hSw); go_simp; try with_reducible rfl
          simp only [Act.put, List.setIfInBounds_toArray, List.set_cons_zero, List.set_cons_succ]
          refine wpAnyH_take (i := 9) (oi := { dst := some 29, op := Go.Op.move (Go.Operand.tmp 0), type := 64, pos := "l07_nfa.go:73", after := #[], guard := none }) (v := ?_) rfl (by kernel_rfl) (by kernel_rfl) (by kernel_rfl) (fun _ _ _ h => h) (Or.inl ⟨by kernel_rfl, ?_⟩) (by assumption) ?_
          rotate_left
          · intro w hSw; (try dsimp only at hSw); go_simp; try with_reducible rfl
          simp only [Act.put, List.setIfInBounds_toArray, List.set_cons_zero, List.set_cons_succ]
          refine wpAnyH_take (i := 10) (oi := { dst := some 30, op := Go.Op.nilCheck (Go.Operand.tmp 29), type := 0, pos := "l07_nfa.go:73", after := #[{ on := 9, ground := Go.Ground.data }], guard := none }) (v := ?_) rfl (by kernel_rfl) (by kernel_rfl) (by kernel_rfl) (fun _ _ _ h => h) (Or.inl ⟨by kernel_rfl, ?_⟩) (by assumption) ?_
          rotate_left
          · intro w hSw; (try dsimp only at hSw); go_simp; try with_reducible rfl
          simp only [Act.put, List.setIfInBounds_toArray, List.set_cons_zero, List.set_cons_succ]
          refine wpAnyH_take (i := 11) (oi := { dst := some 31, op := Go.Op.fieldAddr 67 (Go.Operand.tmp 30) 1, type := 0, pos := "l07_nfa.go:73", after := #[{ on := 10, ground := Go.Ground.data }], guard := none }) (v := ?_) rfl (by kernel_rfl) (by kernel_rfl) (by kernel_rfl) (fun _ _ _ h => h) (Or.inl ⟨by kernel_rfl, ?_⟩) (by assumption) ?_
          rotate_left
          · intro w hSw; (try dsimp only at hSw); go_simp; try with_reducible rfl
          simp only [Act.put, List.setIfInBounds_toArray, List.set_cons_zero, List.set_cons_succ]
          refine wpAnyH_take (i := 12) (oi := { dst := some 32, op := Go.Op.load 65 (Go.Operand.tmp 31), type := 65, pos := "l07_nfa.go:73", after := #[{ on := 11, ground := Go.Ground.data }], guard := none }) (v := ?_) rfl (by kernel_rfl) (by kernel_rfl) (by kernel_rfl) (fun _ _ _ h => h) (Or.inl ⟨by kernel_rfl, ?_⟩) (by assumption) ?_
          rotate_left
          · intro w hSw; (try dsimp only at hSw); go_simp; try with_reducible rfl
          simp only [Act.put, List.setIfInBounds_toArray, List.set_cons_zero, List.set_cons_succ]
          refine wpAnyH_take (i := 13) (oi := { dst := some 33, op := Go.Op.move (Go.Operand.tmp 2), type := 68, pos := "l07_nfa.go:73", after := #[], guard := none }) (v := ?_) rfl (by kernel_rfl) (by kernel_rfl) (by kernel_rfl) (fun _ _ _ h => h) (Or.inl ⟨by kernel_rfl, ?_⟩) (by assumption) ?_
          rotate_left
          · intro w hSw; (try dsimp only at hSw); go_simp; try with_reducible rfl
          simp only [Act.put, List.setIfInBounds_toArray, List.set_cons_zero, List.set_cons_succ]
          refine wpAnyH_take (i := 14) (oi := { dst := some 34, op := Go.Op.move (Go.Operand.tmp 7), type := 3, pos := "l07_nfa.go:73", after := #[], guard := none }) (v := ?_) rfl (by kernel_rfl) (by kernel_rfl) (by kernel_rfl) (fun _ _ _ h => h) (Or.inl ⟨by kernel_rfl, ?_⟩) (by assumption) ?_
          rotate_left
          · intro w hSw; (try dsimp only at hSw); go_simp; try with_reducible rfl
          simp only [Act.put, List.setIfInBounds_toArray, List.set_cons_zero, List.set_cons_succ]
          refine wpAnyH_take (i := 15) (oi := { dst := some 35, op := Go.Op.indexAddr 68 (Go.Operand.tmp 33) (Go.Operand.tmp 34), type := 0, pos := "l07_nfa.go:73", after := #[{ on := 13, ground := Go.Ground.data }, { on := 14, ground := Go.Ground.data }], guard := none }) (v := ?_) rfl (by kernel_rfl) (by kernel_rfl) (by kernel_rfl) (fun _ _ _ h => h) (Or.inl ⟨by kernel_rfl, ?_⟩) (by assumption) ?_
          rotate_left
          · intro w hSw; (try dsimp only at hSw); go_simp; try with_reducible rfl
          simp only [Act.put, List.setIfInBounds_toArray, List.set_cons_zero, List.set_cons_succ]
          refine wpAnyH_take (i := 16) (oi := { dst := some 36, op := Go.Op.load 3 (Go.Operand.tmp 35), type := 3, pos := "l07_nfa.go:73", after := #[{ on := 15, ground := Go.Ground.data }], guard := none }) (v := ?_) rfl (by kernel_rfl) (by kernel_rfl) (by kernel_rfl) (fun _ _ _ h => h) (Or.inl ⟨by kernel_rfl, ?_⟩) (by assumption) ?_
          rotate_left
          · intro w hSw; (try dsimp only at hSw); go_simp; try with_reducible rfl
          simp only [Act.put, List.setIfInBounds_toArray, List.set_cons_zero, List.set_cons_succ]
          refine wpAnyH_take (i := 17) (oi := { dst := some 37, op := Go.Op.binOp Go.BinOp.sub 3 (Go.Operand.tmp 36) (Go.Operand.const (Go.Value.int Go.IntKind.i64 1)) 3, type := 3, pos := "l07_nfa.go:73", after := #[{ on := 16, ground := Go.Ground.data }], guard := none }) (v := ?_) rfl (by kernel_rfl) (by kernel_rfl) (by kernel_rfl) (fun _ _ _ h => h) (Or.inl ⟨by kernel_rfl, ?_⟩) (by assumption) ?_
          rotate_left
          · intro w hSw; (try dsimp only at hSw); go_simp; try with_reducible rfl
          simp only [Act.put, List.setIfInBounds_toArray, List.set_cons_zero, List.set_cons_succ]
          refine wpAnyH_take (i := 18) (oi := { dst := some 38, op := Go.Op.indexAddr 65 (Go.Operand.tmp 32) (Go.Operand.tmp 37), type := 0, pos := "l07_nfa.go:73", after := #[{ on := 12, ground := Go.Ground.data }, { on := 17, ground := Go.Ground.data }], guard := none }) (v := ?_) rfl (by kernel_rfl) (by kernel_rfl) (by kernel_rfl) (fun _ _ _ h => h) (Or.inl ⟨by kernel_rfl, ?_⟩) (by assumption) ?_
          rotate_left
          · intro w hSw; (try dsimp only at hSw); go_simp; try with_reducible rfl
          simp only [Act.put, List.setIfInBounds_toArray, List.set_cons_zero, List.set_cons_succ]
          refine wpAnyH_take (i := 19) (oi := { dst := some 39, op := Go.Op.load 5 (Go.Operand.tmp 38), type := 5, pos := "l07_nfa.go:73", after := #[{ on := 18, ground := Go.Ground.data }], guard := none }) (v := ?_) rfl (by kernel_rfl) (by kernel_rfl) (by kernel_rfl) (fun _ _ _ h => h) (Or.inl ⟨by kernel_rfl, ?_⟩) (by assumption) ?_
          rotate_left
          · intro w hSw; (try dsimp only at hSw); go_simp; try with_reducible rfl
          simp only [Act.put, List.setIfInBounds_toArray, List.set_cons_zero, List.set_cons_succ]
          refine wpAnyH_take (i := 20) (oi := { dst := some 40, op := Go.Op.move (Go.Operand.tmp 2), type := 68, pos := "l07_nfa.go:73", after := #[], guard := none }) (v := ?_) rfl (by kernel_rfl) (by kernel_rfl) (by kernel_rfl) (fun _ _ _ h => h) (Or.inl ⟨by kernel_rfl, ?_⟩) (by assumption) ?_
          rotate_left
          · intro w hSw; (try dsimp only at hSw); go_simp; try with_reducible rfl
          simp only [Act.put, List.setIfInBounds_toArray, List.set_cons_zero, List.set_cons_succ]
          refine wpAnyH_take (i := 21) (oi := { dst := some 41, op := Go.Op.move (Go.Operand.tmp 7), type := 3, pos := "l07_nfa.go:73", after := #[], guard := none }) (v := ?_) rfl (by kernel_rfl) (by kernel_rfl) (by kernel_rfl) (fun _ _ _ h => h) (Or.inl ⟨by kernel_rfl, ?_⟩) (by assumption) ?_
          rotate_left
          · intro w hSw; (try dsimp only at hSw); go_simp; try with_reducible rfl
          simp only [Act.put, List.setIfInBounds_toArray, List.set_cons_zero, List.set_cons_succ]
          refine wpAnyH_take (i := 22) (oi := { dst := some 42, op := Go.Op.indexAddr 68 (Go.Operand.tmp 40) (Go.Operand.tmp 41), type := 0, pos := "l07_nfa.go:73", after := #[{ on := 20, ground := Go.Ground.data }, { on := 21, ground := Go.Ground.data }], guard := none }) (v := ?_) rfl (by kernel_rfl) (by kernel_rfl) (by kernel_rfl) (fun _ _ _ h => h) (Or.inl ⟨by kernel_rfl, ?_⟩) (by assumption) ?_
          rotate_left
          · intro w hSw; (try dsimp only at hSw); go_simp; try with_reducible rfl
          simp only [Act.put, List.setIfInBounds_toArray, List.set_cons_zero, List.set_cons_succ]
          refine wpAnyH_take (i := 23) (oi := { dst := some 43, op := Go.Op.load 3 (Go.Operand.tmp 42), type := 3, pos := "l07_nfa.go:73", after := #[{ on := 22, ground := Go.Ground.data }], guard := none }) (v := ?_) rfl (by kernel_rfl) (by kernel_rfl) (by kernel_rfl) (fun _ _ _ h => h) (Or.inl ⟨by kernel_rfl, ?_⟩) (by assumption) ?_
          rotate_left
          · intro w hSw; (try dsimp only at hSw); go_simp; try with_reducible rfl
          simp only [Act.put, List.setIfInBounds_toArray, List.set_cons_zero, List.set_cons_succ]
          refine wpAnyH_take (i := 24) (oi := { dst := some 44, op := Go.Op.build 126 #[(0, Go.Operand.tmp 28), (1, Go.Operand.tmp 39), (2, Go.Operand.tmp 43)], type := 126, pos := "l07_nfa.go:73", after := #[{ on := 8, ground := Go.Ground.data }, { on := 19, ground := Go.Ground.data }, { on := 23, ground := Go.Ground.data }], guard := none }) (v := ?_) rfl (by kernel_rfl) (by kernel_rfl) (by kernel_rfl) (fun _ _ _ h => h) (Or.inl ⟨by kernel_rfl, ?_⟩) (by assumption) ?_
          rotate_left
          · intro w hSw; (try dsimp only at hSw); go_simp; try with_reducible rfl
          simp only [Act.put, List.setIfInBounds_toArray, List.set_cons_zero, List.set_cons_succ]
          refine wpAnyH_ready (rs := [4]) (by kernel_rfl) (by simp) ?_
          refine AllReadyH.cons (o := { dst := some 24, op := Go.Op.load 26 (Go.Operand.tmp 23), type := 26, pos := "l07_nfa.go:73", after := #[{ on := 3, ground := Go.Ground.data }], guard := none }) rfl (fun K hK => ?_) ?_
          · go_simp
            refine hK.out _ _ ⟨d1, d3, d4, d5⟩ (fun hHeld => ?_)
            clear hK K
            try simp only [Act.put, List.setIfInBounds_toArray, List.set_cons_zero, List.set_cons_succ]
            refine wpAnyH_ready (rs := [25]) (by kernel_rfl) (by simp) ?_
            refine AllReadyH.cons (o := { dst := some 45, op := Go.Op.call { callee := Go.Callee.value (Go.Operand.func 74), args := #[Go.Operand.tmp 24, Go.Operand.tmp 44], argTypes := #[26, 126] }, type := 26, pos := "l07_nfa.go:73", after := #[{ on := 4, ground := Go.Ground.data }, { on := 24, ground := Go.Ground.data }], guard := none }) rfl (fun K hK => ?_) ?_
            · go_wp2_with (go_at_call 74; refine (HC.out _ HBD.out).mono ?_; rintro e w4 ⟨a4, n4, c4, rfl, HN4, HO4, HB4⟩)
              have HB4V : Hid (Below wr.heap.size wr w4) := HBD.out.trans (HB4.out.mono HBD.out.size)
              clear d1 d2 d3 d4 d5
              obtain ⟨⟨e1, e2⟩, e3, e4, e5⟩ := HKS.out _ HB4V.out
              refine hK.out _ _ ⟨e1, e3, e4, e5⟩ (fun hHeld => ?_)
              clear hK K
              try simp only [Act.put, List.setIfInBounds_toArray, List.set_cons_zero, List.set_cons_succ]
              refine wpAnyH_take (i := 26) (oi := { dst := some 46, op := Go.Op.nilCheck (Go.Operand.tmp 20), type := 0, pos := "l07_nfa.go:73", after := #[{ on := 0, ground := Go.Ground.data }, { on := 0, ground := Go.Ground.phase }, { on := 1, ground := Go.Ground.phase }, { on := 2, ground := Go.Ground.phase }, { on := 3, ground := Go.Ground.phase }, { on := 4, ground := Go.Ground.phase }, { on := 5, ground := Go.Ground.phase }, { on := 6, ground := Go.Ground.phase }, { on := 7, ground := Go.Ground.phase }, { on := 8, ground := Go.Ground.phase }, { on := 9, ground := Go.Ground.phase }, { on := 10, ground := Go.Ground.phase }, { on := 11, ground := Go.Ground.phase }, { on := 12, ground := Go.Ground.phase }, { on := 13, ground := Go.Ground.phase }, { on := 14, ground := Go.Ground.phase }, { on := 15, ground := Go.Ground.phase }, { on := 16, ground := Go.Ground.phase }, { on := 17, ground := Go.Ground.phase }, { on := 18, ground := Go.Ground.phase }, { on := 19, ground := Go.Ground.phase }, { on := 20, ground := Go.Ground.phase }, { on := 21, ground := Go.Ground.phase }, { on := 22, ground := Go.Ground.phase }, { on := 23, ground := Go.Ground.phase }, { on := 24, ground := Go.Ground.phase }, { on := 25, ground := Go.Ground.phase }], guard := none }) (v := ?_) rfl (by kernel_rfl) (by kernel_rfl) (by kernel_rfl) (fun _ _ _ h => h) (Or.inl ⟨by kernel_rfl, ?_⟩) (by assumption) ?_
              rotate_left
              · intro w hSw; (try dsimp only at hSw); go_simp; try with_reducible rfl
              simp only [Act.put, List.setIfInBounds_toArray, List.set_cons_zero, List.set_cons_succ]
              refine wpAnyH_take (i := 27) (oi := { dst := some 47, op := Go.Op.fieldAddr 67 (Go.Operand.tmp 46) 2, type := 0, pos := "l07_nfa.go:73", after := #[{ on := 26, ground := Go.Ground.data }, { on := 0, ground := Go.Ground.phase }, { on := 1, ground := Go.Ground.phase }, { on := 2, ground := Go.Ground.phase }, { on := 3, ground := Go.Ground.phase }, { on := 4, ground := Go.Ground.phase }, { on := 5, ground := Go.Ground.phase }, { on := 6, ground := Go.Ground.phase }, { on := 7, ground := Go.Ground.phase }, { on := 8, ground := Go.Ground.phase }, { on := 9, ground := Go.Ground.phase }, { on := 10, ground := Go.Ground.phase }, { on := 11, ground := Go.Ground.phase }, { on := 12, ground := Go.Ground.phase }, { on := 13, ground := Go.Ground.phase }, { on := 14, ground := Go.Ground.phase }, { on := 15, ground := Go.Ground.phase }, { on := 16, ground := Go.Ground.phase }, { on := 17, ground := Go.Ground.phase }, { on := 18, ground := Go.Ground.phase }, { on := 19, ground := Go.Ground.phase }, { on := 20, ground := Go.Ground.phase }, { on := 21, ground := Go.Ground.phase }, { on := 22, ground := Go.Ground.phase }, { on := 23, ground := Go.Ground.phase }, { on := 24, ground := Go.Ground.phase }, { on := 25, ground := Go.Ground.phase }], guard := none }) (v := ?_) rfl (by kernel_rfl) (by kernel_rfl) (by kernel_rfl) (fun _ _ _ h => h) (Or.inl ⟨by kernel_rfl, ?_⟩) (by assumption) ?_
              rotate_left
              · intro w hSw; (try dsimp only at hSw); go_simp; try with_reducible rfl
              simp only [Act.put, List.setIfInBounds_toArray, List.set_cons_zero, List.set_cons_succ]
              refine wpAnyH_ready (rs := [28]) (by kernel_rfl) (by simp) ?_
              refine AllReadyH.cons (o := { dst := none, op := Go.Op.store 26 (Go.Operand.tmp 47) (Go.Operand.tmp 45), type := 0, pos := "l07_nfa.go:73", after := #[{ on := 27, ground := Go.Ground.data }, { on := 25, ground := Go.Ground.data }, { on := 25, ground := Go.Ground.chain }, { on := 0, ground := Go.Ground.phase }, { on := 1, ground := Go.Ground.phase }, { on := 2, ground := Go.Ground.phase }, { on := 3, ground := Go.Ground.phase }, { on := 4, ground := Go.Ground.phase }, { on := 5, ground := Go.Ground.phase }, { on := 6, ground := Go.Ground.phase }, { on := 7, ground := Go.Ground.phase }, { on := 8, ground := Go.Ground.phase }, { on := 9, ground := Go.Ground.phase }, { on := 10, ground := Go.Ground.phase }, { on := 11, ground := Go.Ground.phase }, { on := 12, ground := Go.Ground.phase }, { on := 13, ground := Go.Ground.phase }, { on := 14, ground := Go.Ground.phase }, { on := 15, ground := Go.Ground.phase }, { on := 16, ground := Go.Ground.phase }, { on := 17, ground := Go.Ground.phase }, { on := 18, ground := Go.Ground.phase }, { on := 19, ground := Go.Ground.phase }, { on := 20, ground := Go.Ground.phase }, { on := 21, ground := Go.Ground.phase }, { on := 22, ground := Go.Ground.phase }, { on := 23, ground := Go.Ground.phase }, { on := 24, ground := Go.Ground.phase }, { on := 25, ground := Go.Ground.phase }], guard := none }) rfl (fun K hK => ?_) ?_
              · have HB5 : Hid (Blk w4 M 4 (mkC pv (.slice (some ⟨lbb, lbo, none⟩) ln lc) (.slice u un uc) bd)) := HB.out.of_block (HB4V.out.block _ HLB.out.2.2.2)
                have hf6 := HB5.out.frozen 2
                have hne1 : lbb ≠ M := HNM.out
                have hne2 : fb ≠ M := HNE.out.1
                have hne3 : tb ≠ M := HNE.out.2
                have s8 : ∀ u : Value, (w4.setCell ⟨M, 2, none⟩ u).cell? ⟨M, 1, none⟩ = some (.slice (some ⟨lbb, lbo, none⟩) ln lc) := fun u => (HB5.out.set 2 (by omega) u).cell (i := 1) (by omega)
                have s9 := fun (u : Value) => And.intro (s8 u) (And.intro (cell_set (c := M) (j := 2) e3 u hne1) (And.intro (cell_set (c := M) (j := 2) e4 u hne2) (cell_set (c := M) (j := 2) e5 u hne3)))
                clear s8
                go_simp
                refine hK.out _ _ (s9 _) (fun hHeld => ?_)
                clear hK K
                try simp only [Act.put, List.setIfInBounds_toArray, List.set_cons_zero, List.set_cons_succ]
                refine wpAnyH_done (by kernel_rfl) ?_ _
                clear hHeld s9 hf6 e1 e2 e3 e4 e5 hne1 hne2 hne3
                obtain ⟨a5, c5, hv5, HW5⟩ := arcs_own HO4.out HN4.out
                simp only [Value.slice.injEq, true_and] at hv5
                obtain ⟨rfl, rfl⟩ := hv5
                have HKX : Hid (KeptP (fun c => c = M) w (w4.setCell ⟨M, 2, none⟩ (.slice a4 n4 c4))) := (HKW.out.trans (KeptP.of_below HB4V.out (fun _ h _ => h))).setCell rfl _
                have HJX : Hid (Jn M w pv (.slice (some ⟨lbb, lbo, none⟩) ln lc) bd aa (joinR lb f (ts.take (j + 1)) AK) (w4.setCell ⟨M, 2, none⟩ (.slice a4 n4 c4))) := by
                  refine ⟨a4, n4, c4, ?_, by show _ = _; rw [HNQ.out]; exact HN4.out, ?_, HKX, ?_⟩
                  · exact (HB5.out.set 2 (by omega) _).congr (fun i hi => by rcases (show i = 0 ∨ i = 1 ∨ i = 2 ∨ i = 3 by omega) with h | h | h | h <;> subst h <;> rfl)
                  · show EdgesIn _ _ _ _ _
                    rw [HNQ.out]
                    have h := HW5.setCell (b := M) (j := 2) (by have := HLB.out.2.2.2; have := HBD.out.size; omega) (.slice a4 n4 c4)
                    exact h.toIn.wide (by have := HLB.out.2.2.2; have := HBD.out.size; omega) (by simp)
                  · refine .inr fun b o e => ?_
                    rcases HO4.out.2 with ⟨h, _⟩ | ⟨g, cap, cur, h, hg, hbl, _⟩
                    · rw [e] at h; cases h
                    · rw [e] at h; have h1 := HBD.out.size; have h2 := HSZ.out; cases h; exact ⟨by omega, by simpa using (Array.getElem?_eq_some_iff.1 hbl).1⟩
                clear HO4 HW5 HB5 HKX HN4
                go_wp2
                go_roundw
                case rel => exact ⟨j + 1, by go_num, by omega, HJX⟩
                case measure => simp [intOf]; omega
              exact AllReadyH.nil
            exact AllReadyH.nil
          exact AllReadyH.nil
        · obtain rfl : j = nt := by omega
          have HE : Hid (joinR lb f (ts.take j) AK = joinF lb (fs.take (k + 1)) ts ar) := by show _ = _; rw [HNX.out, ← HNT.out, List.take_length]
          go_wp2
          go_roundw
          case rel => exact ⟨k + 1, by go_num, by omega, by rw [← HE.out]; exact HJ⟩
          case measure => simp [intOf]; omega
    · obtain rfl : k = nf := by omega
      have HE : Hid (joinF lb (fs.take k) ts ar = joinF lb fs ts ar) := by show _ = _; rw [← HNF.out, List.take_length]
      go_wp2
      go_end0
      exact ⟨rfl, by rw [← HE.out]; exact HJ.out⟩
end Go.Proofs.Ytkcflhlipdnbnaa

/-
  Questions: how long one is (szQuery), made new (toQuery).
-/
namespace Go.Proofs.Ytkcflhlipdnbnaa
open Go.RowKit

set_option maxHeartbeats 1000000 in
theorem szAtom_any (x0 : ByteArray) (x1 : ByteArray) (x2 : ByteArray) (L : Nat) (w : World) (hL : L ≤ 1048576) (h0 : x0.size ≤ 9223372036854775807) (h1 : x1.size ≤ 9223372036854775807) (h2 : x2.size ≤ 9223372036854775807) :
    Calls Try.prog 87 #[.agg #[.string x0, .string x1, .string x2], .int .i64 (L : Int)] w fun e w' => ∃ x : Int, e = .returned (.int .i64 x) ∧ Hid (x < 0 ∨ ∃ m : Nat, x = (m : Int) ∧ m ≤ L ∧ x0.size ≤ L ∧ x1.size ≤ L ∧ x2.size ≤ L) ∧ Hid (Below w.heap.size w w') := by
  by_cases c0 : (L : Int) - (x0.size : Int) < 0
  · go_enter Try.func87, Try.ntmps87
    go_wp2
    go_ret
    exact ⟨-1, rfl, .inl (by omega), below1 w _⟩
  by_cases c1 : (L : Int) - (x0.size : Int) - (x1.size : Int) < 0
  · go_enter Try.func87, Try.ntmps87
    go_wp2
    go_ret
    exact ⟨-1, rfl, .inl (by omega), below1 w _⟩
  by_cases c2 : (L : Int) - (x0.size : Int) - (x1.size : Int) - (x2.size : Int) < 0
  · go_enter Try.func87, Try.ntmps87
    go_wp2
    go_ret
    exact ⟨-1, rfl, .inl (by omega), below1 w _⟩
  obtain ⟨m, hm⟩ : ∃ m : Nat, (L : Int) - (x0.size : Int) - (x1.size : Int) - (x2.size : Int) = (m : Int) := ⟨((L : Int) - (x0.size : Int) - (x1.size : Int) - (x2.size : Int)).toNat, by omega⟩
  have HM : Hid (∃ m' : Nat, (m : Int) = (m' : Int) ∧ m' ≤ L ∧ x0.size ≤ L ∧ x1.size ≤ L ∧ x2.size ≤ L) := ⟨m, rfl, by omega, by omega, by omega, by omega⟩
  go_enter Try.func87, Try.ntmps87
  go_wp2
  go_ret
  exact ⟨(m : Int), by first | rfl | rw [hm] | simp [hm], .inr HM.out, below1 w _⟩

set_option maxHeartbeats 1000000 in
theorem szFilter_any (x0 : ByteArray) (x1 : Int) (x2 : ByteArray) (x3 : Int) (L : Nat) (w : World) (hL : L ≤ 1048576) (h0 : x0.size ≤ 9223372036854775807) (h2 : x2.size ≤ 9223372036854775807) :
    Calls Try.prog 88 #[.agg #[.string x0, .int .i64 x1, .string x2, .int .i64 x3], .int .i64 (L : Int)] w fun e w' => ∃ x : Int, e = .returned (.int .i64 x) ∧ Hid (x < 0 ∨ ∃ m : Nat, x = (m : Int) ∧ m ≤ L ∧ x0.size ≤ L ∧ x2.size ≤ L) ∧ Hid (Below w.heap.size w w') := by
  by_cases c0 : (L : Int) - (x0.size : Int) < 0
  · go_enter Try.func88, Try.ntmps88
    go_wp2
    go_ret
    exact ⟨-1, rfl, .inl (by omega), below1 w _⟩
  by_cases c2 : (L : Int) - (x0.size : Int) - (x2.size : Int) < 0
  · go_enter Try.func88, Try.ntmps88
    go_wp2
    go_ret
    exact ⟨-1, rfl, .inl (by omega), below1 w _⟩
  obtain ⟨m, hm⟩ : ∃ m : Nat, (L : Int) - (x0.size : Int) - (x2.size : Int) = (m : Int) := ⟨((L : Int) - (x0.size : Int) - (x2.size : Int)).toNat, by omega⟩
  have HM : Hid (∃ m' : Nat, (m : Int) = (m' : Int) ∧ m' ≤ L ∧ x0.size ≤ L ∧ x2.size ≤ L) := ⟨m, rfl, by omega, by omega, by omega⟩
  go_enter Try.func88, Try.ntmps88
  go_wp2
  go_ret
  exact ⟨(m : Int), by first | rfl | rw [hm] | simp [hm], .inr HM.out, below1 w _⟩

set_option maxHeartbeats 2000000 in
set_option maxRecDepth 100000 in
theorem szStringS_any (lo hi : Nat) (a : Option Addr) (n cap : Nat) (l : List Tx) (L : Nat) (w : World) (ha : FlIn 1 lo hi w a n (tC l)) (hh : hi ≤ w.heap.size) (hm : n ≤ 9223372036854775807) (hz : ∀ i, i < n → ((tat l i)).size ≤ 9223372036854775807) (hL : L ≤ 1048576) :
    Calls Try.prog 53 #[.slice a n cap, .int .i64 (L : Int)] w fun e w' => ∃ x : Int, e = .returned (.int .i64 x) ∧ Hid (x < 0 ∨ ∃ m : Nat, x = (m : Int) ∧ m ≤ L ∧ n ≤ L ∧ ∀ i, i < n → ((tat l i)).size ≤ L) ∧ Hid (Below w.heap.size w w') := by
  have HA : Hid (FlIn 1 lo hi w a n (tC l)) := ha
  have HH : Hid (hi ≤ w.heap.size) := hh
  have HZ : Hid (∀ i, i < n → ((tat l i)).size ≤ 9223372036854775807) := hz
  clear ha hh hz
  by_cases c : (L : Int) - (n : Int) < 0
  · go_enter Try.func53, Try.ntmps53
    go_wp2
    go_ret
    exact ⟨-1, rfl, .inl (by omega), Below.refl _ _⟩
  · obtain ⟨m0, hm0⟩ : ∃ m : Nat, (L : Int) - (n : Int) = (m : Int) := ⟨L - n, by omega⟩
    have hnL : n ≤ L := by omega
    have hmL : m0 ≤ L := by omega
    go_enter Try.func53, Try.ntmps53
    go_wp2
    go_loopw [5, 1] (fun i x wr => ∃ k m : Nat, i = .int .i64 (k : Int) ∧ x = .int .i64 (m : Int) ∧ k ≤ n ∧ m ≤ L ∧ Hid (∀ i, i < k → ((tat l i)).size ≤ L) ∧ Hid (Below w.heap.size w wr)) (fun i _ _ => n - (intOf i).toNat)
    case atStart => exact ⟨0, m0, rfl, by first | rfl | rw [hm0], by omega, hmL, fun i hi => absurd hi (by omega), Below.refl _ _⟩
    case round =>
      obtain ⟨k, m, rfl, rfl, hk, hmm, HP, HB⟩ := hrel
      by_cases hlt : k < n
      · have hlt1 : (k : Int) < (n : Int) := by omega
        have hlt0 : (0 : Int) ≤ (k : Int) := by omega
        obtain ⟨b, o, rfl, _, _, hc⟩ := (HA.out.below HB.out HH.out).at hlt
        obtain ⟨x, HX⟩ : ∃ x, Hid (x = tat l k) := ⟨_, rfl⟩
        have hzk := HZ.out k hlt
        rw [← HX.out] at hzk
        have HSTEP : Hid (((x)).size ≤ L → ∀ i, i < k + 1 → ((tat l i)).size ≤ L) := fun h i hi => by
          by_cases e : i = k
          · subst e; rw [← HX.out]; exact h
          · exact HP.out i (by omega)
        have p0 := hc 0 (by omega)
        rw [tC0, ← HX.out] at p0
        clear hc
        rw [Nat.mul_one, Nat.add_zero] at p0
        by_cases c1 : (m : Int) - (x.size : Int) < 0
        · go_wp2
          go_ret
          exact ⟨-1, rfl, .inl (by omega), HB⟩
        · obtain ⟨m2, hm2⟩ : ∃ m2 : Nat, (m : Int) - (x.size : Int) = (m2 : Int) := ⟨m - x.size, by omega⟩
          have hm2' : m2 ≤ L := by omega
          have HS2 : Hid (x.size ≤ L) := by show _ ≤ _; omega
          go_wp2
          go_roundw
          case rel => exact ⟨k + 1, m2, by go_num, by first | rfl | rw [hm2], by omega, hm2', HSTEP.out HS2.out, HB⟩
          case measure => simp [intOf]; omega
      · obtain rfl : k = n := by omega
        go_wp2
        go_ret
        exact ⟨(m : Int), rfl, .inr ⟨m, rfl, hmm, hnL, HP.out⟩, HB⟩

set_option maxHeartbeats 2000000 in
set_option maxRecDepth 100000 in
theorem szAtomS_any (lo hi : Nat) (a : Option Addr) (n cap : Nat) (l : List At) (L : Nat) (w : World) (ha : FlIn 3 lo hi w a n (aC l)) (hh : hi ≤ w.heap.size) (hm : n ≤ 9223372036854775807) (hz : ∀ i, i < n → ((aat l i).1).size ≤ 9223372036854775807 ∧ ((aat l i).2.1).size ≤ 9223372036854775807 ∧ ((aat l i).2.2).size ≤ 9223372036854775807) (hL : L ≤ 1048576) :
    Calls Try.prog 54 #[.slice a n cap, .int .i64 (L : Int)] w fun e w' => ∃ x : Int, e = .returned (.int .i64 x) ∧ Hid (x < 0 ∨ ∃ m : Nat, x = (m : Int) ∧ m ≤ L ∧ n ≤ L ∧ ∀ i, i < n → ((aat l i).1).size ≤ L ∧ ((aat l i).2.1).size ≤ L ∧ ((aat l i).2.2).size ≤ L) ∧ Hid (Below w.heap.size w w') := by
  have HA : Hid (FlIn 3 lo hi w a n (aC l)) := ha
  have HH : Hid (hi ≤ w.heap.size) := hh
  have HZ : Hid (∀ i, i < n → ((aat l i).1).size ≤ 9223372036854775807 ∧ ((aat l i).2.1).size ≤ 9223372036854775807 ∧ ((aat l i).2.2).size ≤ 9223372036854775807) := hz
  clear ha hh hz
  by_cases c : (L : Int) - (n : Int) < 0
  · go_enter Try.func54, Try.ntmps54
    go_wp2
    go_ret
    exact ⟨-1, rfl, .inl (by omega), Below.refl _ _⟩
  · obtain ⟨m0, hm0⟩ : ∃ m : Nat, (L : Int) - (n : Int) = (m : Int) := ⟨L - n, by omega⟩
    have hnL : n ≤ L := by omega
    have hmL : m0 ≤ L := by omega
    go_enter Try.func54, Try.ntmps54
    go_wp2
    go_loopw [5, 1] (fun i x wr => ∃ k m : Nat, i = .int .i64 (k : Int) ∧ x = .int .i64 (m : Int) ∧ k ≤ n ∧ m ≤ L ∧ Hid (∀ i, i < k → ((aat l i).1).size ≤ L ∧ ((aat l i).2.1).size ≤ L ∧ ((aat l i).2.2).size ≤ L) ∧ Hid (Below w.heap.size w wr)) (fun i _ _ => n - (intOf i).toNat)
    case atStart => exact ⟨0, m0, rfl, by first | rfl | rw [hm0], by omega, hmL, fun i hi => absurd hi (by omega), Below.refl _ _⟩
    case round =>
      obtain ⟨k, m, rfl, rfl, hk, hmm, HP, HB⟩ := hrel
      by_cases hlt : k < n
      · have hlt1 : (k : Int) < (n : Int) := by omega
        have hlt0 : (0 : Int) ≤ (k : Int) := by omega
        obtain ⟨b, o, rfl, _, _, hc⟩ := (HA.out.below HB.out HH.out).at hlt
        obtain ⟨x, HX⟩ : ∃ x, Hid (x = aat l k) := ⟨_, rfl⟩
        have hzk := HZ.out k hlt
        rw [← HX.out] at hzk
        have HSTEP : Hid (((x).1).size ≤ L ∧ ((x).2.1).size ≤ L ∧ ((x).2.2).size ≤ L → ∀ i, i < k + 1 → ((aat l i).1).size ≤ L ∧ ((aat l i).2.1).size ≤ L ∧ ((aat l i).2.2).size ≤ L) := fun h i hi => by
          by_cases e : i = k
          · subst e; rw [← HX.out]; exact h
          · exact HP.out i (by omega)
        have p0 := hc 0 (by omega)
        rw [aC0, ← HX.out] at p0
        have p1 := hc 1 (by omega)
        rw [aC1, ← HX.out] at p1
        have p2 := hc 2 (by omega)
        rw [aC2, ← HX.out] at p2
        clear hc
        obtain ⟨x0, x1, x2⟩ := x
        dsimp only at p0 p1 p2 hzk
        simp only [Nat.add_zero] at p0
        rw [← Nat.add_assoc] at p1; rw [← Nat.add_assoc] at p2
        go_wp2_with fail
        refine (szAtom_any x0 x1 x2 m _ (by omega) hzk.1 hzk.2.1 hzk.2.2).mono ?_
        rintro e w1 ⟨z, rfl, HZ1, HB1⟩
        have HB2 : Hid (Below w.heap.size w w1) := HB.out.trans (HB1.out.mono HB.out.size)
        clear HB1 p0 p1 p2
        by_cases c1 : z < 0
        · go_wp2
          go_ret
          exact ⟨-1, rfl, .inl (by omega), HB2⟩
        · have HZ3 : Hid (∃ m2 : Nat, z = (m2 : Int) ∧ m2 ≤ m ∧ x0.size ≤ m ∧ x1.size ≤ m ∧ x2.size ≤ m) := by
            rcases HZ1.out with h | h
            · omega
            · exact h
          obtain ⟨m2, rfl, hm2, hs2⟩ := HZ3.out
          have HS2 : Hid (x0.size ≤ L ∧ x1.size ≤ L ∧ x2.size ≤ L) := by show _ ∧ _; omega
          go_wp2
          go_roundw
          case rel => exact ⟨k + 1, m2, by go_num, rfl, by omega, by omega, HSTEP.out HS2.out, HB2⟩
          case measure => simp [intOf]; omega
      · obtain rfl : k = n := by omega
        go_wp2
        go_ret
        exact ⟨(m : Int), rfl, .inr ⟨m, rfl, hmm, hnL, HP.out⟩, HB⟩

set_option maxHeartbeats 2000000 in
set_option maxRecDepth 100000 in
theorem szFilterS_any (lo hi : Nat) (a : Option Addr) (n cap : Nat) (l : List Fl) (L : Nat) (w : World) (ha : FlIn 4 lo hi w a n (fC l)) (hh : hi ≤ w.heap.size) (hm : n ≤ 9223372036854775807) (hz : ∀ i, i < n → ((fat l i).1).size ≤ 9223372036854775807 ∧ ((fat l i).2.2.1).size ≤ 9223372036854775807) (hL : L ≤ 1048576) :
    Calls Try.prog 55 #[.slice a n cap, .int .i64 (L : Int)] w fun e w' => ∃ x : Int, e = .returned (.int .i64 x) ∧ Hid (x < 0 ∨ ∃ m : Nat, x = (m : Int) ∧ m ≤ L ∧ n ≤ L ∧ ∀ i, i < n → ((fat l i).1).size ≤ L ∧ ((fat l i).2.2.1).size ≤ L) ∧ Hid (Below w.heap.size w w') := by
  have HA : Hid (FlIn 4 lo hi w a n (fC l)) := ha
  have HH : Hid (hi ≤ w.heap.size) := hh
  have HZ : Hid (∀ i, i < n → ((fat l i).1).size ≤ 9223372036854775807 ∧ ((fat l i).2.2.1).size ≤ 9223372036854775807) := hz
  clear ha hh hz
  by_cases c : (L : Int) - (n : Int) < 0
  · go_enter Try.func55, Try.ntmps55
    go_wp2
    go_ret
    exact ⟨-1, rfl, .inl (by omega), Below.refl _ _⟩
  · obtain ⟨m0, hm0⟩ : ∃ m : Nat, (L : Int) - (n : Int) = (m : Int) := ⟨L - n, by omega⟩
    have hnL : n ≤ L := by omega
    have hmL : m0 ≤ L := by omega
    go_enter Try.func55, Try.ntmps55
    go_wp2
    go_loopw [5, 1] (fun i x wr => ∃ k m : Nat, i = .int .i64 (k : Int) ∧ x = .int .i64 (m : Int) ∧ k ≤ n ∧ m ≤ L ∧ Hid (∀ i, i < k → ((fat l i).1).size ≤ L ∧ ((fat l i).2.2.1).size ≤ L) ∧ Hid (Below w.heap.size w wr)) (fun i _ _ => n - (intOf i).toNat)
    case atStart => exact ⟨0, m0, rfl, by first | rfl | rw [hm0], by omega, hmL, fun i hi => absurd hi (by omega), Below.refl _ _⟩
    case round =>
      obtain ⟨k, m, rfl, rfl, hk, hmm, HP, HB⟩ := hrel
      by_cases hlt : k < n
      · have hlt1 : (k : Int) < (n : Int) := by omega
        have hlt0 : (0 : Int) ≤ (k : Int) := by omega
        obtain ⟨b, o, rfl, _, _, hc⟩ := (HA.out.below HB.out HH.out).at hlt
        obtain ⟨x, HX⟩ : ∃ x, Hid (x = fat l k) := ⟨_, rfl⟩
        have hzk := HZ.out k hlt
        rw [← HX.out] at hzk
        have HSTEP : Hid (((x).1).size ≤ L ∧ ((x).2.2.1).size ≤ L → ∀ i, i < k + 1 → ((fat l i).1).size ≤ L ∧ ((fat l i).2.2.1).size ≤ L) := fun h i hi => by
          by_cases e : i = k
          · subst e; rw [← HX.out]; exact h
          · exact HP.out i (by omega)
        have p0 := hc 0 (by omega)
        rw [fC0, ← HX.out] at p0
        have p1 := hc 1 (by omega)
        rw [fC1, ← HX.out] at p1
        have p2 := hc 2 (by omega)
        rw [fC2, ← HX.out] at p2
        have p3 := hc 3 (by omega)
        rw [fC3, ← HX.out] at p3
        clear hc
        obtain ⟨x0, x1, x2, x3⟩ := x
        dsimp only at p0 p1 p2 p3 hzk
        simp only [Nat.add_zero] at p0
        rw [← Nat.add_assoc] at p1; rw [← Nat.add_assoc] at p2; rw [← Nat.add_assoc] at p3
        go_wp2_with fail
        refine (szFilter_any x0 x1 x2 x3 m _ (by omega) hzk.1 hzk.2).mono ?_
        rintro e w1 ⟨z, rfl, HZ1, HB1⟩
        have HB2 : Hid (Below w.heap.size w w1) := HB.out.trans (HB1.out.mono HB.out.size)
        clear HB1 p0 p1 p2 p3
        by_cases c1 : z < 0
        · go_wp2
          go_ret
          exact ⟨-1, rfl, .inl (by omega), HB2⟩
        · have HZ3 : Hid (∃ m2 : Nat, z = (m2 : Int) ∧ m2 ≤ m ∧ x0.size ≤ m ∧ x2.size ≤ m) := by
            rcases HZ1.out with h | h
            · omega
            · exact h
          obtain ⟨m2, rfl, hm2, hs2⟩ := HZ3.out
          have HS2 : Hid (x0.size ≤ L ∧ x2.size ≤ L) := by show _ ∧ _; omega
          go_wp2
          go_roundw
          case rel => exact ⟨k + 1, m2, by go_num, rfl, by omega, by omega, HSTEP.out HS2.out, HB2⟩
          case measure => simp [intOf]; omega
      · obtain rfl : k = n := by omega
        go_wp2
        go_ret
        exact ⟨(m : Int), rfl, .inr ⟨m, rfl, hmm, hnL, HP.out⟩, HB⟩

set_option maxHeartbeats 1000000 in
theorem toAtom_any (x0 : ByteArray) (x1 : ByteArray) (x2 : ByteArray) (w : World) : Calls Try.prog 89 #[.agg #[.string x0, .string x1, .string x2]] w fun e w' => e = .returned (.agg #[.string x0, .string x1, .string x2]) ∧ Hid (Below w.heap.size w w') := by
  go_enter Try.func89, Try.ntmps89
  go_wp2
  generalize hW : World.alloc _ _ = W6
  have HB : Hid (Below w.heap.size w W6) := by
    show Below _ _ _
    rw [← hW]
    exact below3 w _ _ _
  have hk : Blk W6 (w.heap.size + 1) 3 (fun i => if i = 0 then .string x0 else if i = 1 then .string x1 else .string x2) := by
    rw [← hW]
    exact (blk_three (w.alloc _) (w.heap.size + 1) (by simp) _ _ _ _).alloc _
  have c0 : W6.cell? ⟨w.heap.size + 1, 0, none⟩ = some (.string x0) := hk.cell (i := 0) (by omega)
  have c1 : W6.cell? ⟨w.heap.size + 1, 1, none⟩ = some (.string x1) := hk.cell (i := 1) (by omega)
  have c2 : W6.cell? ⟨w.heap.size + 1, 2, none⟩ = some (.string x2) := hk.cell (i := 2) (by omega)
  clear hW hk
  refine bodyPost_ret (v := .agg #[.string x0, .string x1, .string x2]) (by simp [results, Try.results89, go_sem, c0, c1, c2]) rfl ?_
  exact ⟨rfl, HB⟩

set_option maxHeartbeats 1000000 in
theorem toFilter_any (x0 : ByteArray) (x1 : Int) (x2 : ByteArray) (x3 : Int) (w : World) : Calls Try.prog 90 #[.agg #[.string x0, .int .i64 x1, .string x2, .int .i64 x3]] w fun e w' => e = .returned (.agg #[.string x0, .int .i64 x1, .string x2, .int .i64 x3]) ∧ Hid (Below w.heap.size w w') := by
  go_enter Try.func90, Try.ntmps90
  go_wp2
  generalize hW : World.alloc _ _ = W6
  have HB : Hid (Below w.heap.size w W6) := by
    show Below _ _ _
    rw [← hW]
    exact below3 w _ _ _
  have hk : Blk W6 (w.heap.size + 1) 4 (fun i => if i = 0 then .string x0 else if i = 1 then .int .i64 x1 else if i = 2 then .string x2 else .int .i64 x3) := by
    rw [← hW]
    exact (blk_four (w.alloc _) (w.heap.size + 1) (by simp) _ _ _ _ _).alloc _
  have c0 : W6.cell? ⟨w.heap.size + 1, 0, none⟩ = some (.string x0) := hk.cell (i := 0) (by omega)
  have c1 : W6.cell? ⟨w.heap.size + 1, 1, none⟩ = some (.int .i64 x1) := hk.cell (i := 1) (by omega)
  have c2 : W6.cell? ⟨w.heap.size + 1, 2, none⟩ = some (.string x2) := hk.cell (i := 2) (by omega)
  have c3 : W6.cell? ⟨w.heap.size + 1, 3, none⟩ = some (.int .i64 x3) := hk.cell (i := 3) (by omega)
  clear hW hk
  refine bodyPost_ret (v := .agg #[.string x0, .int .i64 x1, .string x2, .int .i64 x3]) (by simp [results, Try.results90, go_sem, c0, c1, c2, c3]) rfl ?_
  exact ⟨rfl, HB⟩

/-- the cells of empty elements -/
def zFl (j : Nat) : Value := if j % 2 = 0 then .string ⟨#[]⟩ else .int .i64 0
theorem madeT (n j : Nat) (h : j < n * 1) : (madeCells (Value.string ⟨#[]⟩).cells (n * 1))[j]? = some (.string ⟨#[]⟩) := by
  unfold madeCells
  rw [Array.getElem?_map, Array.getElem?_eq_getElem (by simpa using h)]
  simp only [Array.getElem_range, Option.map_some, Option.some.injEq]
  change (#[Value.string ⟨#[]⟩] : Array Value)[j % 1]! = _
  rw [show j % 1 = 0 by omega]; rfl
theorem madeA (n j : Nat) (h : j < n * 3) : (madeCells (Value.agg #[.string ⟨#[]⟩, .string ⟨#[]⟩, .string ⟨#[]⟩]).cells (n * 3))[j]? = some (.string ⟨#[]⟩) := by
  unfold madeCells
  rw [Array.getElem?_map, Array.getElem?_eq_getElem (by simpa using h)]
  simp only [Array.getElem_range, Option.map_some, Option.some.injEq]
  change (#[Value.string ⟨#[]⟩, Value.string ⟨#[]⟩, Value.string ⟨#[]⟩] : Array Value)[j % 3]! = _
  rcases (show j % 3 = 0 ∨ j % 3 = 1 ∨ j % 3 = 2 by omega) with e | e | e <;> rw [e] <;> rfl
theorem madeF (n j : Nat) (h : j < n * 4) : (madeCells (Value.agg #[.string ⟨#[]⟩, .int .i64 0, .string ⟨#[]⟩, .int .i64 0]).cells (n * 4))[j]? = some (zFl j) := by
  unfold madeCells zFl
  rw [Array.getElem?_map, Array.getElem?_eq_getElem (by simpa using h)]
  simp only [Array.getElem_range, Option.map_some, Option.some.injEq]
  change (#[Value.string ⟨#[]⟩, Value.int .i64 0, Value.string ⟨#[]⟩, Value.int .i64 0] : Array Value)[j % 4]! = _
  rcases (show j % 4 = 0 ∨ j % 4 = 1 ∨ j % 4 = 2 ∨ j % 4 = 3 by omega) with e | e | e | e <;> rw [e]
  · rw [if_pos (by omega)]; rfl
  · rw [if_neg (by omega)]; rfl
  · rw [if_pos (by omega)]; rfl
  · rw [if_neg (by omega)]; rfl
theorem Try.infoQt : (Try.prog.info? 9).map (fun i => (i.zero, i.size, i.bytes)) = some (some (.string ⟨#[]⟩), 1, 16) := by kernel_rfl
set_option maxHeartbeats 2000000 in
set_option maxRecDepth 100000 in
theorem toStringS_any (lo hi : Nat) (a : Option Addr) (n cap : Nat) (l : List Tx) (w : World) (ha : FlIn 1 lo hi w a n (tC l)) (hh : hi ≤ w.heap.size) (hm : n ≤ 1048576) :
    Calls Try.prog 57 #[.slice a n cap] w fun e w' => ∃ g : Nat, e = .returned (.slice (some ⟨g, 0, none⟩) n n) ∧ Hid (FlOwn 1 w.heap.size w'.heap.size w' (some ⟨g, 0, none⟩) n (tC l)) ∧ Hid (Below w.heap.size w w') := by
  have HA : Hid (FlIn 1 lo hi w a n (tC l)) := ha
  have HH : Hid (hi ≤ w.heap.size) := hh
  obtain ⟨i0, hi0, hz0, hz1, hz2⟩ := info_parts Try.infoQt
  have hmk := Go.run_make (P := Try.prog) w 42 9 i0 _ Try.underlying42 hi0 hz0 .i64 .i64 (n : Int) (n : Int) (by omega) (by omega) (by rw [hz2]; omega) (by omega)
  rw [hz1] at hmk
  obtain ⟨cs, hcs⟩ : ∃ cs, cs = madeCells (Value.string ⟨#[]⟩).cells ((n : Int).toNat * 1) := ⟨_, rfl⟩
  rw [← hcs, Int.toNat_natCast] at hmk
  have HZ : Hid (cs = madeCells (Value.string ⟨#[]⟩).cells (n * 1)) := by show _ = _; rw [hcs, Int.toNat_natCast]
  clear ha hh hcs hi0 hz0 hz1 hz2
  go_enter Try.func57, Try.ntmps57
  go_wp2
  go_loopw [4] (fun i wr => ∃ k : Nat, i = .int .i64 k ∧ k ≤ n ∧ Hid (Blk wr w.heap.size (n * 1) (fun j => if j < k * 1 then tC l j else Value.string ⟨#[]⟩)) ∧ Hid (Below w.heap.size w wr) ∧ Hid (w.heap.size < wr.heap.size)) (fun i _ => n - (intOf i).toNat)
  case atStart =>
    refine ⟨0, rfl, by omega, ?_, (Below.refl _ _).alloc (Nat.le_refl _) _, by show _ < _; simp⟩
    have hs : cs.size = n * 1 := by rw [HZ.out, size_madeCells]
    have := blk_new w cs 9 (fun _ => .string ⟨#[]⟩) (fun i hi => by rw [HZ.out]; exact madeT n i (by omega))
    rw [hs] at this
    exact this.congr (fun j hj => by rw [if_neg (by omega)])
  case round =>
    obtain ⟨k, rfl, hk, HP, HL, HS⟩ := hrel
    by_cases hlt : k < n
    · have hlt1 : (k : Int) < (n : Int) := by omega
      have hlt0 : (0 : Int) ≤ (k : Int) := by omega
      obtain ⟨b, o, rfl, h1, h2, hc⟩ := (HA.out.below HL.out HH.out).at hlt
      obtain ⟨x, HX⟩ : ∃ x, Hid (x = tat l k) := ⟨_, rfl⟩
      have p0 := hc 0 (by omega)
      rw [tC0, ← HX.out] at p0
      have HC0 := tC0 l k
      rw [← HX.out] at HC0
      rw [Nat.mul_one, Nat.add_zero] at p0
      rw [Nat.mul_one, Nat.add_zero] at HC0
      have HC0' : Hid (tC l k = .string x) := HC0
      have hd0 := HP.out.cell (i := k) (by omega)
      have hf0 := Blk.frozen HP.out k
      clear hc h1 h2 HC0
      go_wp2
      go_roundw
      case rel =>
        refine ⟨k + 1, by go_num, by omega, (Blk.set HP.out k (by omega) _).congr fun j hj => ?_, set_above HL.out (Nat.le_refl _) _, by have := HS.out; show _ < _; simp; omega⟩
        by_cases e : j = k
        · subst e; rw [if_pos rfl, if_pos (by omega)]; exact HC0'.out.symm
        · rw [if_neg e]
          by_cases e2 : j < k * 1
          · rw [if_pos e2, if_pos (by omega)]
          · rw [if_neg e2, if_neg (by omega)]
      case measure => simp [intOf]; omega
    · obtain rfl : k = n := by omega
      go_wp2
      go_ret
      exact ⟨w.heap.size, rfl, .inr ⟨_, rfl, Nat.le_refl _, HS.out, HP.out.congr fun j hj => by rw [if_pos hj]⟩, HL⟩

theorem Try.infoQa : (Try.prog.info? 101).map (fun i => (i.zero, i.size, i.bytes)) = some (some (.agg #[.string ⟨#[]⟩, .string ⟨#[]⟩, .string ⟨#[]⟩]), 3, 48) := by kernel_rfl
set_option maxHeartbeats 2000000 in
set_option maxRecDepth 100000 in
theorem toAtomS_any (lo hi : Nat) (a : Option Addr) (n cap : Nat) (l : List At) (w : World) (ha : FlIn 3 lo hi w a n (aC l)) (hh : hi ≤ w.heap.size) (hm : n ≤ 1048576) :
    Calls Try.prog 58 #[.slice a n cap] w fun e w' => ∃ g : Nat, e = .returned (.slice (some ⟨g, 0, none⟩) n n) ∧ Hid (FlOwn 3 w.heap.size w'.heap.size w' (some ⟨g, 0, none⟩) n (aC l)) ∧ Hid (Below w.heap.size w w') := by
  have HA : Hid (FlIn 3 lo hi w a n (aC l)) := ha
  have HH : Hid (hi ≤ w.heap.size) := hh
  obtain ⟨i0, hi0, hz0, hz1, hz2⟩ := info_parts Try.infoQa
  have hmk := Go.run_make (P := Try.prog) w 49 101 i0 _ Try.underlying49 hi0 hz0 .i64 .i64 (n : Int) (n : Int) (by omega) (by omega) (by rw [hz2]; omega) (by omega)
  rw [hz1] at hmk
  obtain ⟨cs, hcs⟩ : ∃ cs, cs = madeCells (Value.agg #[.string ⟨#[]⟩, .string ⟨#[]⟩, .string ⟨#[]⟩]).cells ((n : Int).toNat * 3) := ⟨_, rfl⟩
  rw [← hcs, Int.toNat_natCast] at hmk
  have HZ : Hid (cs = madeCells (Value.agg #[.string ⟨#[]⟩, .string ⟨#[]⟩, .string ⟨#[]⟩]).cells (n * 3)) := by show _ = _; rw [hcs, Int.toNat_natCast]
  clear ha hh hcs hi0 hz0 hz1 hz2
  go_enter Try.func58, Try.ntmps58
  go_wp2
  go_loopw [4] (fun i wr => ∃ k : Nat, i = .int .i64 k ∧ k ≤ n ∧ Hid (Blk wr w.heap.size (n * 3) (fun j => if j < k * 3 then aC l j else Value.string ⟨#[]⟩)) ∧ Hid (Below w.heap.size w wr) ∧ Hid (w.heap.size < wr.heap.size)) (fun i _ => n - (intOf i).toNat)
  case atStart =>
    refine ⟨0, rfl, by omega, ?_, (Below.refl _ _).alloc (Nat.le_refl _) _, by show _ < _; simp⟩
    have hs : cs.size = n * 3 := by rw [HZ.out, size_madeCells]
    have := blk_new w cs 101 (fun _ => .string ⟨#[]⟩) (fun i hi => by rw [HZ.out]; exact madeA n i (by omega))
    rw [hs] at this
    exact this.congr (fun j hj => by rw [if_neg (by omega)])
  case round =>
    obtain ⟨k, rfl, hk, HP, HL, HS⟩ := hrel
    by_cases hlt : k < n
    · have hlt1 : (k : Int) < (n : Int) := by omega
      have hlt0 : (0 : Int) ≤ (k : Int) := by omega
      obtain ⟨b, o, rfl, h1, h2, hc⟩ := (HA.out.below HL.out HH.out).at hlt
      obtain ⟨x, HX⟩ : ∃ x, Hid (x = aat l k) := ⟨_, rfl⟩
      have p0 := hc 0 (by omega)
      rw [aC0, ← HX.out] at p0
      have HC0 := aC0 l k
      rw [← HX.out] at HC0
      have p1 := hc 1 (by omega)
      rw [aC1, ← HX.out] at p1
      have HC1 := aC1 l k
      rw [← HX.out] at HC1
      have p2 := hc 2 (by omega)
      rw [aC2, ← HX.out] at p2
      have HC2 := aC2 l k
      rw [← HX.out] at HC2
      obtain ⟨x0, x1, x2⟩ := x
      dsimp only at p0 p1 p2 HC0 HC1 HC2
      simp only [Nat.add_zero] at p0
      rw [← Nat.add_assoc] at p1; rw [← Nat.add_assoc] at p2
      have HD0 : Hid (aC l (k * 3 + 0) = .string x0) := HC0
      have HD1 : Hid (aC l (k * 3 + 1) = .string x1) := HC1
      have HD2 : Hid (aC l (k * 3 + 2) = .string x2) := HC2
      clear hc h1 h2 HC0 HC1 HC2
      go_wp2_with fail
      refine (toAtom_any x0 x1 x2 wr).mono ?_
      rintro e w1 ⟨rfl, B1⟩
      have HS1 : Hid (wr.heap.size ≤ w1.heap.size) := B1.out.size
      have HB1 : Hid (Below w.heap.size w w1) := HL.out.trans (B1.out.mono HL.out.size)
      have HBK : Hid (Blk w1 w.heap.size (n * 3) (fun j => if j < k * 3 then aC l j else Value.string ⟨#[]⟩)) := HP.out.of_block (B1.out.block _ HS.out)
      clear B1 p0 p1 p2
      have hd0 := HBK.out.cell (i := k * 3) (by omega)
      have hf0 := Blk.frozen HBK.out (k * 3)
      have hd1 := HBK.out.cell (i := k * 3 + 1) (by omega)
      have hf1 := Blk.frozen HBK.out (k * 3 + 1)
      have hd2 := HBK.out.cell (i := k * 3 + 2) (by omega)
      have hf2 := Blk.frozen HBK.out (k * 3 + 2)
      go_wp2
      go_roundw
      case rel =>
        refine ⟨k + 1, by go_num, by omega, Blk.congr (Blk.set (Blk.set (Blk.set HBK.out (k * 3) (by omega) (.string x0)) (k * 3 + 1) (by omega) (.string x1)) (k * 3 + 2) (by omega) (.string x2)) fun j hj => ?_, (set_above (set_above (set_above HB1.out (Nat.le_refl _) _) (Nat.le_refl _) _) (Nat.le_refl _) _), by have := HS.out; have := HS1.out; show _ < _; simp; omega⟩
        by_cases e2 : j = k * 3 + 2
        · subst e2; rw [if_pos rfl, if_pos (by omega)]; exact (HD2.out).symm
        rw [if_neg e2]
        by_cases e1 : j = k * 3 + 1
        · subst e1; rw [if_pos rfl, if_pos (by omega)]; exact (HD1.out).symm
        rw [if_neg e1]
        by_cases e0 : j = k * 3
        · subst e0; rw [if_pos rfl, if_pos (by omega)]; exact (HD0.out).symm
        rw [if_neg e0]
        by_cases e9 : j < k * 3
        · rw [if_pos e9, if_pos (by omega)]
        · rw [if_neg e9, if_neg (by omega)]
      case measure => simp [intOf]; omega
    · obtain rfl : k = n := by omega
      go_wp2
      go_ret
      exact ⟨w.heap.size, rfl, .inr ⟨_, rfl, Nat.le_refl _, HS.out, HP.out.congr fun j hj => by rw [if_pos hj]⟩, HL⟩

theorem Try.infoQf : (Try.prog.info? 115).map (fun i => (i.zero, i.size, i.bytes)) = some (some (.agg #[.string ⟨#[]⟩, .int .i64 0, .string ⟨#[]⟩, .int .i64 0]), 4, 48) := by kernel_rfl
set_option maxHeartbeats 2000000 in
set_option maxRecDepth 100000 in
theorem toFilterS_any (lo hi : Nat) (a : Option Addr) (n cap : Nat) (l : List Fl) (w : World) (ha : FlIn 4 lo hi w a n (fC l)) (hh : hi ≤ w.heap.size) (hm : n ≤ 1048576) :
    Calls Try.prog 59 #[.slice a n cap] w fun e w' => ∃ g : Nat, e = .returned (.slice (some ⟨g, 0, none⟩) n n) ∧ Hid (FlOwn 4 w.heap.size w'.heap.size w' (some ⟨g, 0, none⟩) n (fC l)) ∧ Hid (Below w.heap.size w w') := by
  have HA : Hid (FlIn 4 lo hi w a n (fC l)) := ha
  have HH : Hid (hi ≤ w.heap.size) := hh
  obtain ⟨i0, hi0, hz0, hz1, hz2⟩ := info_parts Try.infoQf
  have hmk := Go.run_make (P := Try.prog) w 50 115 i0 _ Try.underlying50 hi0 hz0 .i64 .i64 (n : Int) (n : Int) (by omega) (by omega) (by rw [hz2]; omega) (by omega)
  rw [hz1] at hmk
  obtain ⟨cs, hcs⟩ : ∃ cs, cs = madeCells (Value.agg #[.string ⟨#[]⟩, .int .i64 0, .string ⟨#[]⟩, .int .i64 0]).cells ((n : Int).toNat * 4) := ⟨_, rfl⟩
  rw [← hcs, Int.toNat_natCast] at hmk
  have HZ : Hid (cs = madeCells (Value.agg #[.string ⟨#[]⟩, .int .i64 0, .string ⟨#[]⟩, .int .i64 0]).cells (n * 4)) := by show _ = _; rw [hcs, Int.toNat_natCast]
  clear ha hh hcs hi0 hz0 hz1 hz2
  go_enter Try.func59, Try.ntmps59
  go_wp2
  go_loopw [4] (fun i wr => ∃ k : Nat, i = .int .i64 k ∧ k ≤ n ∧ Hid (Blk wr w.heap.size (n * 4) (fun j => if j < k * 4 then fC l j else zFl j)) ∧ Hid (Below w.heap.size w wr) ∧ Hid (w.heap.size < wr.heap.size)) (fun i _ => n - (intOf i).toNat)
  case atStart =>
    refine ⟨0, rfl, by omega, ?_, (Below.refl _ _).alloc (Nat.le_refl _) _, by show _ < _; simp⟩
    have hs : cs.size = n * 4 := by rw [HZ.out, size_madeCells]
    have := blk_new w cs 115 zFl (fun i hi => by rw [HZ.out]; exact madeF n i (by omega))
    rw [hs] at this
    exact this.congr (fun j hj => by rw [if_neg (by omega)])
  case round =>
    obtain ⟨k, rfl, hk, HP, HL, HS⟩ := hrel
    by_cases hlt : k < n
    · have hlt1 : (k : Int) < (n : Int) := by omega
      have hlt0 : (0 : Int) ≤ (k : Int) := by omega
      obtain ⟨b, o, rfl, h1, h2, hc⟩ := (HA.out.below HL.out HH.out).at hlt
      obtain ⟨x, HX⟩ : ∃ x, Hid (x = fat l k) := ⟨_, rfl⟩
      have p0 := hc 0 (by omega)
      rw [fC0, ← HX.out] at p0
      have HC0 := fC0 l k
      rw [← HX.out] at HC0
      have p1 := hc 1 (by omega)
      rw [fC1, ← HX.out] at p1
      have HC1 := fC1 l k
      rw [← HX.out] at HC1
      have p2 := hc 2 (by omega)
      rw [fC2, ← HX.out] at p2
      have HC2 := fC2 l k
      rw [← HX.out] at HC2
      have p3 := hc 3 (by omega)
      rw [fC3, ← HX.out] at p3
      have HC3 := fC3 l k
      rw [← HX.out] at HC3
      obtain ⟨x0, x1, x2, x3⟩ := x
      dsimp only at p0 p1 p2 p3 HC0 HC1 HC2 HC3
      simp only [Nat.add_zero] at p0
      rw [← Nat.add_assoc] at p1; rw [← Nat.add_assoc] at p2; rw [← Nat.add_assoc] at p3
      have HD0 : Hid (fC l (k * 4 + 0) = .string x0) := HC0
      have HD1 : Hid (fC l (k * 4 + 1) = .int .i64 x1) := HC1
      have HD2 : Hid (fC l (k * 4 + 2) = .string x2) := HC2
      have HD3 : Hid (fC l (k * 4 + 3) = .int .i64 x3) := HC3
      clear hc h1 h2 HC0 HC1 HC2 HC3
      go_wp2_with fail
      refine (toFilter_any x0 x1 x2 x3 wr).mono ?_
      rintro e w1 ⟨rfl, B1⟩
      have HS1 : Hid (wr.heap.size ≤ w1.heap.size) := B1.out.size
      have HB1 : Hid (Below w.heap.size w w1) := HL.out.trans (B1.out.mono HL.out.size)
      have HBK : Hid (Blk w1 w.heap.size (n * 4) (fun j => if j < k * 4 then fC l j else zFl j)) := HP.out.of_block (B1.out.block _ HS.out)
      clear B1 p0 p1 p2 p3
      have hd0 := HBK.out.cell (i := k * 4) (by omega)
      have hf0 := Blk.frozen HBK.out (k * 4)
      have hd1 := HBK.out.cell (i := k * 4 + 1) (by omega)
      have hf1 := Blk.frozen HBK.out (k * 4 + 1)
      have hd2 := HBK.out.cell (i := k * 4 + 2) (by omega)
      have hf2 := Blk.frozen HBK.out (k * 4 + 2)
      have hd3 := HBK.out.cell (i := k * 4 + 3) (by omega)
      have hf3 := Blk.frozen HBK.out (k * 4 + 3)
      go_wp2
      go_roundw
      case rel =>
        refine ⟨k + 1, by go_num, by omega, Blk.congr (Blk.set (Blk.set (Blk.set (Blk.set HBK.out (k * 4) (by omega) (.string x0)) (k * 4 + 1) (by omega) (.int .i64 x1)) (k * 4 + 2) (by omega) (.string x2)) (k * 4 + 3) (by omega) (.int .i64 x3)) fun j hj => ?_, (set_above (set_above (set_above (set_above HB1.out (Nat.le_refl _) _) (Nat.le_refl _) _) (Nat.le_refl _) _) (Nat.le_refl _) _), by have := HS.out; have := HS1.out; show _ < _; simp; omega⟩
        by_cases e3 : j = k * 4 + 3
        · subst e3; rw [if_pos rfl, if_pos (by omega)]; exact (HD3.out).symm
        rw [if_neg e3]
        by_cases e2 : j = k * 4 + 2
        · subst e2; rw [if_pos rfl, if_pos (by omega)]; exact (HD2.out).symm
        rw [if_neg e2]
        by_cases e1 : j = k * 4 + 1
        · subst e1; rw [if_pos rfl, if_pos (by omega)]; exact (HD1.out).symm
        rw [if_neg e1]
        by_cases e0 : j = k * 4
        · subst e0; rw [if_pos rfl, if_pos (by omega)]; exact (HD0.out).symm
        rw [if_neg e0]
        by_cases e9 : j < k * 4
        · rw [if_pos e9, if_pos (by omega)]
        · rw [if_neg e9, if_neg (by omega)]
      case measure => simp [intOf]; omega
    · obtain rfl : k = n := by omega
      go_wp2
      go_ret
      exact ⟨w.heap.size, rfl, .inr ⟨_, rfl, Nat.le_refl _, HS.out, HP.out.congr fun j hj => by rw [if_pos hj]⟩, HL⟩

end Go.Proofs.Ytkcflhlipdnbnaa
