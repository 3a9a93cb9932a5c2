import Derived.Test.YtbepmeipjdpipaaGreatJo06
import Derived.Test.YtbepmeipjdpipaaGreatJo05
import Derived.Test.YtbepmeipjdpipaaGreatJo01
namespace Go.Proofs.YtbepmeipjdpipaaGreat
open Go.RowKit
def mkC (pv lv av : Value) (bd : Bool) : Nat → Value := fun i => if i = 0 then pv else if i = 1 then lv else if i = 2 then av else .bool bd
def lbC (lb : List Int) : Nat → Value := fun i => .int .u8 (lb.getD i 0)
def NewOr (H H' : Nat) (a a' : Option Addr) : Prop := a' = a ∨ ∀ b o, a' = some ⟨b, o, none⟩ → H ≤ b ∧ b < H'
theorem NewOr.refl (H H' : Nat) (a : Option Addr) : NewOr H H' a a := .inl rfl
def Jn (M : Nat) (w : World) (pv lv : Value) (bd : Bool) (a0 : Option Addr) (L : List Ed) (wr : World) : Prop :=
 ∃ (aa : Option Addr) (an ac : Nat), Hid (Blk wr M 4 (mkC pv lv (.slice aa an ac) bd)) ∧ Hid (L.length = an) ∧ Hid (EdgesIn (M + 1) wr.heap.size wr aa L) ∧ Hid (KeptP (fun c => c = M) w wr) ∧ Hid (NewOr w.heap.size wr.heap.size a0 aa)
theorem joinR_len (lb : List Int) (f : Int) : ∀ (ts : List Int) (ar : List Ed), (joinR lb f ts ar).length ≤ ar.length + ts.length
 | [], ar => Nat.le_refl _
 | t :: ts, ar => by
  have h1 := joinR_len lb f ts (putE ar (f, lbAt lb t, t))
  have h2 := putE_len ar (f, lbAt lb t, t)
  show (joinR lb f ts (putE ar _)).length ≤ _
  rw [List.length_cons]
  omega
theorem joinF_len (lb : List Int) (ts : List Int) : ∀ (fs : List Int) (ar : List Ed), (joinF lb fs ts ar).length ≤ ar.length + fs.length * ts.length
 | [], ar => by show ar.length ≤ _; omega
 | f :: fs, ar => by
  have h1 := joinF_len lb ts fs (joinR lb f ts ar)
  have h2 := joinR_len lb f ts ar
  show (joinF lb fs ts (joinR lb f ts ar)).length ≤ _
  rw [List.length_cons, Nat.add_mul]
  omega
theorem joinF_snoc (lb : List Int) (ts fs : List Int) (f : Int) (ar : List Ed) : joinF lb (fs ++ [f]) ts ar = joinR lb f ts (joinF lb fs ts ar) := by unfold joinF; rw [List.foldl_append]; rfl
theorem joinR_snoc (lb : List Int) (f t : Int) (ts : List Int) (ar : List Ed) : joinR lb f (ts ++ [t]) ar = putE (joinR lb f ts ar) (f, lbAt lb t, t) := by unfold joinR; rw [List.foldl_append]; rfl
set_option maxHeartbeats 600000 in
set_option maxRecDepth 100000 in
theorem join_any (M : Nat) (pv : Value) (la : Option Addr) (ln lc lo2 hi2 : Nat) (lb : List Int) (aa : Option Addr) (an ac : Nat) (ar : List Ed) (bd : Bool) (fa : Option Addr) (nf cf : Nat) (fs : List Int) (ta : Option Addr) (nt ct : Nat) (ts : List Int) (w : World)
  (hb : Blk w M 4 (mkC pv (.slice la ln lc) (.slice aa an ac) bd)) (hl : FlIn 1 lo2 hi2 w la ln (lbC lb)) (hlo : M < lo2) (hhi : hi2 ≤ w.heap.size) (hln : lb.length = ln) (hll : ln ≤ 24) (ha : EdgesIn (M + 1) w.heap.size w aa ar) (han : ar.length = an) (hf : RowIn (M + 1) w.heap.size w fa fs) (hfn : fs.length = nf) (ht : RowIn (M + 1) w.heap.size w ta ts) (htn : ts.length = nt) (htt : ∀ x, x ∈ ts → ∃ t : Nat, 1 ≤ t ∧ t ≤ ln ∧ x = (t : Int)) (hsz : an + nf * nt ≤ 1048576) (hnf : nf ≤ 1048576) (hnt : nt ≤ 1048576) :
  Calls Tryz.prog 59 #[.pointer (some ⟨M, 0, none⟩), .slice fa nf cf, .slice ta nt ct] w fun e w' => e = .returned (.tuple #[]) ∧ Jn M w pv (.slice la ln lc) bd aa (joinF lb fs ts ar) w' := by
 have HL : Hid (FlIn 1 lo2 hi2 w la ln (lbC lb)) := hl
 have HF : Hid (RowIn (M + 1) w.heap.size w fa fs) := hf
 have HT : Hid (RowIn (M + 1) w.heap.size w ta ts) := ht
 have HNF : Hid (fs.length = nf) := hfn
 have HNT : Hid (ts.length = nt) := htn
 have HLN : Hid (lb.length = ln ∧ ln ≤ 24 ∧ M < lo2 ∧ hi2 ≤ w.heap.size) := ⟨hln, hll, hlo, hhi⟩
 have HTT : Hid (∀ x, x ∈ ts → ∃ t : Nat, 1 ≤ t ∧ t ≤ ln ∧ x = (t : Int)) := htt
 have HMW : Hid (M < w.heap.size) := hb.lt
 have HLEN : Hid (∀ k j, k < nf → j ≤ nt → (joinR lb (fs.getD k 0) (ts.take j) (joinF lb (fs.take k) ts ar)).length ≤ 1048576) := fun k j hk hj => by
  have h1 := joinR_len lb (fs.getD k 0) (ts.take j) (joinF lb (fs.take k) ts ar)
  have h2 := joinF_len lb ts (fs.take k) ar
  rw [List.length_take] at h1 h2
  rw [htn] at h1 h2
  rw [hfn] at h2
  have h3 : (min k nf + 1) * nt ≤ nf * nt := Nat.mul_le_mul_right _ (by omega)
  rw [Nat.add_mul] at h3
  omega
 have HJ0 : Hid (Jn M w pv (.slice la ln lc) bd aa (joinF lb (fs.take 0) ts ar) w) := ⟨aa, an, ac, hb, han, ha, ⟨rfl, rfl, rfl, Nat.le_refl _, fun _ _ _ => rfl⟩, NewOr.refl _ _ _⟩
 clear hb hl hlo hhi hln hll ha han hf hfn ht htn htt hsz
 go_enter Tryz.func59, Tryz.ntmps59
 go_wp2
 go_loopw [6] (fun i wr => ∃ k : Nat, i = .int .i64 (k : Int) ∧ k ≤ nf ∧ Hid (Jn M w pv (.slice la ln lc) bd aa (joinF lb (fs.take k) ts ar) wr)) (fun i _ => nf - (intOf i).toNat)
 case atStart => exact ⟨0, rfl, by omega, HJ0⟩
 case round =>
  obtain ⟨k, rfl, hk, HJ⟩ := hrel
  by_cases hlt : k < nf
  ·have hlt1 : (k : Int) < (nf : Int) := by omega
   have hlt0 : (0 : Int) ≤ (k : Int) := by omega
   obtain ⟨f, HFF⟩ : ∃ f, Hid (f = fs.getD k 0) := ⟨_, rfl⟩
   obtain ⟨AK, HAK⟩ : ∃ L, Hid (L = joinF lb (fs.take k) ts ar) := ⟨_, rfl⟩
   have HNX : Hid (joinF lb (fs.take (k + 1)) ts ar = joinR lb f ts AK) := by show _ = _; rw [take_snocI fs (by rw [HNF.out]; exact hlt), joinF_snoc, HFF.out, HAK.out]
   have HLK : Hid (∀ j, j ≤ nt → (joinR lb f (ts.take j) AK).length ≤ 1048576) := fun j hj => by rw [HFF.out, HAK.out]; exact HLEN.out k j hlt hj
   have HJ1 : Hid (Jn M w pv (.slice la ln lc) bd aa (joinR lb f (ts.take 0) AK) wr) := by show Jn _ _ _ _ _ _ _ _; rw [HAK.out]; exact HJ.out
   clear HJ
   go_wp2
   go_loopw [7] (fun i wr => ∃ j : Nat, i = .int .i64 (j : Int) ∧ j ≤ nt ∧ Hid (Jn M w pv (.slice la ln lc) bd aa (joinR lb f (ts.take j) AK) wr)) (fun i _ => nt - (intOf i).toNat)
   case atStart => exact ⟨0, rfl, by omega, HJ1⟩
   case round =>
    obtain ⟨j, rfl, hj, HJ⟩ := hrel
    by_cases hjt : j < nt
    ·have hjt1 : (j : Int) < (nt : Int) := by omega
     have hjt0 : (0 : Int) ≤ (j : Int) := by omega
     obtain ⟨u, un, uc, HB, HUN, HU, HKW, HNO⟩ := HJ.out
     have HSZ : Hid (w.heap.size ≤ wr.heap.size) := HKW.out.size
     obtain ⟨t, ht1, ht2, hte⟩ := HTT.out (ts.getD j 0) (by rw [List.getD, List.getElem?_eq_getElem (by rw [HNT.out]; exact hjt)]; exact List.getElem_mem _)
     obtain ⟨fb, fo, rfl, hfr⟩ := (HF.out.kept HKW.out (Nat.le_refl _) (fun c h1 _ e => by omega)).num (i := k) (by rw [HNF.out]; exact hlt)
     obtain ⟨tb, tt, rfl, htr⟩ := (HT.out.kept HKW.out (Nat.le_refl _) (fun c h1 _ e => by omega)).num (i := j) (by rw [HNT.out]; exact hjt)
     obtain ⟨lbb, lbo, rfl, hlb1, _, hlc⟩ := (HL.out.kept HKW.out HLN.out.2.2.2 (fun c h1 _ e => by have := HLN.out; omega)).at (k := t - 1) (by omega)
     have hlr := hlc 0 (by omega)
     simp only [Nat.add_zero, Nat.mul_one] at hlr
     obtain ⟨y, HY⟩ : ∃ y, Hid (y = lb.getD (t - 1) 0) := ⟨_, rfl⟩
     have hlr2 : wr.cell? ⟨lbb, lbo + (t - 1), none⟩ = some (.int .u8 y) := by rw [hlr, HY.out]; rfl
     rw [hte] at htr
     rw [← HFF.out] at hfr
     have hm0 := HB.out.cell (i := 0) (by omega)
     have hm1 : wr.cell? ⟨M, 1, none⟩ = some (.slice (some ⟨lbb, lbo, none⟩) ln lc) := HB.out.cell (i := 1) (by omega)
     have hm2 : wr.cell? ⟨M, 2, none⟩ = some (.slice u un uc) := HB.out.cell (i := 2) (by omega)
     have hun : un ≤ 1048576 := by have h := HLK.out j hj; rw [HUN.out] at h; exact h
     have ht0 : (0 : Int) ≤ (t : Int) - 1 := by omega
     have ht4 : (1 : Int) ≤ (t : Int) := by omega
     have ht3 : (t : Int) - 1 < (ln : Int) := by omega
     have htn : ((t : Int) - 1).toNat = t - 1 := by omega
     have hw1 : IntKind.i64.wrap ((t : Int) - 1) = (t : Int) - 1 := by have := HLN.out.2.1; simp [IntKind.wrap, IntKind.bits, IntKind.signed]; omega
     obtain ⟨Q, HQ⟩ : ∃ Q, Hid (Q = joinR lb f (ts.take j) AK) := ⟨_, rfl⟩
     rw [← HQ.out] at HUN HU
     have HNQ : Hid (joinR lb f (ts.take (j + 1)) AK = putE Q (f, y, (t : Int))) := by show _ = _; rw [take_snocI ts (by rw [HNT.out]; exact hjt), joinR_snoc, HQ.out, hte, HY.out]; unfold lbAt; simp
     have HC : Hid (∀ w0, Below wr.heap.size wr w0 → Calls Tryz.prog 73 #[.slice u un uc, .agg #[.int .i64 f, .int .u8 y, .int .i64 (t : Int)]] w0 fun e w' => ∃ (a' : Option Addr) (n' cap' : Nat), e = .returned (.slice a' n' cap') ∧ Hid ((putE Q (f, y, (t : Int))).length = n') ∧ Hid (w'.ownsRow w0.heap.size 130 3 (.slice a' n' cap') n' (ecells (putE Q (f, y, (t : Int))))) ∧ Hid (Below w0.heap.size w0 w')) := fun w0 h =>
      l07Put_any (M + 1) wr.heap.size u un uc Q (f, y, (t : Int)) w0 (HU.out.below h (Nat.le_refl _)) h.size HUN.out hun
     have HBD : Hid (Below wr.heap.size wr wr.drew) := (Below.refl _ _).drew
     have HLB : Hid (lbb < wr.heap.size ∧ fb < wr.heap.size ∧ tb < wr.heap.size ∧ M < wr.heap.size) := ⟨lt_of_cell hlr2, lt_of_cell hfr, lt_of_cell htr, lt_of_cell hm2⟩
     have HNE : Hid (fb ≠ M ∧ tb ≠ M) := by
      refine ⟨?_, ?_⟩
      ·rcases HF.out with h | ⟨b, o, e, h1, _⟩
       ·rw [h] at HNF; have := HNF.out; simp at this; omega
       ·cases e; omega
      ·rcases HT.out with h | ⟨b, o, e, h1, _⟩
       ·rw [h] at HNT; have := HNT.out; simp at this; omega
       ·cases e; omega
     have HNM : Hid (lbb ≠ M) := by have := HLN.out; show _ ≠ _; omega
     have HKS : Hid (∀ z, Below wr.heap.size wr z → (z.cell? ⟨M, 1, none⟩ = some (.slice (some ⟨lbb, lbo, none⟩) ln lc) ∧ z.cell? ⟨M, 2, none⟩ = some (.slice u un uc)) ∧ z.cell? ⟨lbb, lbo + (t - 1), none⟩ = some (.int .u8 y) ∧ z.cell? ⟨fb, fo + k, none⟩ = some (.int .i64 f) ∧ z.cell? ⟨tb, tt + j, none⟩ = some (.int .i64 (t : Int))) := fun z h => ⟨⟨cell_below hm1 h HLB.out.2.2.2, cell_below hm2 h HLB.out.2.2.2⟩, cell_below hlr2 h HLB.out.1, cell_below hfr h HLB.out.2.1, cell_below htr h HLB.out.2.2.1⟩
     obtain ⟨⟨d1, d2⟩, d3, d4, d5⟩ := HKS.out _ HBD.out
     clear hte hlc hlr hm0 hm1 hm2 hlr2 hfr htr HJ
     go_upto_region 6 with fail
     refine wp_region_held_drew (S := fun z => z.cell? ⟨M, 1, none⟩ = some (.slice (some ⟨lbb, lbo, none⟩) ln lc) ∧ z.cell? ⟨lbb, lbo + (t - 1), none⟩ = some (.int .u8 y) ∧ z.cell? ⟨fb, fo + k, none⟩ = some (.int .i64 f) ∧ z.cell? ⟨tb, tt + j, none⟩ = some (.int .i64 (t : Int))) (by kernel_rfl) ⟨d1, d3, d4, d5⟩ (fun hHeld => ?_)
     refine wpAnyH_take (i := 0) (oi := { dst := some 20, op := Op.move (.tmp 0), type := 99, pos := "l07_nfa.go:73", after := #[], guard := none }) (v := ?_) rfl (by kernel_rfl) (by kernel_rfl) (by kernel_rfl) (fun _ _ _ h => h) (Or.inl ⟨by kernel_rfl, ?_⟩) (by assumption) ?_
     rotate_left
     ·intro w hSw; (try dsimp only at hSw); go_simp; try with_reducible rfl
     simp only [Act.put, List.setIfInBounds_toArray, List.set_cons_zero, List.set_cons_succ]
     refine wpAnyH_take (i := 1) (oi := { dst := some 21, op := Op.move (.tmp 0), type := 99, pos := "l07_nfa.go:73", after := #[], guard := none }) (v := ?_) rfl (by kernel_rfl) (by kernel_rfl) (by kernel_rfl) (fun _ _ _ h => h) (Or.inl ⟨by kernel_rfl, ?_⟩) (by assumption) ?_
     rotate_left
     ·intro w hSw; (try dsimp only at hSw); go_simp; try with_reducible rfl
     simp only [Act.put, List.setIfInBounds_toArray, List.set_cons_zero, List.set_cons_succ]
     refine wpAnyH_take (i := 2) (oi := { dst := some 22, op := Op.nilCheck (.tmp 21), type := 0, pos := "l07_nfa.go:73", after := #[{ on := 1, ground := .data }], guard := none }) (v := ?_) rfl (by kernel_rfl) (by kernel_rfl) (by kernel_rfl) (fun _ _ _ h => h) (Or.inl ⟨by kernel_rfl, ?_⟩) (by assumption) ?_
     rotate_left
     ·intro w hSw; (try dsimp only at hSw); go_simp; try with_reducible rfl
     simp only [Act.put, List.setIfInBounds_toArray, List.set_cons_zero, List.set_cons_succ]
     refine wpAnyH_take (i := 3) (oi := { dst := some 23, op := Op.fieldAddr 102 (.tmp 22) 2, type := 0, pos := "l07_nfa.go:73", after := #[{ on := 2, ground := .data }], guard := none }) (v := ?_) rfl (by kernel_rfl) (by kernel_rfl) (by kernel_rfl) (fun _ _ _ h => h) (Or.inl ⟨by kernel_rfl, ?_⟩) (by assumption) ?_
     rotate_left
     ·intro w hSw; (try dsimp only at hSw); go_simp; try with_reducible rfl
     simp only [Act.put, List.setIfInBounds_toArray, List.set_cons_zero, List.set_cons_succ]
     refine wpAnyH_take (i := 5) (oi := { dst := some 25, op := Op.move (.tmp 1), type := 36, pos := "l07_nfa.go:73", after := #[], guard := none }) (v := ?_) rfl (by kernel_rfl) (by kernel_rfl) (by kernel_rfl) (fun _ _ _ h => h) (Or.inl ⟨by kernel_rfl, ?_⟩) (by assumption) ?_
     rotate_left
     ·intro w hSw; (try dsimp only at hSw); go_simp; try with_reducible rfl
     simp only [Act.put, List.setIfInBounds_toArray, List.set_cons_zero, List.set_cons_succ]
     refine wpAnyH_take (i := 6) (oi := { dst := some 26, op := Op.move (.tmp 6), type := 3, pos := "l07_nfa.go:73", after := #[], guard := none }) (v := ?_) rfl (by kernel_rfl) (by kernel_rfl) (by kernel_rfl) (fun _ _ _ h => h) (Or.inl ⟨by kernel_rfl, ?_⟩) (by assumption) ?_
     rotate_left
     ·intro w hSw; (try dsimp only at hSw); go_simp; try with_reducible rfl
     simp only [Act.put, List.setIfInBounds_toArray, List.set_cons_zero, List.set_cons_succ]
     refine wpAnyH_take (i := 7) (oi := { dst := some 27, op := Op.indexAddr 36 (.tmp 25) (.tmp 26), type := 0, pos := "l07_nfa.go:73", after := #[{ on := 5, ground := .data }, { on := 6, ground := .data }], guard := none }) (v := ?_) rfl (by kernel_rfl) (by kernel_rfl) (by kernel_rfl) (fun _ _ _ h => h) (Or.inl ⟨by kernel_rfl, ?_⟩) (by assumption) ?_
     rotate_left
     ·intro w hSw; (try dsimp only at hSw); go_simp; try with_reducible rfl
     simp only [Act.put, List.setIfInBounds_toArray, List.set_cons_zero, List.set_cons_succ]
     refine wpAnyH_take (i := 8) (oi := { dst := some 28, op := Op.load 3 (.tmp 27), type := 3, pos := "l07_nfa.go:73", after := #[{ on := 7, ground := .data }], guard := none }) (v := ?_) rfl (by kernel_rfl) (by kernel_rfl) (by kernel_rfl) (fun _ _ _ h => h) (Or.inl ⟨by kernel_rfl, ?_⟩) (by assumption) ?_
     rotate_left
     ·intro w hSw; (try dsimp only at hSw); go_simp; try with_reducible rfl
     simp only [Act.put, List.setIfInBounds_toArray, List.set_cons_zero, List.set_cons_succ]
     refine wpAnyH_take (i := 9) (oi := { dst := some 29, op := Op.move (.tmp 0), type := 99, pos := "l07_nfa.go:73", after := #[], guard := none }) (v := ?_) rfl (by kernel_rfl) (by kernel_rfl) (by kernel_rfl) (fun _ _ _ h => h) (Or.inl ⟨by kernel_rfl, ?_⟩) (by assumption) ?_
     rotate_left
     ·intro w hSw; (try dsimp only at hSw); go_simp; try with_reducible rfl
     simp only [Act.put, List.setIfInBounds_toArray, List.set_cons_zero, List.set_cons_succ]
     refine wpAnyH_take (i := 10) (oi := { dst := some 30, op := Op.nilCheck (.tmp 29), type := 0, pos := "l07_nfa.go:73", after := #[{ on := 9, ground := .data }], guard := none }) (v := ?_) rfl (by kernel_rfl) (by kernel_rfl) (by kernel_rfl) (fun _ _ _ h => h) (Or.inl ⟨by kernel_rfl, ?_⟩) (by assumption) ?_
     rotate_left
     ·intro w hSw; (try dsimp only at hSw); go_simp; try with_reducible rfl
     simp only [Act.put, List.setIfInBounds_toArray, List.set_cons_zero, List.set_cons_succ]
     refine wpAnyH_take (i := 11) (oi := { dst := some 31, op := Op.fieldAddr 102 (.tmp 30) 1, type := 0, pos := "l07_nfa.go:73", after := #[{ on := 10, ground := .data }], guard := none }) (v := ?_) rfl (by kernel_rfl) (by kernel_rfl) (by kernel_rfl) (fun _ _ _ h => h) (Or.inl ⟨by kernel_rfl, ?_⟩) (by assumption) ?_
     rotate_left
     ·intro w hSw; (try dsimp only at hSw); go_simp; try with_reducible rfl
     simp only [Act.put, List.setIfInBounds_toArray, List.set_cons_zero, List.set_cons_succ]
     refine wpAnyH_take (i := 12) (oi := { dst := some 32, op := Op.load 100 (.tmp 31), type := 100, pos := "l07_nfa.go:73", after := #[{ on := 11, ground := .data }], guard := none }) (v := ?_) rfl (by kernel_rfl) (by kernel_rfl) (by kernel_rfl) (fun _ _ _ h => h) (Or.inl ⟨by kernel_rfl, ?_⟩) (by assumption) ?_
     rotate_left
     ·intro w hSw; (try dsimp only at hSw); go_simp; try with_reducible rfl
     simp only [Act.put, List.setIfInBounds_toArray, List.set_cons_zero, List.set_cons_succ]
     refine wpAnyH_take (i := 13) (oi := { dst := some 33, op := Op.move (.tmp 2), type := 36, pos := "l07_nfa.go:73", after := #[], guard := none }) (v := ?_) rfl (by kernel_rfl) (by kernel_rfl) (by kernel_rfl) (fun _ _ _ h => h) (Or.inl ⟨by kernel_rfl, ?_⟩) (by assumption) ?_
     rotate_left
     ·intro w hSw; (try dsimp only at hSw); go_simp; try with_reducible rfl
     simp only [Act.put, List.setIfInBounds_toArray, List.set_cons_zero, List.set_cons_succ]
     refine wpAnyH_take (i := 14) (oi := { dst := some 34, op := Op.move (.tmp 7), type := 3, pos := "l07_nfa.go:73", after := #[], guard := none }) (v := ?_) rfl (by kernel_rfl) (by kernel_rfl) (by kernel_rfl) (fun _ _ _ h => h) (Or.inl ⟨by kernel_rfl, ?_⟩) (by assumption) ?_
     rotate_left
     ·intro w hSw; (try dsimp only at hSw); go_simp; try with_reducible rfl
     simp only [Act.put, List.setIfInBounds_toArray, List.set_cons_zero, List.set_cons_succ]
     refine wpAnyH_take (i := 15) (oi := { dst := some 35, op := Op.indexAddr 36 (.tmp 33) (.tmp 34), type := 0, pos := "l07_nfa.go:73", after := #[{ on := 13, ground := .data }, { on := 14, ground := .data }], guard := none }) (v := ?_) rfl (by kernel_rfl) (by kernel_rfl) (by kernel_rfl) (fun _ _ _ h => h) (Or.inl ⟨by kernel_rfl, ?_⟩) (by assumption) ?_
     rotate_left
     ·intro w hSw; (try dsimp only at hSw); go_simp; try with_reducible rfl
     simp only [Act.put, List.setIfInBounds_toArray, List.set_cons_zero, List.set_cons_succ]
     refine wpAnyH_take (i := 16) (oi := { dst := some 36, op := Op.load 3 (.tmp 35), type := 3, pos := "l07_nfa.go:73", after := #[{ on := 15, ground := .data }], guard := none }) (v := ?_) rfl (by kernel_rfl) (by kernel_rfl) (by kernel_rfl) (fun _ _ _ h => h) (Or.inl ⟨by kernel_rfl, ?_⟩) (by assumption) ?_
     rotate_left
     ·intro w hSw; (try dsimp only at hSw); go_simp; try with_reducible rfl
     simp only [Act.put, List.setIfInBounds_toArray, List.set_cons_zero, List.set_cons_succ]
     refine wpAnyH_take (i := 17) (oi := { dst := some 37, op := Op.binOp BinOp.sub 3 (.tmp 36) (.const (Value.int IntKind.i64 1)) 3, type := 3, pos := "l07_nfa.go:73", after := #[{ on := 16, ground := .data }], guard := none }) (v := ?_) rfl (by kernel_rfl) (by kernel_rfl) (by kernel_rfl) (fun _ _ _ h => h) (Or.inl ⟨by kernel_rfl, ?_⟩) (by assumption) ?_
     rotate_left
     ·intro w hSw; (try dsimp only at hSw); go_simp; try with_reducible rfl
     simp only [Act.put, List.setIfInBounds_toArray, List.set_cons_zero, List.set_cons_succ]
     refine wpAnyH_take (i := 18) (oi := { dst := some 38, op := Op.indexAddr 100 (.tmp 32) (.tmp 37), type := 0, pos := "l07_nfa.go:73", after := #[{ on := 12, ground := .data }, { on := 17, ground := .data }], guard := none }) (v := ?_) rfl (by kernel_rfl) (by kernel_rfl) (by kernel_rfl) (fun _ _ _ h => h) (Or.inl ⟨by kernel_rfl, ?_⟩) (by assumption) ?_
     rotate_left
     ·intro w hSw; (try dsimp only at hSw); go_simp; try with_reducible rfl
     simp only [Act.put, List.setIfInBounds_toArray, List.set_cons_zero, List.set_cons_succ]
     refine wpAnyH_take (i := 19) (oi := { dst := some 39, op := Op.load 5 (.tmp 38), type := 5, pos := "l07_nfa.go:73", after := #[{ on := 18, ground := .data }], guard := none }) (v := ?_) rfl (by kernel_rfl) (by kernel_rfl) (by kernel_rfl) (fun _ _ _ h => h) (Or.inl ⟨by kernel_rfl, ?_⟩) (by assumption) ?_
     rotate_left
     ·intro w hSw; (try dsimp only at hSw); go_simp; try with_reducible rfl
     simp only [Act.put, List.setIfInBounds_toArray, List.set_cons_zero, List.set_cons_succ]
     refine wpAnyH_take (i := 20) (oi := { dst := some 40, op := Op.move (.tmp 2), type := 36, pos := "l07_nfa.go:73", after := #[], guard := none }) (v := ?_) rfl (by kernel_rfl) (by kernel_rfl) (by kernel_rfl) (fun _ _ _ h => h) (Or.inl ⟨by kernel_rfl, ?_⟩) (by assumption) ?_
     rotate_left
     ·intro w hSw; (try dsimp only at hSw); go_simp; try with_reducible rfl
     simp only [Act.put, List.setIfInBounds_toArray, List.set_cons_zero, List.set_cons_succ]
     refine wpAnyH_take (i := 21) (oi := { dst := some 41, op := Op.move (.tmp 7), type := 3, pos := "l07_nfa.go:73", after := #[], guard := none }) (v := ?_) rfl (by kernel_rfl) (by kernel_rfl) (by kernel_rfl) (fun _ _ _ h => h) (Or.inl ⟨by kernel_rfl, ?_⟩) (by assumption) ?_
     rotate_left
     ·intro w hSw; (try dsimp only at hSw); go_simp; try with_reducible rfl
     simp only [Act.put, List.setIfInBounds_toArray, List.set_cons_zero, List.set_cons_succ]
     refine wpAnyH_take (i := 22) (oi := { dst := some 42, op := Op.indexAddr 36 (.tmp 40) (.tmp 41), type := 0, pos := "l07_nfa.go:73", after := #[{ on := 20, ground := .data }, { on := 21, ground := .data }], guard := none }) (v := ?_) rfl (by kernel_rfl) (by kernel_rfl) (by kernel_rfl) (fun _ _ _ h => h) (Or.inl ⟨by kernel_rfl, ?_⟩) (by assumption) ?_
     rotate_left
     ·intro w hSw; (try dsimp only at hSw); go_simp; try with_reducible rfl
     simp only [Act.put, List.setIfInBounds_toArray, List.set_cons_zero, List.set_cons_succ]
     refine wpAnyH_take (i := 23) (oi := { dst := some 43, op := Op.load 3 (.tmp 42), type := 3, pos := "l07_nfa.go:73", after := #[{ on := 22, ground := .data }], guard := none }) (v := ?_) rfl (by kernel_rfl) (by kernel_rfl) (by kernel_rfl) (fun _ _ _ h => h) (Or.inl ⟨by kernel_rfl, ?_⟩) (by assumption) ?_
     rotate_left
     ·intro w hSw; (try dsimp only at hSw); go_simp; try with_reducible rfl
     simp only [Act.put, List.setIfInBounds_toArray, List.set_cons_zero, List.set_cons_succ]
     refine wpAnyH_take (i := 24) (oi := { dst := some 44, op := Op.build 130 #[(0, .tmp 28), (1, .tmp 39), (2, .tmp 43)], type := 130, pos := "l07_nfa.go:73", after := #[{ on := 8, ground := .data }, { on := 19, ground := .data }, { on := 23, ground := .data }], guard := none }) (v := ?_) rfl (by kernel_rfl) (by kernel_rfl) (by kernel_rfl) (fun _ _ _ h => h) (Or.inl ⟨by kernel_rfl, ?_⟩) (by assumption) ?_
     rotate_left
     ·intro w hSw; (try dsimp only at hSw); go_simp; try with_reducible rfl
     simp only [Act.put, List.setIfInBounds_toArray, List.set_cons_zero, List.set_cons_succ]
     refine wpAnyH_ready (rs := [4]) (by kernel_rfl) (by simp) ?_
     refine AllReadyH.cons (o := { dst := some 24, op := Op.load 77 (.tmp 23), type := 77, pos := "l07_nfa.go:73", after := #[{ on := 3, ground := .data }], guard := none }) rfl (fun K hK => ?_) ?_
     ·go_simp
      refine hK.out _ _ ⟨d1, d3, d4, d5⟩ (fun hHeld => ?_)
      clear hK K
      try simp only [Act.put, List.setIfInBounds_toArray, List.set_cons_zero, List.set_cons_succ]
      refine wpAnyH_ready (rs := [25]) (by kernel_rfl) (by simp) ?_
      refine AllReadyH.cons (o := { dst := some 45, op := Op.call { callee := Callee.value (.func 73), args := #[.tmp 24, .tmp 44], argTypes := #[77, 130] }, type := 77, pos := "l07_nfa.go:73", after := #[{ on := 4, ground := .data }, { on := 24, ground := .data }], guard := none }) rfl (fun K hK => ?_) ?_
      ·go_wp2_with (go_at_call 73; refine (HC.out _ HBD.out).mono ?_; rintro e w4 ⟨a4, n4, c4, rfl, HN4, HO4, HB4⟩)
       have HB4V : Hid (Below wr.heap.size wr w4) := HBD.out.trans (HB4.out.mono HBD.out.size)
       clear d1 d2 d3 d4 d5
       obtain ⟨⟨e1, e2⟩, e3, e4, e5⟩ := HKS.out _ HB4V.out
       refine hK.out _ _ ⟨e1, e3, e4, e5⟩ (fun hHeld => ?_)
       clear hK K
       try simp only [Act.put, List.setIfInBounds_toArray, List.set_cons_zero, List.set_cons_succ]
       refine wpAnyH_take (i := 26) (oi := { dst := some 46, op := Op.nilCheck (.tmp 20), type := 0, pos := "l07_nfa.go:73", after := #[{ on := 0, ground := .data }, { on := 0, ground := .phase }, { on := 1, ground := .phase }, { on := 2, ground := .phase }, { on := 3, ground := .phase }, { on := 4, ground := .phase }, { on := 5, ground := .phase }, { on := 6, ground := .phase }, { on := 7, ground := .phase }, { on := 8, ground := .phase }, { on := 9, ground := .phase }, { on := 10, ground := .phase }, { on := 11, ground := .phase }, { on := 12, ground := .phase }, { on := 13, ground := .phase }, { on := 14, ground := .phase }, { on := 15, ground := .phase }, { on := 16, ground := .phase }, { on := 17, ground := .phase }, { on := 18, ground := .phase }, { on := 19, ground := .phase }, { on := 20, ground := .phase }, { on := 21, ground := .phase }, { on := 22, ground := .phase }, { on := 23, ground := .phase }, { on := 24, ground := .phase }, { on := 25, ground := .phase }], guard := none }) (v := ?_) rfl (by kernel_rfl) (by kernel_rfl) (by kernel_rfl) (fun _ _ _ h => h) (Or.inl ⟨by kernel_rfl, ?_⟩) (by assumption) ?_
       rotate_left
       ·intro w hSw; (try dsimp only at hSw); go_simp; try with_reducible rfl
       simp only [Act.put, List.setIfInBounds_toArray, List.set_cons_zero, List.set_cons_succ]
       refine wpAnyH_take (i := 27) (oi := { dst := some 47, op := Op.fieldAddr 102 (.tmp 46) 2, type := 0, pos := "l07_nfa.go:73", after := #[{ on := 26, ground := .data }, { on := 0, ground := .phase }, { on := 1, ground := .phase }, { on := 2, ground := .phase }, { on := 3, ground := .phase }, { on := 4, ground := .phase }, { on := 5, ground := .phase }, { on := 6, ground := .phase }, { on := 7, ground := .phase }, { on := 8, ground := .phase }, { on := 9, ground := .phase }, { on := 10, ground := .phase }, { on := 11, ground := .phase }, { on := 12, ground := .phase }, { on := 13, ground := .phase }, { on := 14, ground := .phase }, { on := 15, ground := .phase }, { on := 16, ground := .phase }, { on := 17, ground := .phase }, { on := 18, ground := .phase }, { on := 19, ground := .phase }, { on := 20, ground := .phase }, { on := 21, ground := .phase }, { on := 22, ground := .phase }, { on := 23, ground := .phase }, { on := 24, ground := .phase }, { on := 25, ground := .phase }], guard := none }) (v := ?_) rfl (by kernel_rfl) (by kernel_rfl) (by kernel_rfl) (fun _ _ _ h => h) (Or.inl ⟨by kernel_rfl, ?_⟩) (by assumption) ?_
       rotate_left
       ·intro w hSw; (try dsimp only at hSw); go_simp; try with_reducible rfl
       simp only [Act.put, List.setIfInBounds_toArray, List.set_cons_zero, List.set_cons_succ]
       refine wpAnyH_ready (rs := [28]) (by kernel_rfl) (by simp) ?_
       refine AllReadyH.cons (o := { dst := none, op := Op.store 77 (.tmp 47) (.tmp 45), type := 0, pos := "l07_nfa.go:73", after := #[{ on := 27, ground := .data }, { on := 25, ground := .data }, { on := 25, ground := .chain }, { on := 0, ground := .phase }, { on := 1, ground := .phase }, { on := 2, ground := .phase }, { on := 3, ground := .phase }, { on := 4, ground := .phase }, { on := 5, ground := .phase }, { on := 6, ground := .phase }, { on := 7, ground := .phase }, { on := 8, ground := .phase }, { on := 9, ground := .phase }, { on := 10, ground := .phase }, { on := 11, ground := .phase }, { on := 12, ground := .phase }, { on := 13, ground := .phase }, { on := 14, ground := .phase }, { on := 15, ground := .phase }, { on := 16, ground := .phase }, { on := 17, ground := .phase }, { on := 18, ground := .phase }, { on := 19, ground := .phase }, { on := 20, ground := .phase }, { on := 21, ground := .phase }, { on := 22, ground := .phase }, { on := 23, ground := .phase }, { on := 24, ground := .phase }, { on := 25, ground := .phase }], guard := none }) rfl (fun K hK => ?_) ?_
       ·have HB5 : Hid (Blk w4 M 4 (mkC pv (.slice (some ⟨lbb, lbo, none⟩) ln lc) (.slice u un uc) bd)) := HB.out.of_block (HB4V.out.block _ HLB.out.2.2.2)
        have hf6 := HB5.out.frozen 2
        have hne1 : lbb ≠ M := HNM.out
        have hne2 : fb ≠ M := HNE.out.1
        have hne3 : tb ≠ M := HNE.out.2
        have s8 : ∀ u : Value, (w4.setCell ⟨M, 2, none⟩ u).cell? ⟨M, 1, none⟩ = some (.slice (some ⟨lbb, lbo, none⟩) ln lc) := fun u => (HB5.out.set 2 (by omega) u).cell (i := 1) (by omega)
        have s9 := fun (u : Value) => And.intro (s8 u) (And.intro (cell_set (c := M) (j := 2) e3 u hne1) (And.intro (cell_set (c := M) (j := 2) e4 u hne2) (cell_set (c := M) (j := 2) e5 u hne3)))
        clear s8
        go_simp
        refine hK.out _ _ (s9 _) (fun hHeld => ?_)
        clear hK K
        try simp only [Act.put, List.setIfInBounds_toArray, List.set_cons_zero, List.set_cons_succ]
        refine wpAnyH_done (by kernel_rfl) ?_ _
        clear hHeld s9 hf6 e1 e2 e3 e4 e5 hne1 hne2 hne3
        obtain ⟨a5, c5, hv5, HW5⟩ := arcs_own HO4.out HN4.out
        simp only [Value.slice.injEq, true_and] at hv5
        obtain ⟨rfl, rfl⟩ := hv5
        have HKX : Hid (KeptP (fun c => c = M) w (w4.setCell ⟨M, 2, none⟩ (.slice a4 n4 c4))) := (HKW.out.trans (KeptP.of_below HB4V.out (fun _ h _ => h))).setCell rfl _
        have HJX : Hid (Jn M w pv (.slice (some ⟨lbb, lbo, none⟩) ln lc) bd aa (joinR lb f (ts.take (j + 1)) AK) (w4.setCell ⟨M, 2, none⟩ (.slice a4 n4 c4))) := by
         refine ⟨a4, n4, c4, ?_, by show _ = _; rw [HNQ.out]; exact HN4.out, ?_, HKX, ?_⟩
         ·exact (HB5.out.set 2 (by omega) _).congr (fun i hi => by rcases (show i = 0 ∨ i = 1 ∨ i = 2 ∨ i = 3 by omega) with h | h | h | h <;> subst h <;> rfl)
         ·show EdgesIn _ _ _ _ _
          rw [HNQ.out]
          have h := HW5.setCell (b := M) (j := 2) (by have := HLB.out.2.2.2; have := HBD.out.size; omega) (.slice a4 n4 c4)
          exact h.toIn.wide (by have := HLB.out.2.2.2; have := HBD.out.size; omega) (by simp)
         ·refine .inr fun b o e => ?_
          rcases HO4.out.2 with ⟨h, _⟩ | ⟨g, cap, cur, h, hg, hbl, _⟩
          ·rw [e] at h; cases h
          ·rw [e] at h; have h1 := HBD.out.size; have h2 := HSZ.out; cases h; exact ⟨by omega, by simpa using (Array.getElem?_eq_some_iff.1 hbl).1⟩
        clear HO4 HW5 HB5 HKX HN4
        go_wp2
        go_roundw
        case rel => exact ⟨j + 1, by go_num, by omega, HJX⟩
        case measure => simp [intOf]; omega
       exact AllReadyH.nil
      exact AllReadyH.nil
     exact AllReadyH.nil
    ·obtain rfl : j = nt := by omega
     have HE : Hid (joinR lb f (ts.take j) AK = joinF lb (fs.take (k + 1)) ts ar) := by show _ = _; rw [HNX.out, ← HNT.out, List.take_length]
     go_wp2
     go_roundw
     case rel => exact ⟨k + 1, by go_num, by omega, by rw [← HE.out]; exact HJ⟩
     case measure => simp [intOf]; omega
  ·obtain rfl : k = nf := by omega
   have HE : Hid (joinF lb (fs.take k) ts ar = joinF lb fs ts ar) := by show _ = _; rw [← HNF.out, List.take_length]
   go_wp2
   go_end0
   exact ⟨rfl, by rw [← HE.out]; exact HJ.out⟩
end Go.Proofs.YtbepmeipjdpipaaGreat
