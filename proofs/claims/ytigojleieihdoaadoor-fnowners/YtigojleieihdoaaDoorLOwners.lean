/-
  The walk of FnOwners.
-/
import Derived.Test.YtigojleieihdoaaDoorOwd
import Derived.Test.YtigojleieihdoaaDoorDrO
import Derived.Test.YtigojleieihdoaaDoorPlc
import Derived.Test.YtigojleieihdoaaDoorBig
namespace Go.Proofs.YtigojleieihdoaaDoor
open Go.RowKit

/-- how many all workers below W own -/
def ownSum (nw : Int) (S : Nat) : Nat → Nat
  | 0 => 0
  | W + 1 => ownSum nw S W + (ownTo (W : Int) nw S).length
theorem ownSum_none (nw : Int) (W : Nat) : ownSum nw 0 W = 0 := by
  induction W with
  | zero => rfl
  | succ W ih => rw [ownSum, ih]; rfl
theorem ownSum_more (nw : Int) (S W : Nat) : ownSum nw (S + 1) W = ownSum nw S W + (if ownOf (S : Int) nw < (W : Int) then 1 else 0) := by
  induction W with
  | zero =>
    have := own_ge (S : Int) nw
    rw [if_neg (by omega)]; rfl
  | succ W ih =>
    rw [ownSum, ownSum, ih, ownTo_step, List.length_append]
    have := own_ge (S : Int) nw
    by_cases h : ownOf (S : Int) nw < (W : Int)
    · rw [if_pos h, if_neg (by omega), if_pos (by omega)]; simp; omega
    · by_cases h2 : ownOf (S : Int) nw = (W : Int)
      · rw [if_neg h, if_pos h2, if_pos (by omega)]; simp; omega
      · rw [if_neg h, if_neg h2, if_neg (by omega)]; simp
theorem ownSum_all (nw : Int) (h : 1 ≤ nw) (S : Nat) : ownSum nw S nw.toNat = S := by
  induction S with
  | zero => exact ownSum_none _ _
  | succ S ih =>
    have := own_lt (v := (S : Int)) h
    rw [ownSum_more, ih, if_pos (by omega)]
theorem ownTo_asc (wk nw : Int) (k : Nat) : (ownTo wk nw k).Pairwise (· < ·) := by
  induction k with
  | zero => exact List.Pairwise.nil
  | succ k ih =>
    rw [ownTo_step, List.pairwise_append]
    refine ⟨ih, ?_, fun x hx y hy => ?_⟩
    · split
      · exact List.pairwise_singleton _ _
      · exact List.Pairwise.nil
    · have h1 := (ownTo_mem.1 hx).1.2
      split at hy
      · simp at hy; omega
      · simp at hy
theorem getD_mem {l : List Int} {i : Nat} (h : i < l.length) : l.getD i 0 ∈ l := by simp [List.getD, h]
theorem asc_at {l : List Int} {i : Nat} (h : l.Pairwise (· < ·)) (hi : i + 1 < l.length) : l.getD i 0 < l.getD (i + 1) 0 := by
  have := List.pairwise_iff_getElem.1 h i (i + 1) (by omega) hi (by omega)
  simpa [List.getD, hi, show i < l.length by omega] using this

/-- a drawn graph in its box P -/
structure OS (w wi : World) (P : Nat) (s : Int) (a : Option Addr) (n c : Nat) (L : List Ed) : Prop where
  bel : Below w.heap.size w wi
  box : Blk wi P 2 (fun i => if i = 0 then .int .i64 s else .slice a n c)
  eg : EdgesIn 0 P wi a L
theorem OS.below {w wi wj : World} {P : Nat} {s : Int} {a : Option Addr} {n c : Nat} {L : List Ed} (h : OS w wi P s a n c L) (hb : Below wi.heap.size wi wj) : OS w wj P s a n c L :=
  ⟨h.bel.trans (hb.mono h.bel.size), h.box.of_block (hb.block _ h.box.lt), h.eg.below hb (Nat.le_of_lt h.box.lt)⟩

set_option maxHeartbeats 8000000 in
set_option maxRecDepth 100000 in
theorem law_3 (a0 : Option Addr) (n0 cap0 : Nat) (w : World) (hc0 : CodeIn w a0 n0) (ht : FT w) :
    Calls Tryd.prog 3 #[.slice a0 n0 cap0] w fun e w' => e = .returned (.bool true) ∧ Below w.heap.size w w' := by
  by_cases hbig : (1048576 : Int) < (n0 : Int)
  · clear hc0 ht
    go_enter Tryd.func3, Tryd.ntmps3
    go_wp2_with fail
    refine (big_yes a0 n0 cap0 w hbig).mono ?_
    rintro e w1 ⟨rfl, rfl⟩
    go_wp2
    go_ret
    exact ⟨rfl, Below.refl _ _⟩
  have hn0 : n0 ≤ 1048576 := by omega
  have HC0 : Hid (CodeIn w a0 n0) := hc0
  have HT : Hid (FT w) := ht
  clear hc0 ht
  go_enter Tryd.func3, Tryd.ntmps3
  go_wp2_with fail
  refine (big_no a0 n0 cap0 w hn0).mono ?_
  rintro e w1 ⟨rfl, rfl⟩
  go_wp2_with fail
  refine (drawGraph_any w n0 cap0 a0 hn0 HC0.out).mono ?_
  rintro e w1 ⟨s, a, n, c, L, rfl, HLN, HE, HGD, HB1⟩
  obtain ⟨P, HP⟩ : ∃ P, Hid (P = w1.heap.size) := ⟨_, rfl⟩
  obtain ⟨W1, HW1⟩ : ∃ W1, Hid (W1 = w1.alloc (.cells #[.int .i64 s, .slice a n c] 26)) := ⟨_, rfl⟩
  have HOS1 : Hid (OS w W1 P s a n c L) := by
    rw [HW1.out]
    exact ⟨HB1.out.alloc HB1.out.size _, blk_two w1 P HP.out _ _ _, (HE.out.below (below1 w1 _) (Nat.le_refl _)).wide (Nat.zero_le _) (by rw [HP.out]; exact Nat.le_refl _)⟩
  have hs2 : 2 ≤ s := HGD.out.2.1
  have hs5 : s ≤ 5 := HGD.out.2.2
  have HOK : Hid (okG s L = true) := HGD.out.1.1
  have hn : n ≤ 10 := by rw [← HLN.out]; exact HGD.out.1.2.1
  clear HE HGD HB1
  go_wp2_with fail
  rw [← HP.out, ← HW1.out]
  refine (drawPlaces_any a0 n0 cap0 W1 hn0 (HC0.out.below HOS1.out.bel)).mono ?_
  rintro e w2 ⟨gp, cg, z0, z1, z2, rfl, HZ, HZC, HB2⟩
  have HOS2 : Hid (OS w w2 P s a n c L) := HOS1.out.below HB2.out
  obtain ⟨hz0, hz1⟩ := HZ.out.1
  have hzc := HZC.out.1
  obtain ⟨nw, HNW⟩ : ∃ nw : Nat, Hid ((nw : Int) = 1 + z0 % 8) := ⟨(1 + z0 % 8).toNat, by show _ = _; omega⟩
  have hw1 : 1 ≤ nw := by have := HNW.out; omega
  have hw8 : nw ≤ 8 := by have := HNW.out; omega
  clear HZ HZC HB2 HOS1 HW1 HP
  go_wp2
  rw [← HNW.out]
  clear HNW hzc hz0 hz1
  obtain ⟨S, HS⟩ : ∃ S : Nat, Hid ((S : Int) = s) := ⟨s.toNat, by show _ = _; omega⟩
  go_loopw [6, 5] (fun i v wr => ∃ k : Nat, i = .int .i64 k ∧ v = .int .i64 ((ownSum (nw : Int) S k : Nat) : Int) ∧ k ≤ nw ∧ Hid (OS w wr P s a n c L) ∧ Hid (ownSum (nw : Int) S k ≤ 12 * k)) (fun i _ _ => nw - (intOf i).toNat)
  case atStart => exact ⟨0, rfl, rfl, by omega, HOS2, by show _ ≤ _; simp [ownSum]⟩
  case round =>
    obtain ⟨k, rfl, rfl, hk, HOR, HLE⟩ := hrel
    by_cases hlt : k < nw
    · have hlt1 : (k : Int) < (nw : Int) := by omega
      obtain ⟨c0, c1⟩ := blk_pair_cells HOR.out.box
      go_wp2_with fail
      refine (owned_any 0 P s a n c L (k : Int) (nw : Int) wr (HT.out.below HOR.out.bel) HOR.out.eg (Nat.le_of_lt HOR.out.box.lt) HLN.out (by omega)).mono ?_
      rintro e w3 ⟨a3, n3, cap3, rfl, HN3, HR3, HB3⟩
      obtain ⟨OL, HOL⟩ : ∃ OL, Hid (OL = ownTo (k : Int) (nw : Int) S) := ⟨_, rfl⟩
      have HOE : Hid (ownL s L (k : Int) (nw : Int) = OL) := by show _ = _; rw [ownL_yes _ _ HOK.out, HOL.out, ← HS.out, Int.toNat_natCast]
      rw [HOE.out] at HN3 HR3
      have hn3 : n3 ≤ 12 := by rw [← HN3.out, ← HOE.out]; exact ownL_len _ _ _ _
      have HO3 : Hid (OS w w3 P s a n c L) := HOR.out.below HB3.out
      have HRI : Hid (RowIn wr.heap.size w3.heap.size w3 a3 OL) := HR3.out.toIn
      have HNX : Hid (ownSum (nw : Int) S (k + 1) = ownSum (nw : Int) S k + n3) := by show _ = _; rw [ownSum, ← HOL.out, HN3.out]
      obtain ⟨q, HQ⟩ : ∃ q : Nat, Hid (q = ownSum (nw : Int) S k) := ⟨_, rfl⟩
      rw [← HQ.out] at HNX HLE ⊢
      have hq : q ≤ 96 := by have := HLE.out; omega
      obtain ⟨lo, hi, HLO⟩ : ∃ lo hi, Hid (wr.heap.size = lo ∧ w3.heap.size = hi) := ⟨_, _, rfl, rfl⟩
      rw [HLO.out.1, HLO.out.2] at HRI
      have HI3 : Hid (hi ≤ w3.heap.size) := by rw [HLO.out.2]; exact Nat.le_refl _
      clear HR3 HB3 HOR c0 c1 HOE HLO HQ
      go_wp2
      go_loopw [8] (fun i wq => ∃ j : Nat, i = .int .i64 j ∧ j ≤ n3 ∧ Hid (OS w wq P s a n c L) ∧ Hid (RowIn lo hi wq a3 OL) ∧ Hid (hi ≤ wq.heap.size)) (fun i _ => n3 - (intOf i).toNat)
      case atStart => exact ⟨0, rfl, by omega, HO3, HRI, HI3⟩
      case round =>
        obtain ⟨j, rfl, hj, HOS, HRQ, HHQ⟩ := hrel
        by_cases hjl : j < n3
        · have hjl1 : (j : Int) < (n3 : Int) := by omega
          obtain ⟨b, o, rfl, hcx⟩ := HRQ.out.num (i := j) (by rw [HN3.out]; exact hjl)
          obtain ⟨x, HX⟩ : ∃ x, Hid (x = OL.getD j 0) := ⟨_, rfl⟩
          rw [← HX.out] at hcx
          have HXO : Hid ((k : Int) = ownOf x (nw : Int)) := by
            have hm : x ∈ OL := by rw [HX.out]; exact getD_mem (by rw [HN3.out]; exact hjl)
            rw [HOL.out] at hm
            exact (ownTo_mem.1 hm).2.symm
          have hHB : Hid (Below wr.heap.size wr wr.drew) := (Below.refl _ _).drew
          by_cases hj0 : j = 0
          · subst hj0
            have hcx0 : wr.cell? ⟨b, o, none⟩ = some (.int .i64 x) := by simpa using hcx
            have HC1 : Hid (∀ w0, Below wr.heap.size wr w0 → Calls Tryd.prog 12 #[.int .i64 x, .int .i64 (nw : Int)] w0 fun e w' => e = .returned (.int .i64 (k : Int)) ∧ Hid (Below wr.heap.size wr w') ∧ (w'.cell? ⟨b, o, none⟩ = some (.int .i64 x))) := fun w0 h =>
              (ownerOf_any x (nw : Int) (k : Int) w0 (HT.out.below ((HOS.out.below h).bel)) HXO.out).mono fun _ w' ⟨h1, h4⟩ => ⟨h1, h.trans (h4.out.mono h.size), cell_below hcx0 (h.trans (h4.out.mono h.size)) (lt_of_cell hcx0)⟩
            go_wp2_with fail
            refine wp_region_held_drew (S := fun w' => w'.cell? ⟨b, o, none⟩ = some (.int .i64 x)) (by kernel_rfl) hcx0 (fun hHeld => ?_)
            clear hcx hcx0
            refine wpAnyH_take (i := 0) (oi := { dst := some 36, op := Go.Op.move (Go.Operand.tmp 7), type := 28, pos := "laws.go:394", after := #[], guard := none }) (v := ?_) rfl (by kernel_rfl) (by kernel_rfl) (by kernel_rfl) (fun _ _ _ h => h) (Or.inl ⟨by kernel_rfl, ?_⟩) (by assumption) ?_
            rotate_left
            · intro w hSw; (try dsimp only at hSw); go_simp; try with_reducible rfl
            simp only [Act.put, List.setIfInBounds_toArray, List.set_cons_zero, List.set_cons_succ]
            refine wpAnyH_take (i := 1) (oi := { dst := some 37, op := Go.Op.move (Go.Operand.tmp 8), type := 3, pos := "laws.go:394", after := #[], guard := none }) (v := ?_) rfl (by kernel_rfl) (by kernel_rfl) (by kernel_rfl) (fun _ _ _ h => h) (Or.inl ⟨by kernel_rfl, ?_⟩) (by assumption) ?_
            rotate_left
            · intro w hSw; (try dsimp only at hSw); go_simp; try with_reducible rfl
            simp only [Act.put, List.setIfInBounds_toArray, List.set_cons_zero, List.set_cons_succ]
            refine wpAnyH_take (i := 2) (oi := { dst := some 38, op := Go.Op.indexAddr 28 (Go.Operand.tmp 36) (Go.Operand.tmp 37), type := 0, pos := "laws.go:394", after := #[{ on := 0, ground := Go.Ground.data }, { on := 1, ground := Go.Ground.data }], guard := none }) (v := ?_) rfl (by kernel_rfl) (by kernel_rfl) (by kernel_rfl) (fun _ _ _ h => h) (Or.inl ⟨by kernel_rfl, ?_⟩) (by assumption) ?_
            rotate_left
            · intro w hSw; (try dsimp only at hSw); go_simp; try with_reducible rfl
            simp only [Act.put, List.setIfInBounds_toArray, List.set_cons_zero, List.set_cons_succ]
            refine wpAnyH_take (i := 3) (oi := { dst := some 39, op := Go.Op.load 3 (Go.Operand.tmp 38), type := 3, pos := "laws.go:394", after := #[{ on := 2, ground := Go.Ground.data }], guard := none }) (v := ?_) rfl (by kernel_rfl) (by kernel_rfl) (by kernel_rfl) (fun _ _ _ h => h) (Or.inl ⟨by kernel_rfl, ?_⟩) (by assumption) ?_
            rotate_left
            · intro w hSw; (try dsimp only at hSw); go_simp; try with_reducible rfl
            simp only [Act.put, List.setIfInBounds_toArray, List.set_cons_zero, List.set_cons_succ]
            refine wpAnyH_take (i := 4) (oi := { dst := some 40, op := Go.Op.move (Go.Operand.tmp 4), type := 3, pos := "laws.go:394", after := #[], guard := none }) (v := ?_) rfl (by kernel_rfl) (by kernel_rfl) (by kernel_rfl) (fun _ _ _ h => h) (Or.inl ⟨by kernel_rfl, ?_⟩) (by assumption) ?_
            rotate_left
            · intro w hSw; (try dsimp only at hSw); go_simp; try with_reducible rfl
            simp only [Act.put, List.setIfInBounds_toArray, List.set_cons_zero, List.set_cons_succ]
            refine wpAnyH_take (i := 6) (oi := { dst := some 42, op := Go.Op.move (Go.Operand.tmp 6), type := 3, pos := "laws.go:394", after := #[], guard := none }) (v := ?_) rfl (by kernel_rfl) (by kernel_rfl) (by kernel_rfl) (fun _ _ _ h => h) (Or.inl ⟨by kernel_rfl, ?_⟩) (by assumption) ?_
            rotate_left
            · intro w hSw; (try dsimp only at hSw); go_simp; try with_reducible rfl
            simp only [Act.put, List.setIfInBounds_toArray, List.set_cons_zero, List.set_cons_succ]
            refine wpAnyH_ready (rs := [5]) (by kernel_rfl) (by simp) ?_
            refine AllReadyH.cons (o := { dst := some 41, op := Go.Op.call { callee := Go.Callee.value (Go.Operand.func 12), args := #[Go.Operand.tmp 39, Go.Operand.tmp 40], argTypes := #[3, 3] }, type := 3, pos := "laws.go:394", after := #[{ on := 3, ground := Go.Ground.data }, { on := 4, ground := Go.Ground.data }], guard := none }) rfl (fun K hK => ?_) ?_
            · go_simp
              go_wp2_with (go_at_call 12; refine (HC1.out _ hHB.out).mono ?_; rintro e w4 ⟨rfl, B4, hk4⟩)
              refine hK.out _ _ hk4 (fun hHeld => ?_)
              clear hK K
              try simp only [Act.put, List.setIfInBounds_toArray, List.set_cons_zero, List.set_cons_succ]
              refine wpAnyH_take (i := 7) (oi := { dst := some 43, op := Go.Op.binOp Go.BinOp.neq 3 (Go.Operand.tmp 41) (Go.Operand.tmp 42) 3, type := 4, pos := "laws.go:394", after := #[{ on := 5, ground := Go.Ground.data }, { on := 6, ground := Go.Ground.data }], guard := none }) (v := ?_) rfl (by kernel_rfl) (by kernel_rfl) (by kernel_rfl) (fun _ _ _ h => h) (Or.inl ⟨by kernel_rfl, ?_⟩) (by assumption) ?_
              rotate_left
              · intro w hSw; (try dsimp only at hSw); go_simp; try with_reducible rfl
              simp only [Act.put, List.setIfInBounds_toArray, List.set_cons_zero, List.set_cons_succ]
              refine wpAnyH_take (i := 8) (oi := { dst := some 44, op := Go.Op.move (Go.Operand.tmp 43), type := 4, pos := "laws.go:394", after := #[{ on := 7, ground := Go.Ground.data }, { on := 5, ground := Go.Ground.chain }], guard := none }) (v := ?_) rfl (by kernel_rfl) (by kernel_rfl) (by kernel_rfl) (fun _ _ _ h => h) (Or.inl ⟨by kernel_rfl, ?_⟩) (by assumption) ?_
              rotate_left
              · intro w hSw; (try dsimp only at hSw); go_simp; try with_reducible rfl
              simp only [Act.put, List.setIfInBounds_toArray, List.set_cons_zero, List.set_cons_succ]
              refine wpAnyH_take (i := 9) (oi := { dst := some 45, op := Go.Op.move (Go.Operand.tmp 8), type := 3, pos := "laws.go:394", after := #[{ on := 8, ground := Go.Ground.guard }], guard := some (8, false) }) (v := ?_) rfl (by kernel_rfl) (by kernel_rfl) (by kernel_rfl) (fun _ _ _ h => h) (Or.inl ⟨by kernel_rfl, ?_⟩) (by assumption) ?_
              rotate_left
              · intro w hSw; (try dsimp only at hSw); go_simp; try with_reducible rfl
              simp only [Act.put, List.setIfInBounds_toArray, List.set_cons_zero, List.set_cons_succ]
              refine wpAnyH_take (i := 10) (oi := { dst := some 46, op := Go.Op.binOp Go.BinOp.gtr 3 (Go.Operand.tmp 45) (Go.Operand.const (Go.Value.int Go.IntKind.i64 0)) 3, type := 4, pos := "laws.go:394", after := #[{ on := 9, ground := Go.Ground.data }, { on := 8, ground := Go.Ground.guard }], guard := some (8, false) }) (v := ?_) rfl (by kernel_rfl) (by kernel_rfl) (by kernel_rfl) (fun _ _ _ h => h) (Or.inl ⟨by kernel_rfl, ?_⟩) (by assumption) ?_
              rotate_left
              · intro w hSw; (try dsimp only at hSw); go_simp; try with_reducible rfl
              simp only [Act.put, List.setIfInBounds_toArray, List.set_cons_zero, List.set_cons_succ]
              refine wpAnyH_take (i := 11) (oi := { dst := some 47, op := Go.Op.move (Go.Operand.tmp 46), type := 4, pos := "laws.go:394", after := #[{ on := 10, ground := Go.Ground.data }, { on := 8, ground := Go.Ground.chain }, { on := 8, ground := Go.Ground.guard }], guard := some (8, false) }) (v := ?_) rfl (by kernel_rfl) (by kernel_rfl) (by kernel_rfl) (fun _ _ _ h => h) (Or.inl ⟨by kernel_rfl, ?_⟩) (by assumption) ?_
              rotate_left
              · intro w hSw; (try dsimp only at hSw); go_simp; try with_reducible rfl
              simp only [Act.put, List.setIfInBounds_toArray, List.set_cons_zero, List.set_cons_succ]
              refine wpAnyH_take (i := 12) (oi := { dst := some 48, op := Go.Op.move (Go.Operand.tmp 7), type := 28, pos := "laws.go:394", after := #[{ on := 11, ground := Go.Ground.guard }], guard := some (11, true) }) (v := undef) rfl (by kernel_rfl) (by kernel_rfl) (by kernel_rfl) (fun _ _ _ h => h) (Or.inr ⟨by kernel_rfl, rfl⟩) (by assumption) ?_
              simp only [Act.put, List.setIfInBounds_toArray, List.set_cons_zero, List.set_cons_succ]
              refine wpAnyH_take (i := 13) (oi := { dst := some 49, op := Go.Op.move (Go.Operand.tmp 8), type := 3, pos := "laws.go:394", after := #[{ on := 11, ground := Go.Ground.guard }], guard := some (11, true) }) (v := undef) rfl (by kernel_rfl) (by kernel_rfl) (by kernel_rfl) (fun _ _ _ h => h) (Or.inr ⟨by kernel_rfl, rfl⟩) (by assumption) ?_
              simp only [Act.put, List.setIfInBounds_toArray, List.set_cons_zero, List.set_cons_succ]
              refine wpAnyH_take (i := 14) (oi := { dst := some 50, op := Go.Op.binOp Go.BinOp.sub 3 (Go.Operand.tmp 49) (Go.Operand.const (Go.Value.int Go.IntKind.i64 1)) 3, type := 3, pos := "laws.go:394", after := #[{ on := 13, ground := Go.Ground.data }, { on := 11, ground := Go.Ground.guard }], guard := some (11, true) }) (v := undef) rfl (by kernel_rfl) (by kernel_rfl) (by kernel_rfl) (fun _ _ _ h => h) (Or.inr ⟨by kernel_rfl, rfl⟩) (by assumption) ?_
              simp only [Act.put, List.setIfInBounds_toArray, List.set_cons_zero, List.set_cons_succ]
              refine wpAnyH_take (i := 15) (oi := { dst := some 51, op := Go.Op.indexAddr 28 (Go.Operand.tmp 48) (Go.Operand.tmp 50), type := 0, pos := "laws.go:394", after := #[{ on := 12, ground := Go.Ground.data }, { on := 14, ground := Go.Ground.data }, { on := 11, ground := Go.Ground.guard }], guard := some (11, true) }) (v := undef) rfl (by kernel_rfl) (by kernel_rfl) (by kernel_rfl) (fun _ _ _ h => h) (Or.inr ⟨by kernel_rfl, rfl⟩) (by assumption) ?_
              simp only [Act.put, List.setIfInBounds_toArray, List.set_cons_zero, List.set_cons_succ]
              refine wpAnyH_take (i := 16) (oi := { dst := some 52, op := Go.Op.load 3 (Go.Operand.tmp 51), type := 3, pos := "laws.go:394", after := #[{ on := 15, ground := Go.Ground.data }, { on := 11, ground := Go.Ground.guard }], guard := some (11, true) }) (v := undef) rfl (by kernel_rfl) (by kernel_rfl) (by kernel_rfl) (fun _ _ _ h => h) (Or.inr ⟨by kernel_rfl, rfl⟩) (by assumption) ?_
              simp only [Act.put, List.setIfInBounds_toArray, List.set_cons_zero, List.set_cons_succ]
              refine wpAnyH_take (i := 17) (oi := { dst := some 53, op := Go.Op.move (Go.Operand.tmp 7), type := 28, pos := "laws.go:394", after := #[{ on := 11, ground := Go.Ground.guard }], guard := some (11, true) }) (v := undef) rfl (by kernel_rfl) (by kernel_rfl) (by kernel_rfl) (fun _ _ _ h => h) (Or.inr ⟨by kernel_rfl, rfl⟩) (by assumption) ?_
              simp only [Act.put, List.setIfInBounds_toArray, List.set_cons_zero, List.set_cons_succ]
              refine wpAnyH_take (i := 18) (oi := { dst := some 54, op := Go.Op.move (Go.Operand.tmp 8), type := 3, pos := "laws.go:394", after := #[{ on := 11, ground := Go.Ground.guard }], guard := some (11, true) }) (v := undef) rfl (by kernel_rfl) (by kernel_rfl) (by kernel_rfl) (fun _ _ _ h => h) (Or.inr ⟨by kernel_rfl, rfl⟩) (by assumption) ?_
              simp only [Act.put, List.setIfInBounds_toArray, List.set_cons_zero, List.set_cons_succ]
              refine wpAnyH_take (i := 19) (oi := { dst := some 55, op := Go.Op.indexAddr 28 (Go.Operand.tmp 53) (Go.Operand.tmp 54), type := 0, pos := "laws.go:394", after := #[{ on := 17, ground := Go.Ground.data }, { on := 18, ground := Go.Ground.data }, { on := 11, ground := Go.Ground.guard }], guard := some (11, true) }) (v := undef) rfl (by kernel_rfl) (by kernel_rfl) (by kernel_rfl) (fun _ _ _ h => h) (Or.inr ⟨by kernel_rfl, rfl⟩) (by assumption) ?_
              simp only [Act.put, List.setIfInBounds_toArray, List.set_cons_zero, List.set_cons_succ]
              refine wpAnyH_take (i := 20) (oi := { dst := some 56, op := Go.Op.load 3 (Go.Operand.tmp 55), type := 3, pos := "laws.go:394", after := #[{ on := 19, ground := Go.Ground.data }, { on := 11, ground := Go.Ground.guard }], guard := some (11, true) }) (v := undef) rfl (by kernel_rfl) (by kernel_rfl) (by kernel_rfl) (fun _ _ _ h => h) (Or.inr ⟨by kernel_rfl, rfl⟩) (by assumption) ?_
              simp only [Act.put, List.setIfInBounds_toArray, List.set_cons_zero, List.set_cons_succ]
              refine wpAnyH_take (i := 21) (oi := { dst := some 57, op := Go.Op.binOp Go.BinOp.geq 3 (Go.Operand.tmp 52) (Go.Operand.tmp 56) 3, type := 4, pos := "laws.go:394", after := #[{ on := 16, ground := Go.Ground.data }, { on := 20, ground := Go.Ground.data }, { on := 11, ground := Go.Ground.guard }], guard := some (11, true) }) (v := undef) rfl (by kernel_rfl) (by kernel_rfl) (by kernel_rfl) (fun _ _ _ h => h) (Or.inr ⟨by kernel_rfl, rfl⟩) (by assumption) ?_
              simp only [Act.put, List.setIfInBounds_toArray, List.set_cons_zero, List.set_cons_succ]
              refine wpAnyH_take (i := 22) (oi := { dst := some 58, op := Go.Op.pick (Go.Operand.tmp 47) (Go.Operand.tmp 57) (Go.Operand.const (Go.Value.bool false)), type := 4, pos := "laws.go:394", after := #[{ on := 11, ground := Go.Ground.data }, { on := 21, ground := Go.Ground.data }, { on := 8, ground := Go.Ground.guard }], guard := some (8, false) }) (v := ?_) rfl (by kernel_rfl) (by kernel_rfl) (by kernel_rfl) (fun _ _ _ h => h) (Or.inl ⟨by kernel_rfl, ?_⟩) (by assumption) ?_
              rotate_left
              · intro w hSw; (try dsimp only at hSw); go_simp; try with_reducible rfl
              simp only [Act.put, List.setIfInBounds_toArray, List.set_cons_zero, List.set_cons_succ]
              refine wpAnyH_take (i := 23) (oi := { dst := some 59, op := Go.Op.pick (Go.Operand.tmp 44) (Go.Operand.const (Go.Value.bool true)) (Go.Operand.tmp 58), type := 4, pos := "laws.go:394", after := #[{ on := 8, ground := Go.Ground.data }, { on := 22, ground := Go.Ground.data }], guard := none }) (v := ?_) rfl (by kernel_rfl) (by kernel_rfl) (by kernel_rfl) (fun _ _ _ h => h) (Or.inl ⟨by kernel_rfl, ?_⟩) (by assumption) ?_
              rotate_left
              · intro w hSw; (try dsimp only at hSw); go_simp; try with_reducible rfl
              simp only [Act.put, List.setIfInBounds_toArray, List.set_cons_zero, List.set_cons_succ]
              refine wpAnyH_done (by kernel_rfl) ?_ _
              clear hHeld hk4
              go_wp2
              go_roundw
              case rel => exact ⟨0 + 1, by go_num, by omega, HOS.out.below B4.out, HRQ.out.below B4.out HHQ.out, Nat.le_trans HHQ.out B4.out.size⟩
              case measure => simp [intOf]; omega
            exact AllReadyH.nil

          · obtain ⟨m, rfl⟩ : ∃ m, j = m + 1 := ⟨j - 1, by omega⟩
            obtain ⟨b2, o2, eq2, hcy⟩ := HRQ.out.num (i := m) (by rw [HN3.out]; omega)
            simp only [Option.some.injEq, Addr.mk.injEq, and_true] at eq2
            obtain ⟨rfl, rfl⟩ := eq2
            obtain ⟨y, HY⟩ : ∃ y, Hid (y = OL.getD m 0) := ⟨_, rfl⟩
            rw [← HY.out] at hcy
            have hyx : y < x := by rw [HX.out, HY.out]; exact asc_at (by rw [HOL.out]; exact ownTo_asc _ _ _) (by rw [HN3.out]; exact hjl)
            have hge : decide (x ≤ y) = false := by simp; omega
            have hge2 : decide (y ≥ x) = false := by simp; omega
            have hnle : ¬ x ≤ y := by omega
            have hm1 : (0 : Int) < (m : Int) + 1 := by omega
            have hm2 : IntKind.i64.wrap ((m : Int) + 1 - 1) = (m : Int) := by simp [IntKind.wrap, IntKind.bits, IntKind.signed]; omega
            have hm3 : IntKind.i64.wrap (m : Int) = (m : Int) := by simp [IntKind.wrap, IntKind.bits, IntKind.signed]; omega
            have hm4 : (0 : Int) ≤ (m : Int) := by omega
            have hm5 : ((m : Int) + 1).toNat = m + 1 := by omega
            have hm6 : (0 : Int) ≤ (m : Int) + 1 := by omega
            have hm7 : (m : Int) < (n3 : Int) := by omega
            have hm8 : (m : Int) + 1 < (n3 : Int) := by omega
            have HC1 : Hid (∀ w0, Below wr.heap.size wr w0 → Calls Tryd.prog 12 #[.int .i64 x, .int .i64 (nw : Int)] w0 fun e w' => e = .returned (.int .i64 (k : Int)) ∧ Hid (Below wr.heap.size wr w') ∧ (w'.cell? ⟨b, o + (m + 1), none⟩ = some (.int .i64 x) ∧ w'.cell? ⟨b, o + m, none⟩ = some (.int .i64 y))) := fun w0 h =>
              (ownerOf_any x (nw : Int) (k : Int) w0 (HT.out.below ((HOS.out.below h).bel)) HXO.out).mono fun _ w' ⟨h1, h4⟩ => ⟨h1, h.trans (h4.out.mono h.size), cell_below hcx (h.trans (h4.out.mono h.size)) (lt_of_cell hcx), cell_below hcy (h.trans (h4.out.mono h.size)) (lt_of_cell hcy)⟩
            clear hj0
            go_wp2_with fail
            refine wp_region_held_drew (S := fun w' => w'.cell? ⟨b, o + (m + 1), none⟩ = some (.int .i64 x) ∧ w'.cell? ⟨b, o + m, none⟩ = some (.int .i64 y)) (by kernel_rfl) ⟨hcx, hcy⟩ (fun hHeld => ?_)
            clear hcx hcy
            refine wpAnyH_take (i := 0) (oi := { dst := some 36, op := Go.Op.move (Go.Operand.tmp 7), type := 28, pos := "laws.go:394", after := #[], guard := none }) (v := ?_) rfl (by kernel_rfl) (by kernel_rfl) (by kernel_rfl) (fun _ _ _ h => h) (Or.inl ⟨by kernel_rfl, ?_⟩) (by assumption) ?_
            rotate_left
            · intro w hSw; (try dsimp only at hSw); go_simp; try with_reducible rfl
            simp only [Act.put, List.setIfInBounds_toArray, List.set_cons_zero, List.set_cons_succ]
            refine wpAnyH_take (i := 1) (oi := { dst := some 37, op := Go.Op.move (Go.Operand.tmp 8), type := 3, pos := "laws.go:394", after := #[], guard := none }) (v := ?_) rfl (by kernel_rfl) (by kernel_rfl) (by kernel_rfl) (fun _ _ _ h => h) (Or.inl ⟨by kernel_rfl, ?_⟩) (by assumption) ?_
            rotate_left
            · intro w hSw; (try dsimp only at hSw); go_simp; try with_reducible rfl
            simp only [Act.put, List.setIfInBounds_toArray, List.set_cons_zero, List.set_cons_succ]
            refine wpAnyH_take (i := 2) (oi := { dst := some 38, op := Go.Op.indexAddr 28 (Go.Operand.tmp 36) (Go.Operand.tmp 37), type := 0, pos := "laws.go:394", after := #[{ on := 0, ground := Go.Ground.data }, { on := 1, ground := Go.Ground.data }], guard := none }) (v := ?_) rfl (by kernel_rfl) (by kernel_rfl) (by kernel_rfl) (fun _ _ _ h => h) (Or.inl ⟨by kernel_rfl, ?_⟩) (by assumption) ?_
            rotate_left
            · intro w hSw; (try dsimp only at hSw); go_simp; try with_reducible rfl
            simp only [Act.put, List.setIfInBounds_toArray, List.set_cons_zero, List.set_cons_succ]
            refine wpAnyH_take (i := 3) (oi := { dst := some 39, op := Go.Op.load 3 (Go.Operand.tmp 38), type := 3, pos := "laws.go:394", after := #[{ on := 2, ground := Go.Ground.data }], guard := none }) (v := ?_) rfl (by kernel_rfl) (by kernel_rfl) (by kernel_rfl) (fun _ _ _ h => h) (Or.inl ⟨by kernel_rfl, ?_⟩) (by assumption) ?_
            rotate_left
            · intro w hSw; (try dsimp only at hSw); go_simp; try with_reducible rfl
            simp only [Act.put, List.setIfInBounds_toArray, List.set_cons_zero, List.set_cons_succ]
            refine wpAnyH_take (i := 4) (oi := { dst := some 40, op := Go.Op.move (Go.Operand.tmp 4), type := 3, pos := "laws.go:394", after := #[], guard := none }) (v := ?_) rfl (by kernel_rfl) (by kernel_rfl) (by kernel_rfl) (fun _ _ _ h => h) (Or.inl ⟨by kernel_rfl, ?_⟩) (by assumption) ?_
            rotate_left
            · intro w hSw; (try dsimp only at hSw); go_simp; try with_reducible rfl
            simp only [Act.put, List.setIfInBounds_toArray, List.set_cons_zero, List.set_cons_succ]
            refine wpAnyH_take (i := 6) (oi := { dst := some 42, op := Go.Op.move (Go.Operand.tmp 6), type := 3, pos := "laws.go:394", after := #[], guard := none }) (v := ?_) rfl (by kernel_rfl) (by kernel_rfl) (by kernel_rfl) (fun _ _ _ h => h) (Or.inl ⟨by kernel_rfl, ?_⟩) (by assumption) ?_
            rotate_left
            · intro w hSw; (try dsimp only at hSw); go_simp; try with_reducible rfl
            simp only [Act.put, List.setIfInBounds_toArray, List.set_cons_zero, List.set_cons_succ]
            refine wpAnyH_ready (rs := [5]) (by kernel_rfl) (by simp) ?_
            refine AllReadyH.cons (o := { dst := some 41, op := Go.Op.call { callee := Go.Callee.value (Go.Operand.func 12), args := #[Go.Operand.tmp 39, Go.Operand.tmp 40], argTypes := #[3, 3] }, type := 3, pos := "laws.go:394", after := #[{ on := 3, ground := Go.Ground.data }, { on := 4, ground := Go.Ground.data }], guard := none }) rfl (fun K hK => ?_) ?_
            · go_simp
              go_wp2_with (go_at_call 12; refine (HC1.out _ hHB.out).mono ?_; rintro e w4 ⟨rfl, B4, hk4⟩)
              refine hK.out _ _ hk4 (fun hHeld => ?_)
              clear hK K
              try simp only [Act.put, List.setIfInBounds_toArray, List.set_cons_zero, List.set_cons_succ]
              refine wpAnyH_take (i := 7) (oi := { dst := some 43, op := Go.Op.binOp Go.BinOp.neq 3 (Go.Operand.tmp 41) (Go.Operand.tmp 42) 3, type := 4, pos := "laws.go:394", after := #[{ on := 5, ground := Go.Ground.data }, { on := 6, ground := Go.Ground.data }], guard := none }) (v := ?_) rfl (by kernel_rfl) (by kernel_rfl) (by kernel_rfl) (fun _ _ _ h => h) (Or.inl ⟨by kernel_rfl, ?_⟩) (by assumption) ?_
              rotate_left
              · intro w hSw; (try dsimp only at hSw); go_simp; try with_reducible rfl
              simp only [Act.put, List.setIfInBounds_toArray, List.set_cons_zero, List.set_cons_succ]
              refine wpAnyH_take (i := 8) (oi := { dst := some 44, op := Go.Op.move (Go.Operand.tmp 43), type := 4, pos := "laws.go:394", after := #[{ on := 7, ground := Go.Ground.data }, { on := 5, ground := Go.Ground.chain }], guard := none }) (v := ?_) rfl (by kernel_rfl) (by kernel_rfl) (by kernel_rfl) (fun _ _ _ h => h) (Or.inl ⟨by kernel_rfl, ?_⟩) (by assumption) ?_
              rotate_left
              · intro w hSw; (try dsimp only at hSw); go_simp; try with_reducible rfl
              simp only [Act.put, List.setIfInBounds_toArray, List.set_cons_zero, List.set_cons_succ]
              refine wpAnyH_take (i := 9) (oi := { dst := some 45, op := Go.Op.move (Go.Operand.tmp 8), type := 3, pos := "laws.go:394", after := #[{ on := 8, ground := Go.Ground.guard }], guard := some (8, false) }) (v := ?_) rfl (by kernel_rfl) (by kernel_rfl) (by kernel_rfl) (fun _ _ _ h => h) (Or.inl ⟨by kernel_rfl, ?_⟩) (by assumption) ?_
              rotate_left
              · intro w hSw; (try dsimp only at hSw); go_simp; try with_reducible rfl
              simp only [Act.put, List.setIfInBounds_toArray, List.set_cons_zero, List.set_cons_succ]
              refine wpAnyH_take (i := 10) (oi := { dst := some 46, op := Go.Op.binOp Go.BinOp.gtr 3 (Go.Operand.tmp 45) (Go.Operand.const (Go.Value.int Go.IntKind.i64 0)) 3, type := 4, pos := "laws.go:394", after := #[{ on := 9, ground := Go.Ground.data }, { on := 8, ground := Go.Ground.guard }], guard := some (8, false) }) (v := ?_) rfl (by kernel_rfl) (by kernel_rfl) (by kernel_rfl) (fun _ _ _ h => h) (Or.inl ⟨by kernel_rfl, ?_⟩) (by assumption) ?_
              rotate_left
              · intro w hSw; (try dsimp only at hSw); go_simp; try with_reducible rfl
              simp only [Act.put, List.setIfInBounds_toArray, List.set_cons_zero, List.set_cons_succ]
              refine wpAnyH_take (i := 11) (oi := { dst := some 47, op := Go.Op.move (Go.Operand.tmp 46), type := 4, pos := "laws.go:394", after := #[{ on := 10, ground := Go.Ground.data }, { on := 8, ground := Go.Ground.chain }, { on := 8, ground := Go.Ground.guard }], guard := some (8, false) }) (v := ?_) rfl (by kernel_rfl) (by kernel_rfl) (by kernel_rfl) (fun _ _ _ h => h) (Or.inl ⟨by kernel_rfl, ?_⟩) (by assumption) ?_
              rotate_left
              · intro w hSw; (try dsimp only at hSw); go_simp; try with_reducible rfl
              simp only [Act.put, List.setIfInBounds_toArray, List.set_cons_zero, List.set_cons_succ]
              refine wpAnyH_take (i := 12) (oi := { dst := some 48, op := Go.Op.move (Go.Operand.tmp 7), type := 28, pos := "laws.go:394", after := #[{ on := 11, ground := Go.Ground.guard }], guard := some (11, true) }) (v := ?_) rfl (by kernel_rfl) (by kernel_rfl) (by kernel_rfl) (fun _ _ _ h => h) (Or.inl ⟨by kernel_rfl, ?_⟩) (by assumption) ?_
              rotate_left
              · intro w hSw; (try dsimp only at hSw); go_simp; try with_reducible rfl
              simp only [Act.put, List.setIfInBounds_toArray, List.set_cons_zero, List.set_cons_succ]
              refine wpAnyH_take (i := 13) (oi := { dst := some 49, op := Go.Op.move (Go.Operand.tmp 8), type := 3, pos := "laws.go:394", after := #[{ on := 11, ground := Go.Ground.guard }], guard := some (11, true) }) (v := ?_) rfl (by kernel_rfl) (by kernel_rfl) (by kernel_rfl) (fun _ _ _ h => h) (Or.inl ⟨by kernel_rfl, ?_⟩) (by assumption) ?_
              rotate_left
              · intro w hSw; (try dsimp only at hSw); go_simp; try with_reducible rfl
              simp only [Act.put, List.setIfInBounds_toArray, List.set_cons_zero, List.set_cons_succ]
              refine wpAnyH_take (i := 14) (oi := { dst := some 50, op := Go.Op.binOp Go.BinOp.sub 3 (Go.Operand.tmp 49) (Go.Operand.const (Go.Value.int Go.IntKind.i64 1)) 3, type := 3, pos := "laws.go:394", after := #[{ on := 13, ground := Go.Ground.data }, { on := 11, ground := Go.Ground.guard }], guard := some (11, true) }) (v := ?_) rfl (by kernel_rfl) (by kernel_rfl) (by kernel_rfl) (fun _ _ _ h => h) (Or.inl ⟨by kernel_rfl, ?_⟩) (by assumption) ?_
              rotate_left
              · intro w hSw; (try dsimp only at hSw); go_simp; try with_reducible rfl
              simp only [Act.put, List.setIfInBounds_toArray, List.set_cons_zero, List.set_cons_succ]
              refine wpAnyH_take (i := 15) (oi := { dst := some 51, op := Go.Op.indexAddr 28 (Go.Operand.tmp 48) (Go.Operand.tmp 50), type := 0, pos := "laws.go:394", after := #[{ on := 12, ground := Go.Ground.data }, { on := 14, ground := Go.Ground.data }, { on := 11, ground := Go.Ground.guard }], guard := some (11, true) }) (v := ?_) rfl (by kernel_rfl) (by kernel_rfl) (by kernel_rfl) (fun _ _ _ h => h) (Or.inl ⟨by kernel_rfl, ?_⟩) (by assumption) ?_
              rotate_left
              · intro w hSw; (try dsimp only at hSw); go_simp; try with_reducible rfl
              simp only [Act.put, List.setIfInBounds_toArray, List.set_cons_zero, List.set_cons_succ]
              refine wpAnyH_take (i := 16) (oi := { dst := some 52, op := Go.Op.load 3 (Go.Operand.tmp 51), type := 3, pos := "laws.go:394", after := #[{ on := 15, ground := Go.Ground.data }, { on := 11, ground := Go.Ground.guard }], guard := some (11, true) }) (v := ?_) rfl (by kernel_rfl) (by kernel_rfl) (by kernel_rfl) (fun _ _ _ h => h) (Or.inl ⟨by kernel_rfl, ?_⟩) (by assumption) ?_
              rotate_left
              · intro w hSw; (try dsimp only at hSw); go_simp; try with_reducible rfl
              simp only [Act.put, List.setIfInBounds_toArray, List.set_cons_zero, List.set_cons_succ]
              refine wpAnyH_take (i := 17) (oi := { dst := some 53, op := Go.Op.move (Go.Operand.tmp 7), type := 28, pos := "laws.go:394", after := #[{ on := 11, ground := Go.Ground.guard }], guard := some (11, true) }) (v := ?_) rfl (by kernel_rfl) (by kernel_rfl) (by kernel_rfl) (fun _ _ _ h => h) (Or.inl ⟨by kernel_rfl, ?_⟩) (by assumption) ?_
              rotate_left
              · intro w hSw; (try dsimp only at hSw); go_simp; try with_reducible rfl
              simp only [Act.put, List.setIfInBounds_toArray, List.set_cons_zero, List.set_cons_succ]
              refine wpAnyH_take (i := 18) (oi := { dst := some 54, op := Go.Op.move (Go.Operand.tmp 8), type := 3, pos := "laws.go:394", after := #[{ on := 11, ground := Go.Ground.guard }], guard := some (11, true) }) (v := ?_) rfl (by kernel_rfl) (by kernel_rfl) (by kernel_rfl) (fun _ _ _ h => h) (Or.inl ⟨by kernel_rfl, ?_⟩) (by assumption) ?_
              rotate_left
              · intro w hSw; (try dsimp only at hSw); go_simp; try with_reducible rfl
              simp only [Act.put, List.setIfInBounds_toArray, List.set_cons_zero, List.set_cons_succ]
              refine wpAnyH_take (i := 19) (oi := { dst := some 55, op := Go.Op.indexAddr 28 (Go.Operand.tmp 53) (Go.Operand.tmp 54), type := 0, pos := "laws.go:394", after := #[{ on := 17, ground := Go.Ground.data }, { on := 18, ground := Go.Ground.data }, { on := 11, ground := Go.Ground.guard }], guard := some (11, true) }) (v := ?_) rfl (by kernel_rfl) (by kernel_rfl) (by kernel_rfl) (fun _ _ _ h => h) (Or.inl ⟨by kernel_rfl, ?_⟩) (by assumption) ?_
              rotate_left
              · intro w hSw; (try dsimp only at hSw); go_simp; try with_reducible rfl
              simp only [Act.put, List.setIfInBounds_toArray, List.set_cons_zero, List.set_cons_succ]
              refine wpAnyH_take (i := 20) (oi := { dst := some 56, op := Go.Op.load 3 (Go.Operand.tmp 55), type := 3, pos := "laws.go:394", after := #[{ on := 19, ground := Go.Ground.data }, { on := 11, ground := Go.Ground.guard }], guard := some (11, true) }) (v := ?_) rfl (by kernel_rfl) (by kernel_rfl) (by kernel_rfl) (fun _ _ _ h => h) (Or.inl ⟨by kernel_rfl, ?_⟩) (by assumption) ?_
              rotate_left
              · intro w hSw; (try dsimp only at hSw); go_simp; try with_reducible rfl
              simp only [Act.put, List.setIfInBounds_toArray, List.set_cons_zero, List.set_cons_succ]
              refine wpAnyH_take (i := 21) (oi := { dst := some 57, op := Go.Op.binOp Go.BinOp.geq 3 (Go.Operand.tmp 52) (Go.Operand.tmp 56) 3, type := 4, pos := "laws.go:394", after := #[{ on := 16, ground := Go.Ground.data }, { on := 20, ground := Go.Ground.data }, { on := 11, ground := Go.Ground.guard }], guard := some (11, true) }) (v := ?_) rfl (by kernel_rfl) (by kernel_rfl) (by kernel_rfl) (fun _ _ _ h => h) (Or.inl ⟨by kernel_rfl, ?_⟩) (by assumption) ?_
              rotate_left
              · intro w hSw; (try dsimp only at hSw); go_simp; try with_reducible rfl
              simp only [Act.put, List.setIfInBounds_toArray, List.set_cons_zero, List.set_cons_succ]
              refine wpAnyH_take (i := 22) (oi := { dst := some 58, op := Go.Op.pick (Go.Operand.tmp 47) (Go.Operand.tmp 57) (Go.Operand.const (Go.Value.bool false)), type := 4, pos := "laws.go:394", after := #[{ on := 11, ground := Go.Ground.data }, { on := 21, ground := Go.Ground.data }, { on := 8, ground := Go.Ground.guard }], guard := some (8, false) }) (v := ?_) rfl (by kernel_rfl) (by kernel_rfl) (by kernel_rfl) (fun _ _ _ h => h) (Or.inl ⟨by kernel_rfl, ?_⟩) (by assumption) ?_
              rotate_left
              · intro w hSw; (try dsimp only at hSw); go_simp; try with_reducible rfl
              simp only [Act.put, List.setIfInBounds_toArray, List.set_cons_zero, List.set_cons_succ]
              refine wpAnyH_take (i := 23) (oi := { dst := some 59, op := Go.Op.pick (Go.Operand.tmp 44) (Go.Operand.const (Go.Value.bool true)) (Go.Operand.tmp 58), type := 4, pos := "laws.go:394", after := #[{ on := 8, ground := Go.Ground.data }, { on := 22, ground := Go.Ground.data }], guard := none }) (v := ?_) rfl (by kernel_rfl) (by kernel_rfl) (by kernel_rfl) (fun _ _ _ h => h) (Or.inl ⟨by kernel_rfl, ?_⟩) (by assumption) ?_
              rotate_left
              · intro w hSw; (try dsimp only at hSw); go_simp; try with_reducible rfl
              simp only [Act.put, List.setIfInBounds_toArray, List.set_cons_zero, List.set_cons_succ]
              refine wpAnyH_done (by kernel_rfl) ?_ _
              clear hHeld hk4
              go_wp2
              go_roundw
              case rel => exact ⟨(m + 1) + 1, by go_num, by omega, HOS.out.below B4.out, HRQ.out.below B4.out HHQ.out, Nat.le_trans HHQ.out B4.out.size⟩
              case measure => simp [intOf]; omega
            exact AllReadyH.nil

        · obtain rfl : j = n3 := by omega
          go_wp2
          go_roundw
          case rel => exact ⟨k + 1, by go_num, by rw [HNX.out]; go_num, by omega, HOS, by show _ ≤ _; have := HNX.out; have := HLE.out; omega⟩
          case measure => simp [intOf]; omega
    · obtain rfl : k = nw := by omega
      have HAL : Hid (((ownSum (k : Int) S k : Nat) : Int) = s) := by
        show _ = _
        have := ownSum_all (k : Int) (by omega) S
        rw [Int.toNat_natCast] at this
        rw [this, HS.out]
      rw [HAL.out]
      obtain ⟨c0, c1⟩ := blk_pair_cells HOR.out.box
      go_wp2_with fail
      refine (drawOwner_any wr n0 cap0 a0 hn0 (HC0.out.below HOR.out.bel)).mono ?_
      rintro e w5 ⟨x, y, rfl, HB5⟩
      have HO5 : Hid (OS w w5 P s a n c L) := HOR.out.below HB5.out
      obtain ⟨z, HZ⟩ : ∃ z, Hid (z = ownOf x y) := ⟨_, rfl⟩
      clear c0 c1 HB5 HOR
      obtain ⟨c0, c1⟩ := blk_pair_cells HO5.out.box
      go_wp2_with fail
      refine (ownerOf_any x y z w5 (HT.out.below HO5.out.bel) HZ.out).mono ?_
      rintro e w6 ⟨rfl, HB6⟩
      have HO6 : Hid (OS w w6 P s a n c L) := HO5.out.below HB6.out
      clear c0 c1
      go_wp2_with fail
      refine (specOwner_any x y z w6 HZ.out).mono ?_
      rintro e w7 ⟨rfl, HB7⟩
      have HO7 : Hid (OS w w7 P s a n c L) := HO6.out.below HB7.out
      have H31 : Hid ((0 : Int) = ownOf 3 1) := by show _ = _; rw [own_yes (by omega), Int.emod_one]
      go_wp2_with fail
      refine (ownerOf_any 3 1 0 w7 (HT.out.below HO7.out.bel) H31.out).mono ?_
      rintro e w8 ⟨rfl, HB8⟩
      go_wp2
      go_ret
      exact ⟨rfl, HO7.out.bel.trans (HB8.out.mono HO7.out.bel.size)⟩
end Go.Proofs.YtigojleieihdoaaDoor
