/-
  Words ahead of two sets of two machines: impl.sameAhead.
-/
import Derived.Test.YtdhkkabcgehjpaaNtI
namespace Go.Proofs.Ytdhkkabcgehjpaa
open Go.RowKit

/-- whether the same words of at most n letters lead from both sets to an end -/
def aheadB (A A' : Nat → Nat → Bool) (q q' : Nat → Bool) : Nat → (Nat → Bool) → (Nat → Bool) → Bool
  | 0, f, g => endTo q f 24 == endTo q' g 24
  | n + 1, f, g => (endTo q f 24 == endTo q' g 24) && (List.range 4).all fun i => aheadB A A' q q' n (goS (A i) f) (goS (A' i) g)
theorem ahead_ends {A A' : Nat → Nat → Bool} {q q' : Nat → Bool} {n : Nat} {f g : Nat → Bool} (h : aheadB A A' q q' n f g = true) : endTo q f 24 = endTo q' g 24 := by
  cases n <;> simp [aheadB] at h
  · exact h
  · exact h.1
theorem ahead_no {A A' : Nat → Nat → Bool} {q q' : Nat → Bool} {n i : Nat} {f g : Nat → Bool} (hi : i < 4) (h : aheadB A A' q q' n (goS (A i) f) (goS (A' i) g) = false) : aheadB A A' q q' (n + 1) f g = false := by
  rw [Bool.eq_false_iff]
  intro e
  unfold aheadB at e
  rw [Bool.and_eq_true, List.all_eq_true] at e
  have := e.2 i (List.mem_range.2 hi)
  rw [h] at this
  cases this
theorem ahead_yes {A A' : Nat → Nat → Bool} {q q' : Nat → Bool} {n : Nat} {f g : Nat → Bool} (he : endTo q f 24 = endTo q' g 24) (h : ∀ i, i < 4 → aheadB A A' q q' n (goS (A i) f) (goS (A' i) g) = true) : aheadB A A' q q' (n + 1) f g = true := by
  unfold aheadB
  rw [Bool.and_eq_true, List.all_eq_true]
  exact ⟨by simp [he], fun i hi => h i (List.mem_range.1 hi)⟩
/-- the first blocks as they were -/
def SameTo (k : Nat) (w w' : World) : Prop := ∀ b, b < k → w'.heap[b]? = w.heap[b]?
theorem SameTo.of {k : Nat} {w w' : World} (h : Below k w w') : SameTo k w w' := fun b hb => h.block b (by omega)

set_option maxHeartbeats 4000000 in
set_option maxRecDepth 100000 in
theorem ahead_step (A A' : Nat → Nat → Bool) (q q' : Nat → Bool) (p : Nat) (f g : Nat → Bool) (r : Bool) (w : World) (hp : p ≤ 6) (hr : r = aheadB A A' q q' p f g)
    (ih : ∀ m, m + 1 = p → ∀ (f g : Nat → Bool) (r : Bool) (w : World), r = aheadB A A' q q' m f g → Calls Try.prog 57 #[mval A q, mval A' q', sv f, sv g, .int .i64 (m : Int)] w fun e w' => e = .returned (.bool r) ∧ Hid (Below w.heap.size w w')) :
    Calls Try.prog 57 #[mval A q, mval A' q', sv f, sv g, .int .i64 (p : Int)] w fun e w' => e = .returned (.bool r) ∧ Hid (Below w.heap.size w w') := by
  have HR : Hid (r = aheadB A A' q q' p f g) := hr
  have HIH : Hid (∀ m, m + 1 = p → ∀ (f g : Nat → Bool) (r : Bool) (w : World), r = aheadB A A' q q' m f g → Calls Try.prog 57 #[mval A q, mval A' q', sv f, sv g, .int .i64 (m : Int)] w fun e w' => e = .returned (.bool r) ∧ Hid (Below w.heap.size w w')) := ih
  clear hr ih
  obtain ⟨c1, HC1⟩ : ∃ c, Hid (c = (mcells A q).toArray) := ⟨_, rfl⟩
  obtain ⟨c2, HC2⟩ : ∃ c, Hid (c = (mcells A' q').toArray) := ⟨_, rfl⟩
  obtain ⟨c3, HC3⟩ : ∃ c, Hid (c = (bcells 24 f).toArray) := ⟨_, rfl⟩
  obtain ⟨c4, HC4⟩ : ∃ c, Hid (c = (bcells 24 g).toArray) := ⟨_, rfl⟩
  have h1 : c1.size = 28 := by rw [HC1.out]; exact mcells_size A q
  have h2 : c2.size = 28 := by rw [HC2.out]; exact mcells_size A' q'
  have h3 : c3.size = 24 := by rw [HC3.out]; exact bcells_size _ _
  have h4 : c4.size = 24 := by rw [HC4.out]; exact bcells_size _ _
  obtain ⟨x, HX⟩ : ∃ x, Hid (x = endTo q f 24) := ⟨_, rfl⟩
  obtain ⟨y, HY⟩ : ∃ y, Hid (y = endTo q' g 24) := ⟨_, rfl⟩
  have HE1 : Hid (∀ w0, Calls Try.prog 36 #[.agg c1, .agg c3] w0 fun e w' => e = .returned (.bool x) ∧ Hid (Below w0.heap.size w0 w')) := fun w0 => by
    rw [HC1.out, HC3.out]; exact mayEnd_any A q f x w0 HX.out
  have HE2 : Hid (∀ w0, Calls Try.prog 36 #[.agg c2, .agg c4] w0 fun e w' => e = .returned (.bool y) ∧ Hid (Below w0.heap.size w0 w')) := fun w0 => by
    rw [HC2.out, HC4.out]; exact mayEnd_any A' q' g y w0 HY.out
  unfold mval sv
  rw [← HC1.out, ← HC2.out, ← HC3.out, ← HC4.out]
  obtain ⟨B, HB⟩ : ∃ B, Hid (B = w.heap.size) := ⟨_, rfl⟩
  obtain ⟨W, HW⟩ : ∃ W, Hid (W = (((w.alloc (.cells c1 66)).alloc (.cells c2 66)).alloc (.cells c3 64)).alloc (.cells c4 64)) := ⟨_, rfl⟩
  have HBW : Hid (Below w.heap.size w W) := by rw [HW.out]; exact (below3 w _ _ _).trans ((below1 _ _).mono (by simp; omega))
  have HSW : Hid (W.heap.size = B + 4) := by rw [HW.out, HB.out]; show _ = _; simp
  have HM1 : Hid (MBlk W B A q) := by rw [HW.out, HC1.out]; exact Blk.alloc (Blk.alloc (Blk.alloc (MBlk.new w B HB.out A q _) _) _) _
  have HM2 : Hid (MBlk W (B + 1) A' q') := by rw [HW.out, HC2.out]; exact Blk.alloc (Blk.alloc (MBlk.new _ (B + 1) (by rw [HB.out]; simp) A' q' _) _) _
  have HS3 : Hid (BBlk W (B + 1 + 1) 24 f) := by rw [HW.out, HC3.out]; exact Blk.alloc (BBlk.new _ (B + 1 + 1) (by rw [HB.out]; simp) 24 f _) _
  have HS4 : Hid (BBlk W (B + 1 + 1 + 1) 24 g) := by rw [HW.out, HC4.out]; exact BBlk.new _ (B + 1 + 1 + 1) (by rw [HB.out]; simp) 24 g _
  have HL1 : ∀ wz, SameTo (B + 4) W wz → wz.rangeAt B 0 c1.toList := fun wz h => by rw [HC1.out, List.toList_toArray]; exact (MBlk.of HM1.out (h _ (by omega))).range
  have HL2 : ∀ wz, SameTo (B + 4) W wz → wz.rangeAt (B + 1) 0 c2.toList := fun wz h => by rw [HC2.out, List.toList_toArray]; exact (MBlk.of HM2.out (h _ (by omega))).range
  have HL3 : ∀ wz, SameTo (B + 4) W wz → wz.rangeAt (B + 1 + 1) 0 c3.toList := fun wz h => by rw [HC3.out, List.toList_toArray]; exact (BBlk.of HS3.out (h _ (by omega))).all
  have HL4 : ∀ wz, SameTo (B + 4) W wz → wz.rangeAt (B + 1 + 1 + 1) 0 c4.toList := fun wz h => by rw [HC4.out, List.toList_toArray]; exact (BBlk.of HS4.out (h _ (by omega))).all
  have l1 : c1.toList.length = 28 := by rw [Array.length_toList]; exact h1
  have l2 : c2.toList.length = 28 := by rw [Array.length_toList]; exact h2
  have l3 : c3.toList.length = 24 := by rw [Array.length_toList]; exact h3
  have l4 : c4.toList.length = 24 := by rw [Array.length_toList]; exact h4
  have HFN : Hid (x ≠ y → r = false) := fun h => by
    rw [HR.out, Bool.eq_false_iff]
    intro e
    exact h (by rw [HX.out, HY.out]; exact ahead_ends e)
  go_enter Try.func57, Try.ntmps57
  go_upto_region 1 with fail
  rw [← HB.out, ← HW.out]
  clear HW
  have HBD : Hid (Below (B + 4) W W.drew) := (Below.refl _ _).drew
  rcases Bool.eq_false_or_eq_true x with hx | hx
  · subst hx
    rcases Bool.eq_false_or_eq_true y with hy | hy
    · subst hy
      refine wp_region_held_drew (S := fun w' => Hid (Below (B + 4) W w')) (by kernel_rfl) (show Hid (Below (B + 4) W W.drew) from (Below.refl _ _).drew) (fun hHeld => ?_)
      refine wpAnyH_take (i := 0) (oi := { dst := some 12, op := Go.Op.load 66 (Go.Operand.tmp 5), type := 66, pos := "l07_nfa.go:349", after := #[], guard := none }) (v := .agg c1) rfl (by kernel_rfl) (by kernel_rfl) (by kernel_rfl) (fun _ _ _ h => h) (yieldsIf_load_mid (by kernel_rfl) 66 _ rfl B 0 rfl c1.toList _ (fun wz h => HL1 wz (SameTo.of h.out)) Try.underlying66 rfl (by rw [l1]; exact info_mac)) (by assumption) ?_
      simp only [Act.put, List.setIfInBounds_toArray, List.set_cons_zero, List.set_cons_succ]
      refine wpAnyH_take (i := 1) (oi := { dst := some 13, op := Go.Op.load 64 (Go.Operand.tmp 7), type := 64, pos := "l07_nfa.go:349", after := #[], guard := none }) (v := .agg c3) rfl (by kernel_rfl) (by kernel_rfl) (by kernel_rfl) (fun _ _ _ h => h) (yieldsIf_load_mid (by kernel_rfl) 64 _ rfl (B + 1 + 1) 0 rfl c3.toList _ (fun wz h => HL3 wz (SameTo.of h.out)) Try.underlying64 rfl (by rw [l3]; exact info_set)) (by assumption) ?_
      simp only [Act.put, List.setIfInBounds_toArray, List.set_cons_zero, List.set_cons_succ]
      refine wpAnyH_take (i := 3) (oi := { dst := some 15, op := Go.Op.load 66 (Go.Operand.tmp 6), type := 66, pos := "l07_nfa.go:349", after := #[], guard := none }) (v := .agg c2) rfl (by kernel_rfl) (by kernel_rfl) (by kernel_rfl) (fun _ _ _ h => h) (yieldsIf_load_mid (by kernel_rfl) 66 _ rfl (B + 1) 0 rfl c2.toList _ (fun wz h => HL2 wz (SameTo.of h.out)) Try.underlying66 rfl (by rw [l2]; exact info_mac)) (by assumption) ?_
      simp only [Act.put, List.setIfInBounds_toArray, List.set_cons_zero, List.set_cons_succ]
      refine wpAnyH_take (i := 4) (oi := { dst := some 16, op := Go.Op.load 64 (Go.Operand.tmp 8), type := 64, pos := "l07_nfa.go:349", after := #[], guard := none }) (v := .agg c4) rfl (by kernel_rfl) (by kernel_rfl) (by kernel_rfl) (fun _ _ _ h => h) (yieldsIf_load_mid (by kernel_rfl) 64 _ rfl (B + 1 + 1 + 1) 0 rfl c4.toList _ (fun wz h => HL4 wz (SameTo.of h.out)) Try.underlying64 rfl (by rw [l4]; exact info_set)) (by assumption) ?_
      simp only [Act.put, List.setIfInBounds_toArray, List.set_cons_zero, List.set_cons_succ]
      refine wpAnyH_ready (rs := [2]) (by kernel_rfl) (by simp) ?_
      refine AllReadyH.cons (o := { dst := some 14, op := Go.Op.call { callee := Go.Callee.value (Go.Operand.func 36), args := #[Go.Operand.tmp 12, Go.Operand.tmp 13], argTypes := #[66, 64] }, type := 4, pos := "l07_nfa.go:349", after := #[{ on := 0, ground := Go.Ground.data }, { on := 1, ground := Go.Ground.data }], guard := none }) rfl (fun K hK => ?_) ?_
      · go_simp
        go_wp2_with (go_at_call 36; refine (HE1.out _).mono ?_; rintro e w2 ⟨rfl, HB20⟩)
        have HB2 : Hid (Below (B + 4) W w2) := HBD.out.trans (HB20.out.mono (by have := HBD.out.size; have := HSW.out; omega))
        refine hK.out _ _ HB2 (fun hHeld => ?_)
        clear hK K
        try simp only [Act.put, List.setIfInBounds_toArray, List.set_cons_zero, List.set_cons_succ]
        refine wpAnyH_ready (rs := [5]) (by kernel_rfl) (by simp) ?_
        refine AllReadyH.cons (o := { dst := some 17, op := Go.Op.call { callee := Go.Callee.value (Go.Operand.func 36), args := #[Go.Operand.tmp 15, Go.Operand.tmp 16], argTypes := #[66, 64] }, type := 4, pos := "l07_nfa.go:349", after := #[{ on := 3, ground := Go.Ground.data }, { on := 4, ground := Go.Ground.data }, { on := 2, ground := Go.Ground.chain }], guard := none }) rfl (fun K hK => ?_) ?_
        · go_simp
          go_wp2_with (go_at_call 36; refine (HE2.out _).mono ?_; rintro e w3 ⟨rfl, HB30⟩)
          have HB3 : Hid (Below (B + 4) W w3) := HB2.out.trans (HB30.out.mono (by have := HB2.out.size; have := HSW.out; omega))
          refine hK.out _ _ HB3 (fun hHeld => ?_)
          clear hK K
          try simp only [Act.put, List.setIfInBounds_toArray, List.set_cons_zero, List.set_cons_succ]
          refine wpAnyH_take (i := 6) (oi := { dst := some 18, op := Go.Op.binOp Go.BinOp.neq 4 (Go.Operand.tmp 14) (Go.Operand.tmp 17) 4, type := 4, pos := "l07_nfa.go:349", after := #[{ on := 2, ground := Go.Ground.data }, { on := 5, ground := Go.Ground.data }], guard := none }) (v := ?_) rfl (by kernel_rfl) (by kernel_rfl) (by kernel_rfl) (fun _ _ _ h => h) (Or.inl ⟨by kernel_rfl, ?_⟩) (by assumption) ?_
          rotate_left
          · intro w hSw; (try dsimp only at hSw); go_simp; try with_reducible rfl
          simp only [Act.put, List.setIfInBounds_toArray, List.set_cons_zero, List.set_cons_succ]
          refine wpAnyH_done (by kernel_rfl) ?_ _
          clear hHeld
          have HXY : Hid (endTo q f 24 = endTo q' g 24) := by show _ = _; rw [← HX.out, ← HY.out]
          by_cases hp0 : p = 0
          · subst hp0
            have HRT : Hid (r = true) := by show _ = _; rw [HR.out]; unfold aheadB; simp [HXY.out]
            go_wp2
            go_ret
            exact ⟨by rw [HRT.out]; rfl, HBW.out.trans (HB3.out.mono (by have := HB.out; omega))⟩
          · obtain ⟨m, hm⟩ : ∃ m, m + 1 = p := ⟨p - 1, by omega⟩
            have HPM : Hid (m + 1 = p) := hm
            have hpi : ¬ (p : Int) = 0 := by omega
            have hpb : ((p : Int) == 0) = false := beq_eq_false_iff_ne.2 hpi
            have hpd : decide ((p : Int) = 0) = false := decide_eq_false hpi
            have hw1 : IntKind.i64.wrap ((p : Int) - 1) = (m : Int) := by simp [IntKind.wrap, IntKind.bits, IntKind.signed]; omega
            clear hm
            go_wp2
            go_loopw [21] (fun i wr => ∃ k : Nat, i = .int .i64 k ∧ k ≤ 4 ∧ Hid (∀ j, j < k → aheadB A A' q q' m (goS (A j) f) (goS (A' j) g) = true) ∧ Hid (Below (B + 4) W wr)) (fun i _ => 4 - (intOf i).toNat)
            case atStart => exact ⟨0, rfl, by omega, fun j hj => absurd hj (by omega), HB3⟩
            case round =>
              obtain ⟨k, rfl, hk, HE, HL⟩ := hrel
              by_cases hlt : k < 4
              · have hlt1 : (k : Int) < 4 := by omega
                have hlt0 : (0 : Int) ≤ (k : Int) := by omega
                obtain ⟨cA, HCA⟩ : ∃ c, Hid (c = (bcells 576 (A k)).toArray) := ⟨_, rfl⟩
                obtain ⟨cA', HCA'⟩ : ∃ c, Hid (c = (bcells 576 (A' k)).toArray) := ⟨_, rfl⟩
                obtain ⟨cf, HCF⟩ : ∃ c, Hid (c = (bcells 24 (goS (A k) f)).toArray) := ⟨_, rfl⟩
                obtain ⟨cg, HCG⟩ : ∃ c, Hid (c = (bcells 24 (goS (A' k) g)).toArray) := ⟨_, rfl⟩
                obtain ⟨z, HZ⟩ : ∃ z, Hid (z = aheadB A A' q q' m (goS (A k) f) (goS (A' k) g)) := ⟨_, rfl⟩
                have HF1 : Hid (∀ w0, Calls Try.prog 62 #[.agg cA, .agg c3] w0 fun e w' => e = .returned (.agg cf) ∧ Hid (Below w0.heap.size w0 w')) := fun w0 => by
                  rw [HCA.out, HC3.out, HCF.out]; exact from_any (A k) f w0
                have HF2 : Hid (∀ w0, Calls Try.prog 62 #[.agg cA', .agg c4] w0 fun e w' => e = .returned (.agg cg) ∧ Hid (Below w0.heap.size w0 w')) := fun w0 => by
                  rw [HCA'.out, HC4.out, HCG.out]; exact from_any (A' k) g w0
                have HRC : Hid (∀ w0, Calls Try.prog 57 #[.agg c1, .agg c2, .agg cf, .agg cg, .int .i64 (m : Int)] w0 fun e w' => e = .returned (.bool z) ∧ Hid (Below w0.heap.size w0 w')) := fun w0 => by
                  rw [HC1.out, HC2.out, HCF.out, HCG.out]; exact HIH.out m HPM.out _ _ z w0 HZ.out
                have HV1 : ∀ wz, Below (B + 4) W wz → wz.cell? ⟨B, k, none⟩ = some (.func (.func 62) #[.agg cA] #[]) := fun wz h => by
                  rw [HCA.out]; exact (MBlk.of HM1.out (SameTo.of h _ (by omega))).move hlt
                have HV2 : ∀ wz, Below (B + 4) W wz → wz.cell? ⟨B + 1, k, none⟩ = some (.func (.func 62) #[.agg cA'] #[]) := fun wz h => by
                  rw [HCA'.out]; exact (MBlk.of HM2.out (SameTo.of h _ (by omega))).move hlt
                have HSS : ∀ wz, Below (B + 4) W wz → (wz.cell? ⟨B, k, none⟩ = some (.func (.func 62) #[.agg cA] #[])) ∧ (wz.cell? ⟨B + 1, k, none⟩ = some (.func (.func 62) #[.agg cA'] #[])) ∧ Hid (Below (B + 4) W wz) := fun wz h => ⟨HV1 wz h, HV2 wz h, h⟩
                clear HV1 HV2
                have HLD : Hid (Below (B + 4) W wr.drew) := HL.out.drew
                go_upto_region 8 with fail
                refine wp_region_held_drew (S := fun wz => (wz.cell? ⟨B, k, none⟩ = some (.func (.func 62) #[.agg cA] #[])) ∧ (wz.cell? ⟨B + 1, k, none⟩ = some (.func (.func 62) #[.agg cA'] #[])) ∧ Hid (Below (B + 4) W wz)) (by kernel_rfl) (HSS _ HLD.out) (fun hHeld => ?_)
                rcases Bool.eq_false_or_eq_true z with hz | hz
                · subst hz
                  refine wpAnyH_take (i := 0) (oi := { dst := some 24, op := Go.Op.load 66 (Go.Operand.tmp 5), type := 66, pos := "l07_nfa.go:356", after := #[], guard := none }) (v := .agg c1) rfl (by kernel_rfl) (by kernel_rfl) (by kernel_rfl) (fun _ _ _ h => h) (yieldsIf_load_mid (by kernel_rfl) 66 _ rfl B 0 rfl c1.toList _ (fun wz h => HL1 wz (SameTo.of h.2.2.out)) Try.underlying66 rfl (by rw [l1]; exact info_mac)) (by assumption) ?_
                  simp only [Act.put, List.setIfInBounds_toArray, List.set_cons_zero, List.set_cons_succ]
                  refine wpAnyH_take (i := 1) (oi := { dst := some 25, op := Go.Op.load 66 (Go.Operand.tmp 6), type := 66, pos := "l07_nfa.go:356", after := #[], guard := none }) (v := .agg c2) rfl (by kernel_rfl) (by kernel_rfl) (by kernel_rfl) (fun _ _ _ h => h) (yieldsIf_load_mid (by kernel_rfl) 66 _ rfl (B + 1) 0 rfl c2.toList _ (fun wz h => HL2 wz (SameTo.of h.2.2.out)) Try.underlying66 rfl (by rw [l2]; exact info_mac)) (by assumption) ?_
                  simp only [Act.put, List.setIfInBounds_toArray, List.set_cons_zero, List.set_cons_succ]
                  refine wpAnyH_take (i := 2) (oi := { dst := some 26, op := Go.Op.move (Go.Operand.tmp 11), type := 3, pos := "l07_nfa.go:356", after := #[], guard := none }) (v := ?_) rfl (by kernel_rfl) (by kernel_rfl) (by kernel_rfl) (fun _ _ _ h => h) (Or.inl ⟨by kernel_rfl, ?_⟩) (by assumption) ?_
                  rotate_left
                  · intro w hSw; (try dsimp only at hSw); go_simp; try with_reducible rfl
                  simp only [Act.put, List.setIfInBounds_toArray, List.set_cons_zero, List.set_cons_succ]
                  refine wpAnyH_take (i := 3) (oi := { dst := some 27, op := Go.Op.fieldAddr 66 (Go.Operand.tmp 5) 0, type := 0, pos := "l07_nfa.go:356", after := #[], guard := none }) (v := ?_) rfl (by kernel_rfl) (by kernel_rfl) (by kernel_rfl) (fun _ _ _ h => h) (Or.inl ⟨by kernel_rfl, ?_⟩) (by assumption) ?_
                  rotate_left
                  · intro w hSw; (try dsimp only at hSw); go_simp; try with_reducible rfl
                  simp only [Act.put, List.setIfInBounds_toArray, List.set_cons_zero, List.set_cons_succ]
                  refine wpAnyH_take (i := 4) (oi := { dst := some 28, op := Go.Op.indexAddr 62 (Go.Operand.tmp 27) (Go.Operand.tmp 26), type := 0, pos := "l07_nfa.go:356", after := #[{ on := 3, ground := Go.Ground.data }, { on := 2, ground := Go.Ground.data }], guard := none }) (v := ?_) rfl (by kernel_rfl) (by kernel_rfl) (by kernel_rfl) (fun _ _ _ h => h) (Or.inl ⟨by kernel_rfl, ?_⟩) (by assumption) ?_
                  rotate_left
                  · intro w hSw; (try dsimp only at hSw); go_simp; try with_reducible rfl
                  simp only [Act.put, List.setIfInBounds_toArray, List.set_cons_zero, List.set_cons_succ]
                  refine wpAnyH_take (i := 5) (oi := { dst := some 29, op := Go.Op.load 61 (Go.Operand.tmp 28), type := 61, pos := "l07_nfa.go:356", after := #[{ on := 4, ground := Go.Ground.data }], guard := none }) (v := ?_) rfl (by kernel_rfl) (by kernel_rfl) (by kernel_rfl) (fun _ _ _ h => h) (Or.inl ⟨by kernel_rfl, ?_⟩) (by assumption) ?_
                  rotate_left
                  · intro w hSw; (try dsimp only at hSw); go_simp; try with_reducible rfl
                  simp only [Act.put, List.setIfInBounds_toArray, List.set_cons_zero, List.set_cons_succ]
                  refine wpAnyH_take (i := 6) (oi := { dst := some 30, op := Go.Op.load 64 (Go.Operand.tmp 7), type := 64, pos := "l07_nfa.go:356", after := #[], guard := none }) (v := .agg c3) rfl (by kernel_rfl) (by kernel_rfl) (by kernel_rfl) (fun _ _ _ h => h) (yieldsIf_load_mid (by kernel_rfl) 64 _ rfl (B + 1 + 1) 0 rfl c3.toList _ (fun wz h => HL3 wz (SameTo.of h.2.2.out)) Try.underlying64 rfl (by rw [l3]; exact info_set)) (by assumption) ?_
                  simp only [Act.put, List.setIfInBounds_toArray, List.set_cons_zero, List.set_cons_succ]
                  refine wpAnyH_take (i := 8) (oi := { dst := some 32, op := Go.Op.move (Go.Operand.tmp 11), type := 3, pos := "l07_nfa.go:356", after := #[], guard := none }) (v := ?_) rfl (by kernel_rfl) (by kernel_rfl) (by kernel_rfl) (fun _ _ _ h => h) (Or.inl ⟨by kernel_rfl, ?_⟩) (by assumption) ?_
                  rotate_left
                  · intro w hSw; (try dsimp only at hSw); go_simp; try with_reducible rfl
                  simp only [Act.put, List.setIfInBounds_toArray, List.set_cons_zero, List.set_cons_succ]
                  refine wpAnyH_take (i := 9) (oi := { dst := some 33, op := Go.Op.fieldAddr 66 (Go.Operand.tmp 6) 0, type := 0, pos := "l07_nfa.go:356", after := #[], guard := none }) (v := ?_) rfl (by kernel_rfl) (by kernel_rfl) (by kernel_rfl) (fun _ _ _ h => h) (Or.inl ⟨by kernel_rfl, ?_⟩) (by assumption) ?_
                  rotate_left
                  · intro w hSw; (try dsimp only at hSw); go_simp; try with_reducible rfl
                  simp only [Act.put, List.setIfInBounds_toArray, List.set_cons_zero, List.set_cons_succ]
                  refine wpAnyH_take (i := 10) (oi := { dst := some 34, op := Go.Op.indexAddr 62 (Go.Operand.tmp 33) (Go.Operand.tmp 32), type := 0, pos := "l07_nfa.go:356", after := #[{ on := 9, ground := Go.Ground.data }, { on := 8, ground := Go.Ground.data }], guard := none }) (v := ?_) rfl (by kernel_rfl) (by kernel_rfl) (by kernel_rfl) (fun _ _ _ h => h) (Or.inl ⟨by kernel_rfl, ?_⟩) (by assumption) ?_
                  rotate_left
                  · intro w hSw; (try dsimp only at hSw); go_simp; try with_reducible rfl
                  simp only [Act.put, List.setIfInBounds_toArray, List.set_cons_zero, List.set_cons_succ]
                  refine wpAnyH_take (i := 11) (oi := { dst := some 35, op := Go.Op.load 61 (Go.Operand.tmp 34), type := 61, pos := "l07_nfa.go:356", after := #[{ on := 10, ground := Go.Ground.data }], guard := none }) (v := ?_) rfl (by kernel_rfl) (by kernel_rfl) (by kernel_rfl) (fun _ _ _ h => h) (Or.inl ⟨by kernel_rfl, ?_⟩) (by assumption) ?_
                  rotate_left
                  · intro w hSw; (try dsimp only at hSw); go_simp; try with_reducible rfl
                  simp only [Act.put, List.setIfInBounds_toArray, List.set_cons_zero, List.set_cons_succ]
                  refine wpAnyH_take (i := 12) (oi := { dst := some 36, op := Go.Op.load 64 (Go.Operand.tmp 8), type := 64, pos := "l07_nfa.go:356", after := #[], guard := none }) (v := .agg c4) rfl (by kernel_rfl) (by kernel_rfl) (by kernel_rfl) (fun _ _ _ h => h) (yieldsIf_load_mid (by kernel_rfl) 64 _ rfl (B + 1 + 1 + 1) 0 rfl c4.toList _ (fun wz h => HL4 wz (SameTo.of h.2.2.out)) Try.underlying64 rfl (by rw [l4]; exact info_set)) (by assumption) ?_
                  simp only [Act.put, List.setIfInBounds_toArray, List.set_cons_zero, List.set_cons_succ]
                  refine wpAnyH_take (i := 14) (oi := { dst := some 38, op := Go.Op.move (Go.Operand.tmp 4), type := 3, pos := "l07_nfa.go:356", after := #[], guard := none }) (v := ?_) rfl (by kernel_rfl) (by kernel_rfl) (by kernel_rfl) (fun _ _ _ h => h) (Or.inl ⟨by kernel_rfl, ?_⟩) (by assumption) ?_
                  rotate_left
                  · intro w hSw; (try dsimp only at hSw); go_simp; try with_reducible rfl
                  simp only [Act.put, List.setIfInBounds_toArray, List.set_cons_zero, List.set_cons_succ]
                  refine wpAnyH_take (i := 15) (oi := { dst := some 39, op := Go.Op.binOp Go.BinOp.sub 3 (Go.Operand.tmp 38) (Go.Operand.const (Go.Value.int Go.IntKind.i64 1)) 3, type := 3, pos := "l07_nfa.go:356", after := #[{ on := 14, ground := Go.Ground.data }], guard := none }) (v := ?_) rfl (by kernel_rfl) (by kernel_rfl) (by kernel_rfl) (fun _ _ _ h => h) (Or.inl ⟨by kernel_rfl, ?_⟩) (by assumption) ?_
                  rotate_left
                  · intro w hSw; (try dsimp only at hSw); go_simp; try with_reducible rfl
                  simp only [Act.put, List.setIfInBounds_toArray, List.set_cons_zero, List.set_cons_succ]
                  refine wpAnyH_ready (rs := [7]) (by kernel_rfl) (by simp) ?_
                  refine AllReadyH.cons (o := { dst := some 31, op := Go.Op.call { callee := Go.Callee.value (Go.Operand.tmp 29), args := #[Go.Operand.tmp 30], argTypes := #[64] }, type := 64, pos := "l07_nfa.go:356", after := #[{ on := 5, ground := Go.Ground.data }, { on := 6, ground := Go.Ground.data }], guard := none }) rfl (fun K hK => ?_) ?_
                  · go_simp
                    go_wp2_with (go_at_call 62; refine (HF1.out _).mono ?_; rintro e w5 ⟨rfl, HB50⟩)
                    have HB5 : Hid (Below (B + 4) W w5) := HLD.out.trans (HB50.out.mono (by have := HLD.out.size; have := HSW.out; omega))
                    refine hK.out _ _ (HSS _ HB5.out) (fun hHeld => ?_)
                    clear hK K
                    try simp only [Act.put, List.setIfInBounds_toArray, List.set_cons_zero, List.set_cons_succ]
                    refine wpAnyH_ready (rs := [13]) (by kernel_rfl) (by simp) ?_
                    refine AllReadyH.cons (o := { dst := some 37, op := Go.Op.call { callee := Go.Callee.value (Go.Operand.tmp 35), args := #[Go.Operand.tmp 36], argTypes := #[64] }, type := 64, pos := "l07_nfa.go:356", after := #[{ on := 11, ground := Go.Ground.data }, { on := 12, ground := Go.Ground.data }, { on := 7, ground := Go.Ground.chain }], guard := none }) rfl (fun K hK => ?_) ?_
                    · go_simp
                      go_wp2_with (go_at_call 62; refine (HF2.out _).mono ?_; rintro e w6 ⟨rfl, HB60⟩)
                      have HB6 : Hid (Below (B + 4) W w6) := HB5.out.trans (HB60.out.mono (by have := HB5.out.size; have := HSW.out; omega))
                      refine hK.out _ _ (HSS _ HB6.out) (fun hHeld => ?_)
                      clear hK K
                      try simp only [Act.put, List.setIfInBounds_toArray, List.set_cons_zero, List.set_cons_succ]
                      refine wpAnyH_ready (rs := [16]) (by kernel_rfl) (by simp) ?_
                      refine AllReadyH.cons (o := { dst := some 40, op := Go.Op.call { callee := Go.Callee.value (Go.Operand.func 57), args := #[Go.Operand.tmp 24, Go.Operand.tmp 25, Go.Operand.tmp 31, Go.Operand.tmp 37, Go.Operand.tmp 39], argTypes := #[66, 66, 64, 64, 3] }, type := 4, pos := "l07_nfa.go:356", after := #[{ on := 0, ground := Go.Ground.data }, { on := 1, ground := Go.Ground.data }, { on := 7, ground := Go.Ground.data }, { on := 13, ground := Go.Ground.data }, { on := 15, ground := Go.Ground.data }, { on := 13, ground := Go.Ground.chain }], guard := none }) rfl (fun K hK => ?_) ?_
                      · go_simp
                        go_wp2_with (go_at_call 57; refine (HRC.out _).mono ?_; rintro e w7 ⟨rfl, HB70⟩)
                        have HB7 : Hid (Below (B + 4) W w7) := HB6.out.trans (HB70.out.mono (by have := HB6.out.size; have := HSW.out; omega))
                        refine hK.out _ _ (HSS _ HB7.out) (fun hHeld => ?_)
                        clear hK K
                        try simp only [Act.put, List.setIfInBounds_toArray, List.set_cons_zero, List.set_cons_succ]
                        refine wpAnyH_take (i := 17) (oi := { dst := some 41, op := Go.Op.unOp Go.UnOp.not 4 (Go.Operand.tmp 40), type := 4, pos := "l07_nfa.go:356", after := #[{ on := 16, ground := Go.Ground.data }], guard := none }) (v := ?_) rfl (by kernel_rfl) (by kernel_rfl) (by kernel_rfl) (fun _ _ _ h => h) (Or.inl ⟨by kernel_rfl, ?_⟩) (by assumption) ?_
                        rotate_left
                        · intro w hSw; (try dsimp only at hSw); go_simp; try with_reducible rfl
                        simp only [Act.put, List.setIfInBounds_toArray, List.set_cons_zero, List.set_cons_succ]
                        refine wpAnyH_done (by kernel_rfl) ?_ _
                        clear hHeld
                        go_wp2
                        go_roundw
                        case rel => exact ⟨k + 1, by go_num, by omega, fun j hj => if e : j = k then by subst e; exact HZ.out.symm else HE.out j (by omega), HB7⟩
                        case measure => simp [intOf]; omega
                      exact AllReadyH.nil
                    exact AllReadyH.nil
                  exact AllReadyH.nil
                · subst hz
                  have HRF : Hid (r = false) := by show _ = _; rw [HR.out, ← HPM.out]; exact ahead_no hlt HZ.out.symm
                  refine wpAnyH_take (i := 0) (oi := { dst := some 24, op := Go.Op.load 66 (Go.Operand.tmp 5), type := 66, pos := "l07_nfa.go:356", after := #[], guard := none }) (v := .agg c1) rfl (by kernel_rfl) (by kernel_rfl) (by kernel_rfl) (fun _ _ _ h => h) (yieldsIf_load_mid (by kernel_rfl) 66 _ rfl B 0 rfl c1.toList _ (fun wz h => HL1 wz (SameTo.of h.2.2.out)) Try.underlying66 rfl (by rw [l1]; exact info_mac)) (by assumption) ?_
                  simp only [Act.put, List.setIfInBounds_toArray, List.set_cons_zero, List.set_cons_succ]
                  refine wpAnyH_take (i := 1) (oi := { dst := some 25, op := Go.Op.load 66 (Go.Operand.tmp 6), type := 66, pos := "l07_nfa.go:356", after := #[], guard := none }) (v := .agg c2) rfl (by kernel_rfl) (by kernel_rfl) (by kernel_rfl) (fun _ _ _ h => h) (yieldsIf_load_mid (by kernel_rfl) 66 _ rfl (B + 1) 0 rfl c2.toList _ (fun wz h => HL2 wz (SameTo.of h.2.2.out)) Try.underlying66 rfl (by rw [l2]; exact info_mac)) (by assumption) ?_
                  simp only [Act.put, List.setIfInBounds_toArray, List.set_cons_zero, List.set_cons_succ]
                  refine wpAnyH_take (i := 2) (oi := { dst := some 26, op := Go.Op.move (Go.Operand.tmp 11), type := 3, pos := "l07_nfa.go:356", after := #[], guard := none }) (v := ?_) rfl (by kernel_rfl) (by kernel_rfl) (by kernel_rfl) (fun _ _ _ h => h) (Or.inl ⟨by kernel_rfl, ?_⟩) (by assumption) ?_
                  rotate_left
                  · intro w hSw; (try dsimp only at hSw); go_simp; try with_reducible rfl
                  simp only [Act.put, List.setIfInBounds_toArray, List.set_cons_zero, List.set_cons_succ]
                  refine wpAnyH_take (i := 3) (oi := { dst := some 27, op := Go.Op.fieldAddr 66 (Go.Operand.tmp 5) 0, type := 0, pos := "l07_nfa.go:356", after := #[], guard := none }) (v := ?_) rfl (by kernel_rfl) (by kernel_rfl) (by kernel_rfl) (fun _ _ _ h => h) (Or.inl ⟨by kernel_rfl, ?_⟩) (by assumption) ?_
                  rotate_left
                  · intro w hSw; (try dsimp only at hSw); go_simp; try with_reducible rfl
                  simp only [Act.put, List.setIfInBounds_toArray, List.set_cons_zero, List.set_cons_succ]
                  refine wpAnyH_take (i := 4) (oi := { dst := some 28, op := Go.Op.indexAddr 62 (Go.Operand.tmp 27) (Go.Operand.tmp 26), type := 0, pos := "l07_nfa.go:356", after := #[{ on := 3, ground := Go.Ground.data }, { on := 2, ground := Go.Ground.data }], guard := none }) (v := ?_) rfl (by kernel_rfl) (by kernel_rfl) (by kernel_rfl) (fun _ _ _ h => h) (Or.inl ⟨by kernel_rfl, ?_⟩) (by assumption) ?_
                  rotate_left
                  · intro w hSw; (try dsimp only at hSw); go_simp; try with_reducible rfl
                  simp only [Act.put, List.setIfInBounds_toArray, List.set_cons_zero, List.set_cons_succ]
                  refine wpAnyH_take (i := 5) (oi := { dst := some 29, op := Go.Op.load 61 (Go.Operand.tmp 28), type := 61, pos := "l07_nfa.go:356", after := #[{ on := 4, ground := Go.Ground.data }], guard := none }) (v := ?_) rfl (by kernel_rfl) (by kernel_rfl) (by kernel_rfl) (fun _ _ _ h => h) (Or.inl ⟨by kernel_rfl, ?_⟩) (by assumption) ?_
                  rotate_left
                  · intro w hSw; (try dsimp only at hSw); go_simp; try with_reducible rfl
                  simp only [Act.put, List.setIfInBounds_toArray, List.set_cons_zero, List.set_cons_succ]
                  refine wpAnyH_take (i := 6) (oi := { dst := some 30, op := Go.Op.load 64 (Go.Operand.tmp 7), type := 64, pos := "l07_nfa.go:356", after := #[], guard := none }) (v := .agg c3) rfl (by kernel_rfl) (by kernel_rfl) (by kernel_rfl) (fun _ _ _ h => h) (yieldsIf_load_mid (by kernel_rfl) 64 _ rfl (B + 1 + 1) 0 rfl c3.toList _ (fun wz h => HL3 wz (SameTo.of h.2.2.out)) Try.underlying64 rfl (by rw [l3]; exact info_set)) (by assumption) ?_
                  simp only [Act.put, List.setIfInBounds_toArray, List.set_cons_zero, List.set_cons_succ]
                  refine wpAnyH_take (i := 8) (oi := { dst := some 32, op := Go.Op.move (Go.Operand.tmp 11), type := 3, pos := "l07_nfa.go:356", after := #[], guard := none }) (v := ?_) rfl (by kernel_rfl) (by kernel_rfl) (by kernel_rfl) (fun _ _ _ h => h) (Or.inl ⟨by kernel_rfl, ?_⟩) (by assumption) ?_
                  rotate_left
                  · intro w hSw; (try dsimp only at hSw); go_simp; try with_reducible rfl
                  simp only [Act.put, List.setIfInBounds_toArray, List.set_cons_zero, List.set_cons_succ]
                  refine wpAnyH_take (i := 9) (oi := { dst := some 33, op := Go.Op.fieldAddr 66 (Go.Operand.tmp 6) 0, type := 0, pos := "l07_nfa.go:356", after := #[], guard := none }) (v := ?_) rfl (by kernel_rfl) (by kernel_rfl) (by kernel_rfl) (fun _ _ _ h => h) (Or.inl ⟨by kernel_rfl, ?_⟩) (by assumption) ?_
                  rotate_left
                  · intro w hSw; (try dsimp only at hSw); go_simp; try with_reducible rfl
                  simp only [Act.put, List.setIfInBounds_toArray, List.set_cons_zero, List.set_cons_succ]
                  refine wpAnyH_take (i := 10) (oi := { dst := some 34, op := Go.Op.indexAddr 62 (Go.Operand.tmp 33) (Go.Operand.tmp 32), type := 0, pos := "l07_nfa.go:356", after := #[{ on := 9, ground := Go.Ground.data }, { on := 8, ground := Go.Ground.data }], guard := none }) (v := ?_) rfl (by kernel_rfl) (by kernel_rfl) (by kernel_rfl) (fun _ _ _ h => h) (Or.inl ⟨by kernel_rfl, ?_⟩) (by assumption) ?_
                  rotate_left
                  · intro w hSw; (try dsimp only at hSw); go_simp; try with_reducible rfl
                  simp only [Act.put, List.setIfInBounds_toArray, List.set_cons_zero, List.set_cons_succ]
                  refine wpAnyH_take (i := 11) (oi := { dst := some 35, op := Go.Op.load 61 (Go.Operand.tmp 34), type := 61, pos := "l07_nfa.go:356", after := #[{ on := 10, ground := Go.Ground.data }], guard := none }) (v := ?_) rfl (by kernel_rfl) (by kernel_rfl) (by kernel_rfl) (fun _ _ _ h => h) (Or.inl ⟨by kernel_rfl, ?_⟩) (by assumption) ?_
                  rotate_left
                  · intro w hSw; (try dsimp only at hSw); go_simp; try with_reducible rfl
                  simp only [Act.put, List.setIfInBounds_toArray, List.set_cons_zero, List.set_cons_succ]
                  refine wpAnyH_take (i := 12) (oi := { dst := some 36, op := Go.Op.load 64 (Go.Operand.tmp 8), type := 64, pos := "l07_nfa.go:356", after := #[], guard := none }) (v := .agg c4) rfl (by kernel_rfl) (by kernel_rfl) (by kernel_rfl) (fun _ _ _ h => h) (yieldsIf_load_mid (by kernel_rfl) 64 _ rfl (B + 1 + 1 + 1) 0 rfl c4.toList _ (fun wz h => HL4 wz (SameTo.of h.2.2.out)) Try.underlying64 rfl (by rw [l4]; exact info_set)) (by assumption) ?_
                  simp only [Act.put, List.setIfInBounds_toArray, List.set_cons_zero, List.set_cons_succ]
                  refine wpAnyH_take (i := 14) (oi := { dst := some 38, op := Go.Op.move (Go.Operand.tmp 4), type := 3, pos := "l07_nfa.go:356", after := #[], guard := none }) (v := ?_) rfl (by kernel_rfl) (by kernel_rfl) (by kernel_rfl) (fun _ _ _ h => h) (Or.inl ⟨by kernel_rfl, ?_⟩) (by assumption) ?_
                  rotate_left
                  · intro w hSw; (try dsimp only at hSw); go_simp; try with_reducible rfl
                  simp only [Act.put, List.setIfInBounds_toArray, List.set_cons_zero, List.set_cons_succ]
                  refine wpAnyH_take (i := 15) (oi := { dst := some 39, op := Go.Op.binOp Go.BinOp.sub 3 (Go.Operand.tmp 38) (Go.Operand.const (Go.Value.int Go.IntKind.i64 1)) 3, type := 3, pos := "l07_nfa.go:356", after := #[{ on := 14, ground := Go.Ground.data }], guard := none }) (v := ?_) rfl (by kernel_rfl) (by kernel_rfl) (by kernel_rfl) (fun _ _ _ h => h) (Or.inl ⟨by kernel_rfl, ?_⟩) (by assumption) ?_
                  rotate_left
                  · intro w hSw; (try dsimp only at hSw); go_simp; try with_reducible rfl
                  simp only [Act.put, List.setIfInBounds_toArray, List.set_cons_zero, List.set_cons_succ]
                  refine wpAnyH_ready (rs := [7]) (by kernel_rfl) (by simp) ?_
                  refine AllReadyH.cons (o := { dst := some 31, op := Go.Op.call { callee := Go.Callee.value (Go.Operand.tmp 29), args := #[Go.Operand.tmp 30], argTypes := #[64] }, type := 64, pos := "l07_nfa.go:356", after := #[{ on := 5, ground := Go.Ground.data }, { on := 6, ground := Go.Ground.data }], guard := none }) rfl (fun K hK => ?_) ?_
                  · go_simp
                    go_wp2_with (go_at_call 62; refine (HF1.out _).mono ?_; rintro e w5 ⟨rfl, HB50⟩)
                    have HB5 : Hid (Below (B + 4) W w5) := HLD.out.trans (HB50.out.mono (by have := HLD.out.size; have := HSW.out; omega))
                    refine hK.out _ _ (HSS _ HB5.out) (fun hHeld => ?_)
                    clear hK K
                    try simp only [Act.put, List.setIfInBounds_toArray, List.set_cons_zero, List.set_cons_succ]
                    refine wpAnyH_ready (rs := [13]) (by kernel_rfl) (by simp) ?_
                    refine AllReadyH.cons (o := { dst := some 37, op := Go.Op.call { callee := Go.Callee.value (Go.Operand.tmp 35), args := #[Go.Operand.tmp 36], argTypes := #[64] }, type := 64, pos := "l07_nfa.go:356", after := #[{ on := 11, ground := Go.Ground.data }, { on := 12, ground := Go.Ground.data }, { on := 7, ground := Go.Ground.chain }], guard := none }) rfl (fun K hK => ?_) ?_
                    · go_simp
                      go_wp2_with (go_at_call 62; refine (HF2.out _).mono ?_; rintro e w6 ⟨rfl, HB60⟩)
                      have HB6 : Hid (Below (B + 4) W w6) := HB5.out.trans (HB60.out.mono (by have := HB5.out.size; have := HSW.out; omega))
                      refine hK.out _ _ (HSS _ HB6.out) (fun hHeld => ?_)
                      clear hK K
                      try simp only [Act.put, List.setIfInBounds_toArray, List.set_cons_zero, List.set_cons_succ]
                      refine wpAnyH_ready (rs := [16]) (by kernel_rfl) (by simp) ?_
                      refine AllReadyH.cons (o := { dst := some 40, op := Go.Op.call { callee := Go.Callee.value (Go.Operand.func 57), args := #[Go.Operand.tmp 24, Go.Operand.tmp 25, Go.Operand.tmp 31, Go.Operand.tmp 37, Go.Operand.tmp 39], argTypes := #[66, 66, 64, 64, 3] }, type := 4, pos := "l07_nfa.go:356", after := #[{ on := 0, ground := Go.Ground.data }, { on := 1, ground := Go.Ground.data }, { on := 7, ground := Go.Ground.data }, { on := 13, ground := Go.Ground.data }, { on := 15, ground := Go.Ground.data }, { on := 13, ground := Go.Ground.chain }], guard := none }) rfl (fun K hK => ?_) ?_
                      · go_simp
                        go_wp2_with (go_at_call 57; refine (HRC.out _).mono ?_; rintro e w7 ⟨rfl, HB70⟩)
                        have HB7 : Hid (Below (B + 4) W w7) := HB6.out.trans (HB70.out.mono (by have := HB6.out.size; have := HSW.out; omega))
                        refine hK.out _ _ (HSS _ HB7.out) (fun hHeld => ?_)
                        clear hK K
                        try simp only [Act.put, List.setIfInBounds_toArray, List.set_cons_zero, List.set_cons_succ]
                        refine wpAnyH_take (i := 17) (oi := { dst := some 41, op := Go.Op.unOp Go.UnOp.not 4 (Go.Operand.tmp 40), type := 4, pos := "l07_nfa.go:356", after := #[{ on := 16, ground := Go.Ground.data }], guard := none }) (v := ?_) rfl (by kernel_rfl) (by kernel_rfl) (by kernel_rfl) (fun _ _ _ h => h) (Or.inl ⟨by kernel_rfl, ?_⟩) (by assumption) ?_
                        rotate_left
                        · intro w hSw; (try dsimp only at hSw); go_simp; try with_reducible rfl
                        simp only [Act.put, List.setIfInBounds_toArray, List.set_cons_zero, List.set_cons_succ]
                        refine wpAnyH_done (by kernel_rfl) ?_ _
                        clear hHeld
                        go_wp2
                        go_ret
                        exact ⟨by rw [HRF.out]; rfl, HBW.out.trans (HB7.out.mono (by have := HB.out; omega))⟩
                      exact AllReadyH.nil
                    exact AllReadyH.nil
                  exact AllReadyH.nil
              · obtain rfl : k = 4 := by omega
                have HRT : Hid (r = true) := by
                  show _ = _
                  rw [HR.out, ← HPM.out]
                  exact ahead_yes HXY.out HE.out
                go_wp2
                go_ret
                exact ⟨by rw [HRT.out]; rfl, HBW.out.trans (HL.out.mono (by have := HB.out; omega))⟩
        exact AllReadyH.nil
      exact AllReadyH.nil
    · subst hy
      have HRF : Hid (r = false) := HFN.out (by simp)
      refine wp_region_held_drew (S := fun w' => Hid (Below (B + 4) W w')) (by kernel_rfl) (show Hid (Below (B + 4) W W.drew) from (Below.refl _ _).drew) (fun hHeld => ?_)
      refine wpAnyH_take (i := 0) (oi := { dst := some 12, op := Go.Op.load 66 (Go.Operand.tmp 5), type := 66, pos := "l07_nfa.go:349", after := #[], guard := none }) (v := .agg c1) rfl (by kernel_rfl) (by kernel_rfl) (by kernel_rfl) (fun _ _ _ h => h) (yieldsIf_load_mid (by kernel_rfl) 66 _ rfl B 0 rfl c1.toList _ (fun wz h => HL1 wz (SameTo.of h.out)) Try.underlying66 rfl (by rw [l1]; exact info_mac)) (by assumption) ?_
      simp only [Act.put, List.setIfInBounds_toArray, List.set_cons_zero, List.set_cons_succ]
      refine wpAnyH_take (i := 1) (oi := { dst := some 13, op := Go.Op.load 64 (Go.Operand.tmp 7), type := 64, pos := "l07_nfa.go:349", after := #[], guard := none }) (v := .agg c3) rfl (by kernel_rfl) (by kernel_rfl) (by kernel_rfl) (fun _ _ _ h => h) (yieldsIf_load_mid (by kernel_rfl) 64 _ rfl (B + 1 + 1) 0 rfl c3.toList _ (fun wz h => HL3 wz (SameTo.of h.out)) Try.underlying64 rfl (by rw [l3]; exact info_set)) (by assumption) ?_
      simp only [Act.put, List.setIfInBounds_toArray, List.set_cons_zero, List.set_cons_succ]
      refine wpAnyH_take (i := 3) (oi := { dst := some 15, op := Go.Op.load 66 (Go.Operand.tmp 6), type := 66, pos := "l07_nfa.go:349", after := #[], guard := none }) (v := .agg c2) rfl (by kernel_rfl) (by kernel_rfl) (by kernel_rfl) (fun _ _ _ h => h) (yieldsIf_load_mid (by kernel_rfl) 66 _ rfl (B + 1) 0 rfl c2.toList _ (fun wz h => HL2 wz (SameTo.of h.out)) Try.underlying66 rfl (by rw [l2]; exact info_mac)) (by assumption) ?_
      simp only [Act.put, List.setIfInBounds_toArray, List.set_cons_zero, List.set_cons_succ]
      refine wpAnyH_take (i := 4) (oi := { dst := some 16, op := Go.Op.load 64 (Go.Operand.tmp 8), type := 64, pos := "l07_nfa.go:349", after := #[], guard := none }) (v := .agg c4) rfl (by kernel_rfl) (by kernel_rfl) (by kernel_rfl) (fun _ _ _ h => h) (yieldsIf_load_mid (by kernel_rfl) 64 _ rfl (B + 1 + 1 + 1) 0 rfl c4.toList _ (fun wz h => HL4 wz (SameTo.of h.out)) Try.underlying64 rfl (by rw [l4]; exact info_set)) (by assumption) ?_
      simp only [Act.put, List.setIfInBounds_toArray, List.set_cons_zero, List.set_cons_succ]
      refine wpAnyH_ready (rs := [2]) (by kernel_rfl) (by simp) ?_
      refine AllReadyH.cons (o := { dst := some 14, op := Go.Op.call { callee := Go.Callee.value (Go.Operand.func 36), args := #[Go.Operand.tmp 12, Go.Operand.tmp 13], argTypes := #[66, 64] }, type := 4, pos := "l07_nfa.go:349", after := #[{ on := 0, ground := Go.Ground.data }, { on := 1, ground := Go.Ground.data }], guard := none }) rfl (fun K hK => ?_) ?_
      · go_simp
        go_wp2_with (go_at_call 36; refine (HE1.out _).mono ?_; rintro e w2 ⟨rfl, HB20⟩)
        have HB2 : Hid (Below (B + 4) W w2) := HBD.out.trans (HB20.out.mono (by have := HBD.out.size; have := HSW.out; omega))
        refine hK.out _ _ HB2 (fun hHeld => ?_)
        clear hK K
        try simp only [Act.put, List.setIfInBounds_toArray, List.set_cons_zero, List.set_cons_succ]
        refine wpAnyH_ready (rs := [5]) (by kernel_rfl) (by simp) ?_
        refine AllReadyH.cons (o := { dst := some 17, op := Go.Op.call { callee := Go.Callee.value (Go.Operand.func 36), args := #[Go.Operand.tmp 15, Go.Operand.tmp 16], argTypes := #[66, 64] }, type := 4, pos := "l07_nfa.go:349", after := #[{ on := 3, ground := Go.Ground.data }, { on := 4, ground := Go.Ground.data }, { on := 2, ground := Go.Ground.chain }], guard := none }) rfl (fun K hK => ?_) ?_
        · go_simp
          go_wp2_with (go_at_call 36; refine (HE2.out _).mono ?_; rintro e w3 ⟨rfl, HB30⟩)
          have HB3 : Hid (Below (B + 4) W w3) := HB2.out.trans (HB30.out.mono (by have := HB2.out.size; have := HSW.out; omega))
          refine hK.out _ _ HB3 (fun hHeld => ?_)
          clear hK K
          try simp only [Act.put, List.setIfInBounds_toArray, List.set_cons_zero, List.set_cons_succ]
          refine wpAnyH_take (i := 6) (oi := { dst := some 18, op := Go.Op.binOp Go.BinOp.neq 4 (Go.Operand.tmp 14) (Go.Operand.tmp 17) 4, type := 4, pos := "l07_nfa.go:349", after := #[{ on := 2, ground := Go.Ground.data }, { on := 5, ground := Go.Ground.data }], guard := none }) (v := ?_) rfl (by kernel_rfl) (by kernel_rfl) (by kernel_rfl) (fun _ _ _ h => h) (Or.inl ⟨by kernel_rfl, ?_⟩) (by assumption) ?_
          rotate_left
          · intro w hSw; (try dsimp only at hSw); go_simp; try with_reducible rfl
          simp only [Act.put, List.setIfInBounds_toArray, List.set_cons_zero, List.set_cons_succ]
          refine wpAnyH_done (by kernel_rfl) ?_ _
          clear hHeld
          go_wp2
          go_ret
          exact ⟨by rw [HRF.out]; rfl, HBW.out.trans (HB3.out.mono (by have := HB.out; omega))⟩
        exact AllReadyH.nil
      exact AllReadyH.nil
  · subst hx
    rcases Bool.eq_false_or_eq_true y with hy | hy
    · subst hy
      have HRF : Hid (r = false) := HFN.out (by simp)
      refine wp_region_held_drew (S := fun w' => Hid (Below (B + 4) W w')) (by kernel_rfl) (show Hid (Below (B + 4) W W.drew) from (Below.refl _ _).drew) (fun hHeld => ?_)
      refine wpAnyH_take (i := 0) (oi := { dst := some 12, op := Go.Op.load 66 (Go.Operand.tmp 5), type := 66, pos := "l07_nfa.go:349", after := #[], guard := none }) (v := .agg c1) rfl (by kernel_rfl) (by kernel_rfl) (by kernel_rfl) (fun _ _ _ h => h) (yieldsIf_load_mid (by kernel_rfl) 66 _ rfl B 0 rfl c1.toList _ (fun wz h => HL1 wz (SameTo.of h.out)) Try.underlying66 rfl (by rw [l1]; exact info_mac)) (by assumption) ?_
      simp only [Act.put, List.setIfInBounds_toArray, List.set_cons_zero, List.set_cons_succ]
      refine wpAnyH_take (i := 1) (oi := { dst := some 13, op := Go.Op.load 64 (Go.Operand.tmp 7), type := 64, pos := "l07_nfa.go:349", after := #[], guard := none }) (v := .agg c3) rfl (by kernel_rfl) (by kernel_rfl) (by kernel_rfl) (fun _ _ _ h => h) (yieldsIf_load_mid (by kernel_rfl) 64 _ rfl (B + 1 + 1) 0 rfl c3.toList _ (fun wz h => HL3 wz (SameTo.of h.out)) Try.underlying64 rfl (by rw [l3]; exact info_set)) (by assumption) ?_
      simp only [Act.put, List.setIfInBounds_toArray, List.set_cons_zero, List.set_cons_succ]
      refine wpAnyH_take (i := 3) (oi := { dst := some 15, op := Go.Op.load 66 (Go.Operand.tmp 6), type := 66, pos := "l07_nfa.go:349", after := #[], guard := none }) (v := .agg c2) rfl (by kernel_rfl) (by kernel_rfl) (by kernel_rfl) (fun _ _ _ h => h) (yieldsIf_load_mid (by kernel_rfl) 66 _ rfl (B + 1) 0 rfl c2.toList _ (fun wz h => HL2 wz (SameTo.of h.out)) Try.underlying66 rfl (by rw [l2]; exact info_mac)) (by assumption) ?_
      simp only [Act.put, List.setIfInBounds_toArray, List.set_cons_zero, List.set_cons_succ]
      refine wpAnyH_take (i := 4) (oi := { dst := some 16, op := Go.Op.load 64 (Go.Operand.tmp 8), type := 64, pos := "l07_nfa.go:349", after := #[], guard := none }) (v := .agg c4) rfl (by kernel_rfl) (by kernel_rfl) (by kernel_rfl) (fun _ _ _ h => h) (yieldsIf_load_mid (by kernel_rfl) 64 _ rfl (B + 1 + 1 + 1) 0 rfl c4.toList _ (fun wz h => HL4 wz (SameTo.of h.out)) Try.underlying64 rfl (by rw [l4]; exact info_set)) (by assumption) ?_
      simp only [Act.put, List.setIfInBounds_toArray, List.set_cons_zero, List.set_cons_succ]
      refine wpAnyH_ready (rs := [2]) (by kernel_rfl) (by simp) ?_
      refine AllReadyH.cons (o := { dst := some 14, op := Go.Op.call { callee := Go.Callee.value (Go.Operand.func 36), args := #[Go.Operand.tmp 12, Go.Operand.tmp 13], argTypes := #[66, 64] }, type := 4, pos := "l07_nfa.go:349", after := #[{ on := 0, ground := Go.Ground.data }, { on := 1, ground := Go.Ground.data }], guard := none }) rfl (fun K hK => ?_) ?_
      · go_simp
        go_wp2_with (go_at_call 36; refine (HE1.out _).mono ?_; rintro e w2 ⟨rfl, HB20⟩)
        have HB2 : Hid (Below (B + 4) W w2) := HBD.out.trans (HB20.out.mono (by have := HBD.out.size; have := HSW.out; omega))
        refine hK.out _ _ HB2 (fun hHeld => ?_)
        clear hK K
        try simp only [Act.put, List.setIfInBounds_toArray, List.set_cons_zero, List.set_cons_succ]
        refine wpAnyH_ready (rs := [5]) (by kernel_rfl) (by simp) ?_
        refine AllReadyH.cons (o := { dst := some 17, op := Go.Op.call { callee := Go.Callee.value (Go.Operand.func 36), args := #[Go.Operand.tmp 15, Go.Operand.tmp 16], argTypes := #[66, 64] }, type := 4, pos := "l07_nfa.go:349", after := #[{ on := 3, ground := Go.Ground.data }, { on := 4, ground := Go.Ground.data }, { on := 2, ground := Go.Ground.chain }], guard := none }) rfl (fun K hK => ?_) ?_
        · go_simp
          go_wp2_with (go_at_call 36; refine (HE2.out _).mono ?_; rintro e w3 ⟨rfl, HB30⟩)
          have HB3 : Hid (Below (B + 4) W w3) := HB2.out.trans (HB30.out.mono (by have := HB2.out.size; have := HSW.out; omega))
          refine hK.out _ _ HB3 (fun hHeld => ?_)
          clear hK K
          try simp only [Act.put, List.setIfInBounds_toArray, List.set_cons_zero, List.set_cons_succ]
          refine wpAnyH_take (i := 6) (oi := { dst := some 18, op := Go.Op.binOp Go.BinOp.neq 4 (Go.Operand.tmp 14) (Go.Operand.tmp 17) 4, type := 4, pos := "l07_nfa.go:349", after := #[{ on := 2, ground := Go.Ground.data }, { on := 5, ground := Go.Ground.data }], guard := none }) (v := ?_) rfl (by kernel_rfl) (by kernel_rfl) (by kernel_rfl) (fun _ _ _ h => h) (Or.inl ⟨by kernel_rfl, ?_⟩) (by assumption) ?_
          rotate_left
          · intro w hSw; (try dsimp only at hSw); go_simp; try with_reducible rfl
          simp only [Act.put, List.setIfInBounds_toArray, List.set_cons_zero, List.set_cons_succ]
          refine wpAnyH_done (by kernel_rfl) ?_ _
          clear hHeld
          go_wp2
          go_ret
          exact ⟨by rw [HRF.out]; rfl, HBW.out.trans (HB3.out.mono (by have := HB.out; omega))⟩
        exact AllReadyH.nil
      exact AllReadyH.nil
    · subst hy
      refine wp_region_held_drew (S := fun w' => Hid (Below (B + 4) W w')) (by kernel_rfl) (show Hid (Below (B + 4) W W.drew) from (Below.refl _ _).drew) (fun hHeld => ?_)
      refine wpAnyH_take (i := 0) (oi := { dst := some 12, op := Go.Op.load 66 (Go.Operand.tmp 5), type := 66, pos := "l07_nfa.go:349", after := #[], guard := none }) (v := .agg c1) rfl (by kernel_rfl) (by kernel_rfl) (by kernel_rfl) (fun _ _ _ h => h) (yieldsIf_load_mid (by kernel_rfl) 66 _ rfl B 0 rfl c1.toList _ (fun wz h => HL1 wz (SameTo.of h.out)) Try.underlying66 rfl (by rw [l1]; exact info_mac)) (by assumption) ?_
      simp only [Act.put, List.setIfInBounds_toArray, List.set_cons_zero, List.set_cons_succ]
      refine wpAnyH_take (i := 1) (oi := { dst := some 13, op := Go.Op.load 64 (Go.Operand.tmp 7), type := 64, pos := "l07_nfa.go:349", after := #[], guard := none }) (v := .agg c3) rfl (by kernel_rfl) (by kernel_rfl) (by kernel_rfl) (fun _ _ _ h => h) (yieldsIf_load_mid (by kernel_rfl) 64 _ rfl (B + 1 + 1) 0 rfl c3.toList _ (fun wz h => HL3 wz (SameTo.of h.out)) Try.underlying64 rfl (by rw [l3]; exact info_set)) (by assumption) ?_
      simp only [Act.put, List.setIfInBounds_toArray, List.set_cons_zero, List.set_cons_succ]
      refine wpAnyH_take (i := 3) (oi := { dst := some 15, op := Go.Op.load 66 (Go.Operand.tmp 6), type := 66, pos := "l07_nfa.go:349", after := #[], guard := none }) (v := .agg c2) rfl (by kernel_rfl) (by kernel_rfl) (by kernel_rfl) (fun _ _ _ h => h) (yieldsIf_load_mid (by kernel_rfl) 66 _ rfl (B + 1) 0 rfl c2.toList _ (fun wz h => HL2 wz (SameTo.of h.out)) Try.underlying66 rfl (by rw [l2]; exact info_mac)) (by assumption) ?_
      simp only [Act.put, List.setIfInBounds_toArray, List.set_cons_zero, List.set_cons_succ]
      refine wpAnyH_take (i := 4) (oi := { dst := some 16, op := Go.Op.load 64 (Go.Operand.tmp 8), type := 64, pos := "l07_nfa.go:349", after := #[], guard := none }) (v := .agg c4) rfl (by kernel_rfl) (by kernel_rfl) (by kernel_rfl) (fun _ _ _ h => h) (yieldsIf_load_mid (by kernel_rfl) 64 _ rfl (B + 1 + 1 + 1) 0 rfl c4.toList _ (fun wz h => HL4 wz (SameTo.of h.out)) Try.underlying64 rfl (by rw [l4]; exact info_set)) (by assumption) ?_
      simp only [Act.put, List.setIfInBounds_toArray, List.set_cons_zero, List.set_cons_succ]
      refine wpAnyH_ready (rs := [2]) (by kernel_rfl) (by simp) ?_
      refine AllReadyH.cons (o := { dst := some 14, op := Go.Op.call { callee := Go.Callee.value (Go.Operand.func 36), args := #[Go.Operand.tmp 12, Go.Operand.tmp 13], argTypes := #[66, 64] }, type := 4, pos := "l07_nfa.go:349", after := #[{ on := 0, ground := Go.Ground.data }, { on := 1, ground := Go.Ground.data }], guard := none }) rfl (fun K hK => ?_) ?_
      · go_simp
        go_wp2_with (go_at_call 36; refine (HE1.out _).mono ?_; rintro e w2 ⟨rfl, HB20⟩)
        have HB2 : Hid (Below (B + 4) W w2) := HBD.out.trans (HB20.out.mono (by have := HBD.out.size; have := HSW.out; omega))
        refine hK.out _ _ HB2 (fun hHeld => ?_)
        clear hK K
        try simp only [Act.put, List.setIfInBounds_toArray, List.set_cons_zero, List.set_cons_succ]
        refine wpAnyH_ready (rs := [5]) (by kernel_rfl) (by simp) ?_
        refine AllReadyH.cons (o := { dst := some 17, op := Go.Op.call { callee := Go.Callee.value (Go.Operand.func 36), args := #[Go.Operand.tmp 15, Go.Operand.tmp 16], argTypes := #[66, 64] }, type := 4, pos := "l07_nfa.go:349", after := #[{ on := 3, ground := Go.Ground.data }, { on := 4, ground := Go.Ground.data }, { on := 2, ground := Go.Ground.chain }], guard := none }) rfl (fun K hK => ?_) ?_
        · go_simp
          go_wp2_with (go_at_call 36; refine (HE2.out _).mono ?_; rintro e w3 ⟨rfl, HB30⟩)
          have HB3 : Hid (Below (B + 4) W w3) := HB2.out.trans (HB30.out.mono (by have := HB2.out.size; have := HSW.out; omega))
          refine hK.out _ _ HB3 (fun hHeld => ?_)
          clear hK K
          try simp only [Act.put, List.setIfInBounds_toArray, List.set_cons_zero, List.set_cons_succ]
          refine wpAnyH_take (i := 6) (oi := { dst := some 18, op := Go.Op.binOp Go.BinOp.neq 4 (Go.Operand.tmp 14) (Go.Operand.tmp 17) 4, type := 4, pos := "l07_nfa.go:349", after := #[{ on := 2, ground := Go.Ground.data }, { on := 5, ground := Go.Ground.data }], guard := none }) (v := ?_) rfl (by kernel_rfl) (by kernel_rfl) (by kernel_rfl) (fun _ _ _ h => h) (Or.inl ⟨by kernel_rfl, ?_⟩) (by assumption) ?_
          rotate_left
          · intro w hSw; (try dsimp only at hSw); go_simp; try with_reducible rfl
          simp only [Act.put, List.setIfInBounds_toArray, List.set_cons_zero, List.set_cons_succ]
          refine wpAnyH_done (by kernel_rfl) ?_ _
          clear hHeld
          have HXY : Hid (endTo q f 24 = endTo q' g 24) := by show _ = _; rw [← HX.out, ← HY.out]
          by_cases hp0 : p = 0
          · subst hp0
            have HRT : Hid (r = true) := by show _ = _; rw [HR.out]; unfold aheadB; simp [HXY.out]
            go_wp2
            go_ret
            exact ⟨by rw [HRT.out]; rfl, HBW.out.trans (HB3.out.mono (by have := HB.out; omega))⟩
          · obtain ⟨m, hm⟩ : ∃ m, m + 1 = p := ⟨p - 1, by omega⟩
            have HPM : Hid (m + 1 = p) := hm
            have hpi : ¬ (p : Int) = 0 := by omega
            have hpb : ((p : Int) == 0) = false := beq_eq_false_iff_ne.2 hpi
            have hpd : decide ((p : Int) = 0) = false := decide_eq_false hpi
            have hw1 : IntKind.i64.wrap ((p : Int) - 1) = (m : Int) := by simp [IntKind.wrap, IntKind.bits, IntKind.signed]; omega
            clear hm
            go_wp2
            go_loopw [21] (fun i wr => ∃ k : Nat, i = .int .i64 k ∧ k ≤ 4 ∧ Hid (∀ j, j < k → aheadB A A' q q' m (goS (A j) f) (goS (A' j) g) = true) ∧ Hid (Below (B + 4) W wr)) (fun i _ => 4 - (intOf i).toNat)
            case atStart => exact ⟨0, rfl, by omega, fun j hj => absurd hj (by omega), HB3⟩
            case round =>
              obtain ⟨k, rfl, hk, HE, HL⟩ := hrel
              by_cases hlt : k < 4
              · have hlt1 : (k : Int) < 4 := by omega
                have hlt0 : (0 : Int) ≤ (k : Int) := by omega
                obtain ⟨cA, HCA⟩ : ∃ c, Hid (c = (bcells 576 (A k)).toArray) := ⟨_, rfl⟩
                obtain ⟨cA', HCA'⟩ : ∃ c, Hid (c = (bcells 576 (A' k)).toArray) := ⟨_, rfl⟩
                obtain ⟨cf, HCF⟩ : ∃ c, Hid (c = (bcells 24 (goS (A k) f)).toArray) := ⟨_, rfl⟩
                obtain ⟨cg, HCG⟩ : ∃ c, Hid (c = (bcells 24 (goS (A' k) g)).toArray) := ⟨_, rfl⟩
                obtain ⟨z, HZ⟩ : ∃ z, Hid (z = aheadB A A' q q' m (goS (A k) f) (goS (A' k) g)) := ⟨_, rfl⟩
                have HF1 : Hid (∀ w0, Calls Try.prog 62 #[.agg cA, .agg c3] w0 fun e w' => e = .returned (.agg cf) ∧ Hid (Below w0.heap.size w0 w')) := fun w0 => by
                  rw [HCA.out, HC3.out, HCF.out]; exact from_any (A k) f w0
                have HF2 : Hid (∀ w0, Calls Try.prog 62 #[.agg cA', .agg c4] w0 fun e w' => e = .returned (.agg cg) ∧ Hid (Below w0.heap.size w0 w')) := fun w0 => by
                  rw [HCA'.out, HC4.out, HCG.out]; exact from_any (A' k) g w0
                have HRC : Hid (∀ w0, Calls Try.prog 57 #[.agg c1, .agg c2, .agg cf, .agg cg, .int .i64 (m : Int)] w0 fun e w' => e = .returned (.bool z) ∧ Hid (Below w0.heap.size w0 w')) := fun w0 => by
                  rw [HC1.out, HC2.out, HCF.out, HCG.out]; exact HIH.out m HPM.out _ _ z w0 HZ.out
                have HV1 : ∀ wz, Below (B + 4) W wz → wz.cell? ⟨B, k, none⟩ = some (.func (.func 62) #[.agg cA] #[]) := fun wz h => by
                  rw [HCA.out]; exact (MBlk.of HM1.out (SameTo.of h _ (by omega))).move hlt
                have HV2 : ∀ wz, Below (B + 4) W wz → wz.cell? ⟨B + 1, k, none⟩ = some (.func (.func 62) #[.agg cA'] #[]) := fun wz h => by
                  rw [HCA'.out]; exact (MBlk.of HM2.out (SameTo.of h _ (by omega))).move hlt
                have HSS : ∀ wz, Below (B + 4) W wz → (wz.cell? ⟨B, k, none⟩ = some (.func (.func 62) #[.agg cA] #[])) ∧ (wz.cell? ⟨B + 1, k, none⟩ = some (.func (.func 62) #[.agg cA'] #[])) ∧ Hid (Below (B + 4) W wz) := fun wz h => ⟨HV1 wz h, HV2 wz h, h⟩
                clear HV1 HV2
                have HLD : Hid (Below (B + 4) W wr.drew) := HL.out.drew
                go_upto_region 8 with fail
                refine wp_region_held_drew (S := fun wz => (wz.cell? ⟨B, k, none⟩ = some (.func (.func 62) #[.agg cA] #[])) ∧ (wz.cell? ⟨B + 1, k, none⟩ = some (.func (.func 62) #[.agg cA'] #[])) ∧ Hid (Below (B + 4) W wz)) (by kernel_rfl) (HSS _ HLD.out) (fun hHeld => ?_)
                rcases Bool.eq_false_or_eq_true z with hz | hz
                · subst hz
                  refine wpAnyH_take (i := 0) (oi := { dst := some 24, op := Go.Op.load 66 (Go.Operand.tmp 5), type := 66, pos := "l07_nfa.go:356", after := #[], guard := none }) (v := .agg c1) rfl (by kernel_rfl) (by kernel_rfl) (by kernel_rfl) (fun _ _ _ h => h) (yieldsIf_load_mid (by kernel_rfl) 66 _ rfl B 0 rfl c1.toList _ (fun wz h => HL1 wz (SameTo.of h.2.2.out)) Try.underlying66 rfl (by rw [l1]; exact info_mac)) (by assumption) ?_
                  simp only [Act.put, List.setIfInBounds_toArray, List.set_cons_zero, List.set_cons_succ]
                  refine wpAnyH_take (i := 1) (oi := { dst := some 25, op := Go.Op.load 66 (Go.Operand.tmp 6), type := 66, pos := "l07_nfa.go:356", after := #[], guard := none }) (v := .agg c2) rfl (by kernel_rfl) (by kernel_rfl) (by kernel_rfl) (fun _ _ _ h => h) (yieldsIf_load_mid (by kernel_rfl) 66 _ rfl (B + 1) 0 rfl c2.toList _ (fun wz h => HL2 wz (SameTo.of h.2.2.out)) Try.underlying66 rfl (by rw [l2]; exact info_mac)) (by assumption) ?_
                  simp only [Act.put, List.setIfInBounds_toArray, List.set_cons_zero, List.set_cons_succ]
                  refine wpAnyH_take (i := 2) (oi := { dst := some 26, op := Go.Op.move (Go.Operand.tmp 11), type := 3, pos := "l07_nfa.go:356", after := #[], guard := none }) (v := ?_) rfl (by kernel_rfl) (by kernel_rfl) (by kernel_rfl) (fun _ _ _ h => h) (Or.inl ⟨by kernel_rfl, ?_⟩) (by assumption) ?_
                  rotate_left
                  · intro w hSw; (try dsimp only at hSw); go_simp; try with_reducible rfl
                  simp only [Act.put, List.setIfInBounds_toArray, List.set_cons_zero, List.set_cons_succ]
                  refine wpAnyH_take (i := 3) (oi := { dst := some 27, op := Go.Op.fieldAddr 66 (Go.Operand.tmp 5) 0, type := 0, pos := "l07_nfa.go:356", after := #[], guard := none }) (v := ?_) rfl (by kernel_rfl) (by kernel_rfl) (by kernel_rfl) (fun _ _ _ h => h) (Or.inl ⟨by kernel_rfl, ?_⟩) (by assumption) ?_
                  rotate_left
                  · intro w hSw; (try dsimp only at hSw); go_simp; try with_reducible rfl
                  simp only [Act.put, List.setIfInBounds_toArray, List.set_cons_zero, List.set_cons_succ]
                  refine wpAnyH_take (i := 4) (oi := { dst := some 28, op := Go.Op.indexAddr 62 (Go.Operand.tmp 27) (Go.Operand.tmp 26), type := 0, pos := "l07_nfa.go:356", after := #[{ on := 3, ground := Go.Ground.data }, { on := 2, ground := Go.Ground.data }], guard := none }) (v := ?_) rfl (by kernel_rfl) (by kernel_rfl) (by kernel_rfl) (fun _ _ _ h => h) (Or.inl ⟨by kernel_rfl, ?_⟩) (by assumption) ?_
                  rotate_left
                  · intro w hSw; (try dsimp only at hSw); go_simp; try with_reducible rfl
                  simp only [Act.put, List.setIfInBounds_toArray, List.set_cons_zero, List.set_cons_succ]
                  refine wpAnyH_take (i := 5) (oi := { dst := some 29, op := Go.Op.load 61 (Go.Operand.tmp 28), type := 61, pos := "l07_nfa.go:356", after := #[{ on := 4, ground := Go.Ground.data }], guard := none }) (v := ?_) rfl (by kernel_rfl) (by kernel_rfl) (by kernel_rfl) (fun _ _ _ h => h) (Or.inl ⟨by kernel_rfl, ?_⟩) (by assumption) ?_
                  rotate_left
                  · intro w hSw; (try dsimp only at hSw); go_simp; try with_reducible rfl
                  simp only [Act.put, List.setIfInBounds_toArray, List.set_cons_zero, List.set_cons_succ]
                  refine wpAnyH_take (i := 6) (oi := { dst := some 30, op := Go.Op.load 64 (Go.Operand.tmp 7), type := 64, pos := "l07_nfa.go:356", after := #[], guard := none }) (v := .agg c3) rfl (by kernel_rfl) (by kernel_rfl) (by kernel_rfl) (fun _ _ _ h => h) (yieldsIf_load_mid (by kernel_rfl) 64 _ rfl (B + 1 + 1) 0 rfl c3.toList _ (fun wz h => HL3 wz (SameTo.of h.2.2.out)) Try.underlying64 rfl (by rw [l3]; exact info_set)) (by assumption) ?_
                  simp only [Act.put, List.setIfInBounds_toArray, List.set_cons_zero, List.set_cons_succ]
                  refine wpAnyH_take (i := 8) (oi := { dst := some 32, op := Go.Op.move (Go.Operand.tmp 11), type := 3, pos := "l07_nfa.go:356", after := #[], guard := none }) (v := ?_) rfl (by kernel_rfl) (by kernel_rfl) (by kernel_rfl) (fun _ _ _ h => h) (Or.inl ⟨by kernel_rfl, ?_⟩) (by assumption) ?_
                  rotate_left
                  · intro w hSw; (try dsimp only at hSw); go_simp; try with_reducible rfl
                  simp only [Act.put, List.setIfInBounds_toArray, List.set_cons_zero, List.set_cons_succ]
                  refine wpAnyH_take (i := 9) (oi := { dst := some 33, op := Go.Op.fieldAddr 66 (Go.Operand.tmp 6) 0, type := 0, pos := "l07_nfa.go:356", after := #[], guard := none }) (v := ?_) rfl (by kernel_rfl) (by kernel_rfl) (by kernel_rfl) (fun _ _ _ h => h) (Or.inl ⟨by kernel_rfl, ?_⟩) (by assumption) ?_
                  rotate_left
                  · intro w hSw; (try dsimp only at hSw); go_simp; try with_reducible rfl
                  simp only [Act.put, List.setIfInBounds_toArray, List.set_cons_zero, List.set_cons_succ]
                  refine wpAnyH_take (i := 10) (oi := { dst := some 34, op := Go.Op.indexAddr 62 (Go.Operand.tmp 33) (Go.Operand.tmp 32), type := 0, pos := "l07_nfa.go:356", after := #[{ on := 9, ground := Go.Ground.data }, { on := 8, ground := Go.Ground.data }], guard := none }) (v := ?_) rfl (by kernel_rfl) (by kernel_rfl) (by kernel_rfl) (fun _ _ _ h => h) (Or.inl ⟨by kernel_rfl, ?_⟩) (by assumption) ?_
                  rotate_left
                  · intro w hSw; (try dsimp only at hSw); go_simp; try with_reducible rfl
                  simp only [Act.put, List.setIfInBounds_toArray, List.set_cons_zero, List.set_cons_succ]
                  refine wpAnyH_take (i := 11) (oi := { dst := some 35, op := Go.Op.load 61 (Go.Operand.tmp 34), type := 61, pos := "l07_nfa.go:356", after := #[{ on := 10, ground := Go.Ground.data }], guard := none }) (v := ?_) rfl (by kernel_rfl) (by kernel_rfl) (by kernel_rfl) (fun _ _ _ h => h) (Or.inl ⟨by kernel_rfl, ?_⟩) (by assumption) ?_
                  rotate_left
                  · intro w hSw; (try dsimp only at hSw); go_simp; try with_reducible rfl
                  simp only [Act.put, List.setIfInBounds_toArray, List.set_cons_zero, List.set_cons_succ]
                  refine wpAnyH_take (i := 12) (oi := { dst := some 36, op := Go.Op.load 64 (Go.Operand.tmp 8), type := 64, pos := "l07_nfa.go:356", after := #[], guard := none }) (v := .agg c4) rfl (by kernel_rfl) (by kernel_rfl) (by kernel_rfl) (fun _ _ _ h => h) (yieldsIf_load_mid (by kernel_rfl) 64 _ rfl (B + 1 + 1 + 1) 0 rfl c4.toList _ (fun wz h => HL4 wz (SameTo.of h.2.2.out)) Try.underlying64 rfl (by rw [l4]; exact info_set)) (by assumption) ?_
                  simp only [Act.put, List.setIfInBounds_toArray, List.set_cons_zero, List.set_cons_succ]
                  refine wpAnyH_take (i := 14) (oi := { dst := some 38, op := Go.Op.move (Go.Operand.tmp 4), type := 3, pos := "l07_nfa.go:356", after := #[], guard := none }) (v := ?_) rfl (by kernel_rfl) (by kernel_rfl) (by kernel_rfl) (fun _ _ _ h => h) (Or.inl ⟨by kernel_rfl, ?_⟩) (by assumption) ?_
                  rotate_left
                  · intro w hSw; (try dsimp only at hSw); go_simp; try with_reducible rfl
                  simp only [Act.put, List.setIfInBounds_toArray, List.set_cons_zero, List.set_cons_succ]
                  refine wpAnyH_take (i := 15) (oi := { dst := some 39, op := Go.Op.binOp Go.BinOp.sub 3 (Go.Operand.tmp 38) (Go.Operand.const (Go.Value.int Go.IntKind.i64 1)) 3, type := 3, pos := "l07_nfa.go:356", after := #[{ on := 14, ground := Go.Ground.data }], guard := none }) (v := ?_) rfl (by kernel_rfl) (by kernel_rfl) (by kernel_rfl) (fun _ _ _ h => h) (Or.inl ⟨by kernel_rfl, ?_⟩) (by assumption) ?_
                  rotate_left
                  · intro w hSw; (try dsimp only at hSw); go_simp; try with_reducible rfl
                  simp only [Act.put, List.setIfInBounds_toArray, List.set_cons_zero, List.set_cons_succ]
                  refine wpAnyH_ready (rs := [7]) (by kernel_rfl) (by simp) ?_
                  refine AllReadyH.cons (o := { dst := some 31, op := Go.Op.call { callee := Go.Callee.value (Go.Operand.tmp 29), args := #[Go.Operand.tmp 30], argTypes := #[64] }, type := 64, pos := "l07_nfa.go:356", after := #[{ on := 5, ground := Go.Ground.data }, { on := 6, ground := Go.Ground.data }], guard := none }) rfl (fun K hK => ?_) ?_
                  · go_simp
                    go_wp2_with (go_at_call 62; refine (HF1.out _).mono ?_; rintro e w5 ⟨rfl, HB50⟩)
                    have HB5 : Hid (Below (B + 4) W w5) := HLD.out.trans (HB50.out.mono (by have := HLD.out.size; have := HSW.out; omega))
                    refine hK.out _ _ (HSS _ HB5.out) (fun hHeld => ?_)
                    clear hK K
                    try simp only [Act.put, List.setIfInBounds_toArray, List.set_cons_zero, List.set_cons_succ]
                    refine wpAnyH_ready (rs := [13]) (by kernel_rfl) (by simp) ?_
                    refine AllReadyH.cons (o := { dst := some 37, op := Go.Op.call { callee := Go.Callee.value (Go.Operand.tmp 35), args := #[Go.Operand.tmp 36], argTypes := #[64] }, type := 64, pos := "l07_nfa.go:356", after := #[{ on := 11, ground := Go.Ground.data }, { on := 12, ground := Go.Ground.data }, { on := 7, ground := Go.Ground.chain }], guard := none }) rfl (fun K hK => ?_) ?_
                    · go_simp
                      go_wp2_with (go_at_call 62; refine (HF2.out _).mono ?_; rintro e w6 ⟨rfl, HB60⟩)
                      have HB6 : Hid (Below (B + 4) W w6) := HB5.out.trans (HB60.out.mono (by have := HB5.out.size; have := HSW.out; omega))
                      refine hK.out _ _ (HSS _ HB6.out) (fun hHeld => ?_)
                      clear hK K
                      try simp only [Act.put, List.setIfInBounds_toArray, List.set_cons_zero, List.set_cons_succ]
                      refine wpAnyH_ready (rs := [16]) (by kernel_rfl) (by simp) ?_
                      refine AllReadyH.cons (o := { dst := some 40, op := Go.Op.call { callee := Go.Callee.value (Go.Operand.func 57), args := #[Go.Operand.tmp 24, Go.Operand.tmp 25, Go.Operand.tmp 31, Go.Operand.tmp 37, Go.Operand.tmp 39], argTypes := #[66, 66, 64, 64, 3] }, type := 4, pos := "l07_nfa.go:356", after := #[{ on := 0, ground := Go.Ground.data }, { on := 1, ground := Go.Ground.data }, { on := 7, ground := Go.Ground.data }, { on := 13, ground := Go.Ground.data }, { on := 15, ground := Go.Ground.data }, { on := 13, ground := Go.Ground.chain }], guard := none }) rfl (fun K hK => ?_) ?_
                      · go_simp
                        go_wp2_with (go_at_call 57; refine (HRC.out _).mono ?_; rintro e w7 ⟨rfl, HB70⟩)
                        have HB7 : Hid (Below (B + 4) W w7) := HB6.out.trans (HB70.out.mono (by have := HB6.out.size; have := HSW.out; omega))
                        refine hK.out _ _ (HSS _ HB7.out) (fun hHeld => ?_)
                        clear hK K
                        try simp only [Act.put, List.setIfInBounds_toArray, List.set_cons_zero, List.set_cons_succ]
                        refine wpAnyH_take (i := 17) (oi := { dst := some 41, op := Go.Op.unOp Go.UnOp.not 4 (Go.Operand.tmp 40), type := 4, pos := "l07_nfa.go:356", after := #[{ on := 16, ground := Go.Ground.data }], guard := none }) (v := ?_) rfl (by kernel_rfl) (by kernel_rfl) (by kernel_rfl) (fun _ _ _ h => h) (Or.inl ⟨by kernel_rfl, ?_⟩) (by assumption) ?_
                        rotate_left
                        · intro w hSw; (try dsimp only at hSw); go_simp; try with_reducible rfl
                        simp only [Act.put, List.setIfInBounds_toArray, List.set_cons_zero, List.set_cons_succ]
                        refine wpAnyH_done (by kernel_rfl) ?_ _
                        clear hHeld
                        go_wp2
                        go_roundw
                        case rel => exact ⟨k + 1, by go_num, by omega, fun j hj => if e : j = k then by subst e; exact HZ.out.symm else HE.out j (by omega), HB7⟩
                        case measure => simp [intOf]; omega
                      exact AllReadyH.nil
                    exact AllReadyH.nil
                  exact AllReadyH.nil
                · subst hz
                  have HRF : Hid (r = false) := by show _ = _; rw [HR.out, ← HPM.out]; exact ahead_no hlt HZ.out.symm
                  refine wpAnyH_take (i := 0) (oi := { dst := some 24, op := Go.Op.load 66 (Go.Operand.tmp 5), type := 66, pos := "l07_nfa.go:356", after := #[], guard := none }) (v := .agg c1) rfl (by kernel_rfl) (by kernel_rfl) (by kernel_rfl) (fun _ _ _ h => h) (yieldsIf_load_mid (by kernel_rfl) 66 _ rfl B 0 rfl c1.toList _ (fun wz h => HL1 wz (SameTo.of h.2.2.out)) Try.underlying66 rfl (by rw [l1]; exact info_mac)) (by assumption) ?_
                  simp only [Act.put, List.setIfInBounds_toArray, List.set_cons_zero, List.set_cons_succ]
                  refine wpAnyH_take (i := 1) (oi := { dst := some 25, op := Go.Op.load 66 (Go.Operand.tmp 6), type := 66, pos := "l07_nfa.go:356", after := #[], guard := none }) (v := .agg c2) rfl (by kernel_rfl) (by kernel_rfl) (by kernel_rfl) (fun _ _ _ h => h) (yieldsIf_load_mid (by kernel_rfl) 66 _ rfl (B + 1) 0 rfl c2.toList _ (fun wz h => HL2 wz (SameTo.of h.2.2.out)) Try.underlying66 rfl (by rw [l2]; exact info_mac)) (by assumption) ?_
                  simp only [Act.put, List.setIfInBounds_toArray, List.set_cons_zero, List.set_cons_succ]
                  refine wpAnyH_take (i := 2) (oi := { dst := some 26, op := Go.Op.move (Go.Operand.tmp 11), type := 3, pos := "l07_nfa.go:356", after := #[], guard := none }) (v := ?_) rfl (by kernel_rfl) (by kernel_rfl) (by kernel_rfl) (fun _ _ _ h => h) (Or.inl ⟨by kernel_rfl, ?_⟩) (by assumption) ?_
                  rotate_left
                  · intro w hSw; (try dsimp only at hSw); go_simp; try with_reducible rfl
                  simp only [Act.put, List.setIfInBounds_toArray, List.set_cons_zero, List.set_cons_succ]
                  refine wpAnyH_take (i := 3) (oi := { dst := some 27, op := Go.Op.fieldAddr 66 (Go.Operand.tmp 5) 0, type := 0, pos := "l07_nfa.go:356", after := #[], guard := none }) (v := ?_) rfl (by kernel_rfl) (by kernel_rfl) (by kernel_rfl) (fun _ _ _ h => h) (Or.inl ⟨by kernel_rfl, ?_⟩) (by assumption) ?_
                  rotate_left
                  · intro w hSw; (try dsimp only at hSw); go_simp; try with_reducible rfl
                  simp only [Act.put, List.setIfInBounds_toArray, List.set_cons_zero, List.set_cons_succ]
                  refine wpAnyH_take (i := 4) (oi := { dst := some 28, op := Go.Op.indexAddr 62 (Go.Operand.tmp 27) (Go.Operand.tmp 26), type := 0, pos := "l07_nfa.go:356", after := #[{ on := 3, ground := Go.Ground.data }, { on := 2, ground := Go.Ground.data }], guard := none }) (v := ?_) rfl (by kernel_rfl) (by kernel_rfl) (by kernel_rfl) (fun _ _ _ h => h) (Or.inl ⟨by kernel_rfl, ?_⟩) (by assumption) ?_
                  rotate_left
                  · intro w hSw; (try dsimp only at hSw); go_simp; try with_reducible rfl
                  simp only [Act.put, List.setIfInBounds_toArray, List.set_cons_zero, List.set_cons_succ]
                  refine wpAnyH_take (i := 5) (oi := { dst := some 29, op := Go.Op.load 61 (Go.Operand.tmp 28), type := 61, pos := "l07_nfa.go:356", after := #[{ on := 4, ground := Go.Ground.data }], guard := none }) (v := ?_) rfl (by kernel_rfl) (by kernel_rfl) (by kernel_rfl) (fun _ _ _ h => h) (Or.inl ⟨by kernel_rfl, ?_⟩) (by assumption) ?_
                  rotate_left
                  · intro w hSw; (try dsimp only at hSw); go_simp; try with_reducible rfl
                  simp only [Act.put, List.setIfInBounds_toArray, List.set_cons_zero, List.set_cons_succ]
                  refine wpAnyH_take (i := 6) (oi := { dst := some 30, op := Go.Op.load 64 (Go.Operand.tmp 7), type := 64, pos := "l07_nfa.go:356", after := #[], guard := none }) (v := .agg c3) rfl (by kernel_rfl) (by kernel_rfl) (by kernel_rfl) (fun _ _ _ h => h) (yieldsIf_load_mid (by kernel_rfl) 64 _ rfl (B + 1 + 1) 0 rfl c3.toList _ (fun wz h => HL3 wz (SameTo.of h.2.2.out)) Try.underlying64 rfl (by rw [l3]; exact info_set)) (by assumption) ?_
                  simp only [Act.put, List.setIfInBounds_toArray, List.set_cons_zero, List.set_cons_succ]
                  refine wpAnyH_take (i := 8) (oi := { dst := some 32, op := Go.Op.move (Go.Operand.tmp 11), type := 3, pos := "l07_nfa.go:356", after := #[], guard := none }) (v := ?_) rfl (by kernel_rfl) (by kernel_rfl) (by kernel_rfl) (fun _ _ _ h => h) (Or.inl ⟨by kernel_rfl, ?_⟩) (by assumption) ?_
                  rotate_left
                  · intro w hSw; (try dsimp only at hSw); go_simp; try with_reducible rfl
                  simp only [Act.put, List.setIfInBounds_toArray, List.set_cons_zero, List.set_cons_succ]
                  refine wpAnyH_take (i := 9) (oi := { dst := some 33, op := Go.Op.fieldAddr 66 (Go.Operand.tmp 6) 0, type := 0, pos := "l07_nfa.go:356", after := #[], guard := none }) (v := ?_) rfl (by kernel_rfl) (by kernel_rfl) (by kernel_rfl) (fun _ _ _ h => h) (Or.inl ⟨by kernel_rfl, ?_⟩) (by assumption) ?_
                  rotate_left
                  · intro w hSw; (try dsimp only at hSw); go_simp; try with_reducible rfl
                  simp only [Act.put, List.setIfInBounds_toArray, List.set_cons_zero, List.set_cons_succ]
                  refine wpAnyH_take (i := 10) (oi := { dst := some 34, op := Go.Op.indexAddr 62 (Go.Operand.tmp 33) (Go.Operand.tmp 32), type := 0, pos := "l07_nfa.go:356", after := #[{ on := 9, ground := Go.Ground.data }, { on := 8, ground := Go.Ground.data }], guard := none }) (v := ?_) rfl (by kernel_rfl) (by kernel_rfl) (by kernel_rfl) (fun _ _ _ h => h) (Or.inl ⟨by kernel_rfl, ?_⟩) (by assumption) ?_
                  rotate_left
                  · intro w hSw; (try dsimp only at hSw); go_simp; try with_reducible rfl
                  simp only [Act.put, List.setIfInBounds_toArray, List.set_cons_zero, List.set_cons_succ]
                  refine wpAnyH_take (i := 11) (oi := { dst := some 35, op := Go.Op.load 61 (Go.Operand.tmp 34), type := 61, pos := "l07_nfa.go:356", after := #[{ on := 10, ground := Go.Ground.data }], guard := none }) (v := ?_) rfl (by kernel_rfl) (by kernel_rfl) (by kernel_rfl) (fun _ _ _ h => h) (Or.inl ⟨by kernel_rfl, ?_⟩) (by assumption) ?_
                  rotate_left
                  · intro w hSw; (try dsimp only at hSw); go_simp; try with_reducible rfl
                  simp only [Act.put, List.setIfInBounds_toArray, List.set_cons_zero, List.set_cons_succ]
                  refine wpAnyH_take (i := 12) (oi := { dst := some 36, op := Go.Op.load 64 (Go.Operand.tmp 8), type := 64, pos := "l07_nfa.go:356", after := #[], guard := none }) (v := .agg c4) rfl (by kernel_rfl) (by kernel_rfl) (by kernel_rfl) (fun _ _ _ h => h) (yieldsIf_load_mid (by kernel_rfl) 64 _ rfl (B + 1 + 1 + 1) 0 rfl c4.toList _ (fun wz h => HL4 wz (SameTo.of h.2.2.out)) Try.underlying64 rfl (by rw [l4]; exact info_set)) (by assumption) ?_
                  simp only [Act.put, List.setIfInBounds_toArray, List.set_cons_zero, List.set_cons_succ]
                  refine wpAnyH_take (i := 14) (oi := { dst := some 38, op := Go.Op.move (Go.Operand.tmp 4), type := 3, pos := "l07_nfa.go:356", after := #[], guard := none }) (v := ?_) rfl (by kernel_rfl) (by kernel_rfl) (by kernel_rfl) (fun _ _ _ h => h) (Or.inl ⟨by kernel_rfl, ?_⟩) (by assumption) ?_
                  rotate_left
                  · intro w hSw; (try dsimp only at hSw); go_simp; try with_reducible rfl
                  simp only [Act.put, List.setIfInBounds_toArray, List.set_cons_zero, List.set_cons_succ]
                  refine wpAnyH_take (i := 15) (oi := { dst := some 39, op := Go.Op.binOp Go.BinOp.sub 3 (Go.Operand.tmp 38) (Go.Operand.const (Go.Value.int Go.IntKind.i64 1)) 3, type := 3, pos := "l07_nfa.go:356", after := #[{ on := 14, ground := Go.Ground.data }], guard := none }) (v := ?_) rfl (by kernel_rfl) (by kernel_rfl) (by kernel_rfl) (fun _ _ _ h => h) (Or.inl ⟨by kernel_rfl, ?_⟩) (by assumption) ?_
                  rotate_left
                  · intro w hSw; (try dsimp only at hSw); go_simp; try with_reducible rfl
                  simp only [Act.put, List.setIfInBounds_toArray, List.set_cons_zero, List.set_cons_succ]
                  refine wpAnyH_ready (rs := [7]) (by kernel_rfl) (by simp) ?_
                  refine AllReadyH.cons (o := { dst := some 31, op := Go.Op.call { callee := Go.Callee.value (Go.Operand.tmp 29), args := #[Go.Operand.tmp 30], argTypes := #[64] }, type := 64, pos := "l07_nfa.go:356", after := #[{ on := 5, ground := Go.Ground.data }, { on := 6, ground := Go.Ground.data }], guard := none }) rfl (fun K hK => ?_) ?_
                  · go_simp
                    go_wp2_with (go_at_call 62; refine (HF1.out _).mono ?_; rintro e w5 ⟨rfl, HB50⟩)
                    have HB5 : Hid (Below (B + 4) W w5) := HLD.out.trans (HB50.out.mono (by have := HLD.out.size; have := HSW.out; omega))
                    refine hK.out _ _ (HSS _ HB5.out) (fun hHeld => ?_)
                    clear hK K
                    try simp only [Act.put, List.setIfInBounds_toArray, List.set_cons_zero, List.set_cons_succ]
                    refine wpAnyH_ready (rs := [13]) (by kernel_rfl) (by simp) ?_
                    refine AllReadyH.cons (o := { dst := some 37, op := Go.Op.call { callee := Go.Callee.value (Go.Operand.tmp 35), args := #[Go.Operand.tmp 36], argTypes := #[64] }, type := 64, pos := "l07_nfa.go:356", after := #[{ on := 11, ground := Go.Ground.data }, { on := 12, ground := Go.Ground.data }, { on := 7, ground := Go.Ground.chain }], guard := none }) rfl (fun K hK => ?_) ?_
                    · go_simp
                      go_wp2_with (go_at_call 62; refine (HF2.out _).mono ?_; rintro e w6 ⟨rfl, HB60⟩)
                      have HB6 : Hid (Below (B + 4) W w6) := HB5.out.trans (HB60.out.mono (by have := HB5.out.size; have := HSW.out; omega))
                      refine hK.out _ _ (HSS _ HB6.out) (fun hHeld => ?_)
                      clear hK K
                      try simp only [Act.put, List.setIfInBounds_toArray, List.set_cons_zero, List.set_cons_succ]
                      refine wpAnyH_ready (rs := [16]) (by kernel_rfl) (by simp) ?_
                      refine AllReadyH.cons (o := { dst := some 40, op := Go.Op.call { callee := Go.Callee.value (Go.Operand.func 57), args := #[Go.Operand.tmp 24, Go.Operand.tmp 25, Go.Operand.tmp 31, Go.Operand.tmp 37, Go.Operand.tmp 39], argTypes := #[66, 66, 64, 64, 3] }, type := 4, pos := "l07_nfa.go:356", after := #[{ on := 0, ground := Go.Ground.data }, { on := 1, ground := Go.Ground.data }, { on := 7, ground := Go.Ground.data }, { on := 13, ground := Go.Ground.data }, { on := 15, ground := Go.Ground.data }, { on := 13, ground := Go.Ground.chain }], guard := none }) rfl (fun K hK => ?_) ?_
                      · go_simp
                        go_wp2_with (go_at_call 57; refine (HRC.out _).mono ?_; rintro e w7 ⟨rfl, HB70⟩)
                        have HB7 : Hid (Below (B + 4) W w7) := HB6.out.trans (HB70.out.mono (by have := HB6.out.size; have := HSW.out; omega))
                        refine hK.out _ _ (HSS _ HB7.out) (fun hHeld => ?_)
                        clear hK K
                        try simp only [Act.put, List.setIfInBounds_toArray, List.set_cons_zero, List.set_cons_succ]
                        refine wpAnyH_take (i := 17) (oi := { dst := some 41, op := Go.Op.unOp Go.UnOp.not 4 (Go.Operand.tmp 40), type := 4, pos := "l07_nfa.go:356", after := #[{ on := 16, ground := Go.Ground.data }], guard := none }) (v := ?_) rfl (by kernel_rfl) (by kernel_rfl) (by kernel_rfl) (fun _ _ _ h => h) (Or.inl ⟨by kernel_rfl, ?_⟩) (by assumption) ?_
                        rotate_left
                        · intro w hSw; (try dsimp only at hSw); go_simp; try with_reducible rfl
                        simp only [Act.put, List.setIfInBounds_toArray, List.set_cons_zero, List.set_cons_succ]
                        refine wpAnyH_done (by kernel_rfl) ?_ _
                        clear hHeld
                        go_wp2
                        go_ret
                        exact ⟨by rw [HRF.out]; rfl, HBW.out.trans (HB7.out.mono (by have := HB.out; omega))⟩
                      exact AllReadyH.nil
                    exact AllReadyH.nil
                  exact AllReadyH.nil
              · obtain rfl : k = 4 := by omega
                have HRT : Hid (r = true) := by
                  show _ = _
                  rw [HR.out, ← HPM.out]
                  exact ahead_yes HXY.out HE.out
                go_wp2
                go_ret
                exact ⟨by rw [HRT.out]; rfl, HBW.out.trans (HL.out.mono (by have := HB.out; omega))⟩
        exact AllReadyH.nil
      exact AllReadyH.nil

theorem sameAhead_any (A A' : Nat → Nat → Bool) (q q' : Nat → Bool) : ∀ (p : Nat), p ≤ 6 → ∀ (f g : Nat → Bool) (r : Bool) (w : World), r = aheadB A A' q q' p f g →
    Calls Try.prog 57 #[mval A q, mval A' q', sv f, sv g, .int .i64 (p : Int)] w fun e w' => e = .returned (.bool r) ∧ Hid (Below w.heap.size w w')
  | 0, h, f, g, r, w, hr => ahead_step A A' q q' 0 f g r w h hr (fun m hm => absurd hm (by omega))
  | p + 1, h, f, g, r, w, hr => ahead_step A A' q q' (p + 1) f g r w h hr (fun m hm f2 g2 r2 w2 hr2 => by
    have e : m = p := by omega
    subst e
    exact sameAhead_any A A' q q' m (by omega) f2 g2 r2 w2 hr2)
end Go.Proofs.Ytdhkkabcgehjpaa
