/-
  spec.BagOk.
-/
import Derived.Test.YtelikebpddhncaaOkB
namespace Go.Proofs.Ytelikebpddhncaa
open Go.RowKit

theorem okItem_parts {l : List Int} {t : Int} {u v : Bool} (hu : u = okRow l) (hv : v = (decide (1 ≤ t) && decide (t ≤ 1000000))) : okItem l t = (u && v) := by unfold okItem; rw [hu, hv]

set_option maxHeartbeats 4000000 in
set_option maxRecDepth 100000 in
theorem specOk_any (lo hi : Nat) (a : Option Addr) (n cap : Nat) (l : List It) (r : Bool) (w : World) (ha : BagIn lo hi w a l) (hh : hi ≤ w.heap.size) (hn : l.length = n) (hm : n ≤ 1048576) (hq : ∀ i, i < n → (at' l i).1.length ≤ 1048576) (hr : r = okBag l) :
    Calls Try.prog 20 #[.agg #[.slice a n cap]] w fun e w' => e = .returned (.bool r) ∧ Below w.heap.size w w' := by
  have HN : Hid (l.length = n) := hn
  have HA : Hid (BagIn lo hi w a l) := ha
  have HH : Hid (hi ≤ w.heap.size) := hh
  have HR : Hid (r = okBag l) := hr
  have HQ : Hid (∀ i, i < n → (at' l i).1.length ≤ 1048576) := hq
  clear ha hh hn hr hq
  go_enter Try.func20, Try.ntmps20
  go_wp2
  go_loopw [3] (fun i wr => ∃ k : Nat, i = .int .i64 k ∧ k ≤ n ∧ Hid (okTo l k = true) ∧ Hid (Below w.heap.size w wr) ∧ Hid (Blk wr w.heap.size 1 (fun _ => .slice a n cap))) (fun i _ => n - (intOf i).toNat)
  case atStart => exact ⟨0, rfl, by omega, rfl, below1 _ _, blk_one w _ rfl _ _⟩
  case round =>
    obtain ⟨k, rfl, hk, HE, HL, HX⟩ := hrel
    have hcx := HX.out.cell (i := 0) (by omega)
    by_cases hlt : k < n
    · have hlt1 : (k : Int) < (n : Int) := by omega
      have HBW : Hid (BagIn lo hi wr a l) := HA.out.below HL.out HH.out
      have HSZ : Hid (hi ≤ wr.heap.size) := Nat.le_trans HH.out HL.out.size
      have HXL : Hid (w.heap.size < wr.heap.size) := HX.out.lt
      obtain ⟨b, o, rfl, _, hbh, ra, rc, hc1, hrow, hc2⟩ := HBW.out.item (k := k) (by rw [HN.out]; exact hlt)
      have HBH : Hid (b < hi) := hbh
      have HROW : Hid (RowIn lo hi wr ra (at' l k).1) := hrow
      obtain ⟨q, HQ1⟩ : ∃ q : Nat, Hid (q = (at' l k).1.length) := ⟨_, rfl⟩
      obtain ⟨t, HT⟩ : ∃ t : Int, Hid (t = (at' l k).2) := ⟨_, rfl⟩
      change wr.cell? _ = some (.slice ra (at' l k).1.length rc) at hc1
      change wr.cell? _ = some (.int .i64 (at' l k).2) at hc2
      rw [← HQ1.out] at hc1
      rw [← HT.out] at hc2
      have hq : q ≤ 1048576 := by rw [HQ1.out]; exact HQ.out k hlt
      clear hrow hbh
      obtain ⟨u, HU⟩ : ∃ u : Bool, Hid (u = okRow (at' l k).1) := ⟨_, rfl⟩
      obtain ⟨v, HV⟩ : ∃ v : Bool, Hid (v = (decide (1 ≤ t) && decide (t ≤ 1000000))) := ⟨_, rfl⟩
      have HI : Hid (okItem (at' l k).1 (at' l k).2 = (u && v)) := okItem_parts HU.out (by rw [HV.out, HT.out])
      obtain ⟨W, HW⟩ : ∃ W, Hid (W = wr.alloc (Obj.cells #[.slice ra q rc, .int .i64 t] 77)) := ⟨_, rfl⟩
      have HB4 : Hid (Below wr.heap.size wr W) := by rw [HW.out]; exact below1 wr _
      have HC1 : Hid (∀ m, Calls Try.prog 65 #[.slice ra q rc] (W.drewN m) fun e w' => e = .returned (.bool u) ∧ w' = W.drewN m) := fun m => by
        rw [HU.out]; exact (l03Row_any lo hi ra q rc (at' l k).1 (W.drewN m) (HROW.out.below (below_drewN HB4.out m) HSZ.out) HQ1.out.symm hq).mono fun _ _ h => ⟨h.1, h.2.symm⟩
      have HC2 : Hid (∀ m, Calls Try.prog 66 #[.int .i64 t, .int .i64 1, .int .i64 1000000] (W.drewN m) fun e w' => e = .returned (.bool v) ∧ w' = W.drewN m) := fun m => by
        rw [HV.out]; exact (l01In_any t 1 1000000 (W.drewN m)).mono fun _ _ h => ⟨h.1, h.2.symm⟩
      have hk4 : Blk W wr.heap.size 2 (fun i => if i = 0 then .slice ra q rc else .int .i64 t) := by rw [HW.out]; exact blk_two wr wr.heap.size rfl (.slice ra q rc) (.int .i64 t) 77
      have hx4 : W.cell? ⟨wr.heap.size, 0, none⟩ = some (.slice ra q rc) := hk4.cell (i := 0) (by omega)
      have hx5 : W.cell? ⟨wr.heap.size, 1, none⟩ = some (.int .i64 t) := hk4.cell (i := 1) (by omega)
      have hx6 : W.cell? ⟨w.heap.size, 0, none⟩ = some (.slice (some ⟨b, o, none⟩) n cap) := cell_below hcx HB4.out HXL.out
      have HXW : Hid (Blk W w.heap.size 1 (fun _ => .slice (some ⟨b, o, none⟩) n cap)) := HX.out.of_block (HB4.out.block _ HXL.out)
      have HLW : Hid (Below w.heap.size w W) := HL.out.trans (HB4.out.mono HL.out.size)
      clear hk4
      go_wp2_with fail
      rw [← HW.out]
      clear hc1 hc2 hcx
      rcases Bool.eq_false_or_eq_true u with hu | hu
      · subst hu
        rcases Bool.eq_false_or_eq_true v with hv | hv
        · subst hv
          have HI2 : Hid (okItem (at' l k).1 (at' l k).2 = true) := HI.out
          by_cases hk0 : k = 0
          · subst hk0
            have hg : decide ((0 : Int) < ((0 : Nat) : Int)) = false := by simp
            go_quiet (first | (go_at_call 65; exact Calls.quiet_of_same (HC1.out _)) | (go_at_call 66; exact Calls.quiet_of_same (HC2.out _)))
            go_wp2
            go_roundw
            case rel => exact ⟨1, by go_num, by omega, by show _ = _; simp only [okTo]; rw [okAt_zero HI2.out]; rfl, below_drewN HLW.out _, HXW⟩
            case measure => simp [intOf]; omega
          · obtain ⟨m, rfl⟩ : ∃ m, k = m + 1 := ⟨k - 1, by omega⟩
            have HBW1 : Hid (BagIn lo hi W (some ⟨b, o, none⟩) l) := HBW.out.below HB4.out HSZ.out
            obtain ⟨b2, o2, e2, _, _, ra', rc', hc3, hrow', _⟩ := HBW1.out.item (k := m) (by rw [HN.out]; omega)
            simp only [Option.some.injEq, Addr.mk.injEq, and_true] at e2
            obtain ⟨rfl, rfl⟩ := e2
            have HROW' : Hid (RowIn lo hi W ra' (at' l m).1) := hrow'
            have HROW1 : Hid (RowIn lo hi W ra (at' l (m + 1)).1) := HROW.out.below HB4.out HSZ.out
            obtain ⟨q', HQ'⟩ : ∃ q : Nat, Hid (q = (at' l m).1.length) := ⟨_, rfl⟩
            change W.cell? _ = some (.slice ra' (at' l m).1.length rc') at hc3
            rw [← HQ'.out] at hc3
            have hq' : q' ≤ 1048576 := by rw [HQ'.out]; exact HQ.out m (by omega)
            obtain ⟨x, HXL2⟩ : ∃ x : Bool, Hid (x = rowLt (at' l m).1 (at' l (m + 1)).1) := ⟨_, rfl⟩
            have HC3 : Hid (∀ j, Calls Try.prog 67 #[.slice ra' q' rc', .slice ra q rc] (W.drewN j) fun e w' => e = .returned (.bool x) ∧ ∃ m, w' = (W.drewN j).drewN m) := fun j =>
              specLess_any_q lo hi lo hi ra' ra q' q rc' rc (at' l m).1 (at' l (m + 1)).1 x (W.drewN j) (HROW'.out.below (below_drewN (Below.refl hi W) j) (Nat.le_refl _)) (HROW1.out.below (below_drewN (Below.refl hi W) j) (Nat.le_refl _)) HQ'.out.symm HQ1.out.symm hq' hq HXL2.out
            have hg : (0 : Int) < ((m + 1 : Nat) : Int) := by omega
            have hlt2 : (m : Int) < (n : Int) := by omega
            clear hrow' hk0
            rcases Bool.eq_false_or_eq_true x with hx | hx
            · subst hx
              by_cases hql : q' = q
              · subst hql
                have HOK : Hid (okAt l (m + 1) = true) := by
                  show _ = _
                  rw [okAt_pos HI2.out (by omega), Nat.add_sub_cancel, ← HQ1.out, ← HQ'.out, ← HXL2.out]; simp
                go_quiet (first | (go_at_call 65; exact Calls.quiet_of_same (HC1.out _)) | (go_at_call 66; exact Calls.quiet_of_same (HC2.out _)) | (go_at_call 67; exact Calls.quiet_of (HC3.out _)))
                go_wp2
                go_roundw
                case rel => exact ⟨m + 1 + 1, by go_num, by omega, by show _ = _; rw [okTo, HE.out, HOK.out]; rfl, below_drewN HLW.out _, HXW⟩
                case measure => simp [intOf]; omega
              · have HOK : Hid (okAt l (m + 1) = false) := by
                  show _ = _
                  rw [okAt_pos HI2.out (by omega), Nat.add_sub_cancel, ← HQ1.out, ← HQ'.out]; simp [hql]
                go_quiet (first | (go_at_call 65; exact Calls.quiet_of_same (HC1.out _)) | (go_at_call 66; exact Calls.quiet_of_same (HC2.out _)) | (go_at_call 67; exact Calls.quiet_of (HC3.out _)))
                go_wp2
                go_ret
                refine ⟨?_, below_drewN HLW.out _⟩
                have : r = false := by rw [HR.out]; exact okBag_no (k := m + 1) (by rw [HN.out]; exact hlt) HOK.out
                rw [this]; rfl
            · subst hx
              have HOK : Hid (okAt l (m + 1) = false) := by
                show _ = _
                rw [okAt_pos HI2.out (by omega), Nat.add_sub_cancel, ← HXL2.out]; rfl
              go_quiet (first | (go_at_call 65; exact Calls.quiet_of_same (HC1.out _)) | (go_at_call 66; exact Calls.quiet_of_same (HC2.out _)) | (go_at_call 67; exact Calls.quiet_of (HC3.out _)))
              go_wp2
              go_ret
              refine ⟨?_, below_drewN HLW.out _⟩
              have : r = false := by rw [HR.out]; exact okBag_no (k := m + 1) (by rw [HN.out]; exact hlt) HOK.out
              rw [this]; rfl
        · subst hv
          go_quiet (first | (go_at_call 65; exact Calls.quiet_of_same (HC1.out _)) | (go_at_call 66; exact Calls.quiet_of_same (HC2.out _)))
          go_wp2
          go_ret
          refine ⟨?_, below_drewN HLW.out _⟩
          have : r = false := by rw [HR.out]; exact okBag_no (k := k) (by rw [HN.out]; exact hlt) (okAt_no (by rw [HI.out]; rfl))
          rw [this]; rfl
      · subst hu
        go_quiet (first | (go_at_call 65; exact Calls.quiet_of_same (HC1.out _)))
        go_wp2
        go_ret
        refine ⟨?_, below_drewN HLW.out _⟩
        have : r = false := by rw [HR.out]; exact okBag_no (k := k) (by rw [HN.out]; exact hlt) (okAt_no (by rw [HI.out]; rfl))
        rw [this]; rfl
    · obtain rfl : k = n := by omega
      by_cases h3 : k ≤ 300
      · have hd : decide ((k : Int) ≤ 300) = true := by simp; omega
        go_wp2
        go_ret
        refine ⟨?_, HL.out⟩
        have : r = true := by rw [HR.out]; unfold okBag; rw [HN.out, HE.out]; simp [h3]
        rw [this]; rfl
      · have hd : decide ((k : Int) ≤ 300) = false := by simp; omega
        go_wp2
        go_ret
        refine ⟨?_, HL.out⟩
        have : r = false := by rw [HR.out]; unfold okBag; rw [HN.out]; simp; omega
        rw [this]; rfl
end Go.Proofs.Ytelikebpddhncaa
