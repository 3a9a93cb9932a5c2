/-
  impl.BagOk.
-/
import Derived.Test.YtelikebpddhncaaOk
namespace Go.Proofs.Ytelikebpddhncaa
open Go.RowKit

set_option maxHeartbeats 2000000 in
set_option maxRecDepth 100000 in
theorem bagOk_any (lo hi : Nat) (a : Option Addr) (n cap : Nat) (l : List It) (r : Bool) (w : World) (ha : BagIn lo hi w a l) (hh : hi ≤ w.heap.size) (hn : l.length = n) (hm : n ≤ 1048576) (hq : ∀ i, i < n → (at' l i).1.length ≤ 1048576) (hr : r = okBag l) :
    Calls Try.prog 21 #[.agg #[.slice a n cap]] w fun e w' => e = .returned (.bool r) ∧ Below w.heap.size w w' := by
  have HN : Hid (l.length = n) := hn
  have HA : Hid (BagIn lo hi w a l) := ha
  have HH : Hid (hi ≤ w.heap.size) := hh
  have HR : Hid (r = okBag l) := hr
  have HQ : Hid (∀ i, i < n → (at' l i).1.length ≤ 1048576) := hq
  clear ha hh hn hr hq
  by_cases h3 : n ≤ 300
  · have hd : ¬ (300 : Int) < (n : Int) := by omega
    go_enter Try.func21, Try.ntmps21
    go_wp2
    go_loopw [13] (fun i wr => ∃ k : Nat, i = .int .i64 k ∧ k ≤ n ∧ Hid (okTo l k = true) ∧ Hid (Below w.heap.size w wr) ∧ Hid (Blk wr w.heap.size 1 (fun _ => .slice a n cap))) (fun i _ => n - (intOf i).toNat)
    case atStart => exact ⟨0, rfl, by omega, rfl, below1 _ _, blk_one w _ rfl _ _⟩
    case round =>
      obtain ⟨k, rfl, hk, HE, HL, HX⟩ := hrel
      by_cases hlt : k < n
      · have hlt1 : (k : Int) < (n : Int) := by omega
        have HBW : Hid (BagIn lo hi wr a l) := HA.out.below HL.out HH.out
        have HSZ : Hid (hi ≤ wr.heap.size) := Nat.le_trans HH.out HL.out.size
        obtain ⟨b, o, rfl, _, hbh, ra, rc, hc1, hrow, hc2⟩ := HBW.out.item (k := k) (by rw [HN.out]; exact hlt)
        have HBH : Hid (b < hi) := hbh
        have HROW : Hid (RowIn lo hi wr ra (at' l k).1) := hrow
        obtain ⟨q, HQ1⟩ : ∃ q : Nat, Hid (q = (at' l k).1.length) := ⟨_, rfl⟩
        obtain ⟨t, HT⟩ : ∃ t : Int, Hid (t = (at' l k).2) := ⟨_, rfl⟩
        change wr.cell? _ = some (.slice ra (at' l k).1.length rc) at hc1
        change wr.cell? _ = some (.int .i64 (at' l k).2) at hc2
        rw [← HQ1.out] at hc1
        rw [← HT.out] at hc2
        have hq : q ≤ 1048576 := by rw [HQ1.out]; exact HQ.out k hlt
        have hqw : b < wr.heap.size := lt_of_cell hc1
        clear hrow hbh
        obtain ⟨s, HS⟩ : ∃ s : Bool, Hid (s = okItem (at' l k).1 (at' l k).2) := ⟨_, rfl⟩
        go_wp2_with fail
        refine (itemOk_any lo hi ra q rc t (at' l k).1 s _ (HROW.out.below (below1 wr _) HSZ.out) (by have := HSZ.out; simp; omega) HQ1.out.symm hq (by rw [HS.out, HT.out])).mono ?_
        rintro e w1 ⟨rfl, hb1⟩
        have HL1 : Hid (Below wr.heap.size wr w1) := (below1 wr _).trans (hb1.mono (by simp))
        have HX1 : Hid (Blk w1 w.heap.size 1 (fun _ => .slice (some ⟨b, o, none⟩) n cap)) := HX.out.of_block (HL1.out.block _ HX.out.lt)
        have hk4 := (blk_two wr wr.heap.size rfl (.slice ra q rc) (.int .i64 t) 77).of_block (hb1.block wr.heap.size (by simp))
        have hx4 : w1.cell? ⟨wr.heap.size, 0, none⟩ = some (.slice ra q rc) := hk4.cell (i := 0) (by omega)
        have HLW : Hid (Below w.heap.size w w1) := HL.out.trans (HL1.out.mono HL.out.size)
        have HXL : Hid (w.heap.size < wr.heap.size) := HX.out.lt
        clear hk4 hb1
        rcases Bool.eq_false_or_eq_true s with hs | hs
        · subst hs
          by_cases hk0 : k = 0
          · subst hk0
            go_wp2
            go_roundw
            case rel => exact ⟨1, by go_num, by omega, by show _ = _; simp only [okTo]; rw [okAt_zero HS.out.symm]; rfl, HLW, HX1⟩
            case measure => simp [intOf]; omega
          · obtain ⟨m, rfl⟩ : ∃ m, k = m + 1 := ⟨k - 1, by omega⟩
            have HBW1 : Hid (BagIn lo hi w1 (some ⟨b, o, none⟩) l) := HBW.out.below HL1.out HSZ.out
            obtain ⟨b2, o2, e2, _, _, ra', rc', hc3, hrow', _⟩ := HBW1.out.item (k := m) (by rw [HN.out]; omega)
            simp only [Option.some.injEq, Addr.mk.injEq, and_true] at e2
            obtain ⟨rfl, rfl⟩ := e2
            have HROW' : Hid (RowIn lo hi w1 ra' (at' l m).1) := hrow'
            have HROW1 : Hid (RowIn lo hi w1 ra (at' l (m + 1)).1) := HROW.out.below HL1.out HSZ.out
            obtain ⟨q', HQ'⟩ : ∃ q : Nat, Hid (q = (at' l m).1.length) := ⟨_, rfl⟩
            change w1.cell? _ = some (.slice ra' (at' l m).1.length rc') at hc3
            rw [← HQ'.out] at hc3
            have hq' : q' ≤ 1048576 := by rw [HQ'.out]; exact HQ.out m (by omega)
            have hcx := HX1.out.cell (i := 0) (by omega)
            clear hrow' hk0 hc1 hc2
            have hlt2 : (m : Int) < (n : Int) := by omega
            by_cases hql : q' = q
            · subst hql
              obtain ⟨v, HV⟩ : ∃ v : Bool, Hid (v = rowLt (at' l m).1 (at' l (m + 1)).1) := ⟨_, rfl⟩
              have HOK : Hid (okAt l (m + 1) = v) := by
                show _ = _
                rw [okAt_pos HS.out.symm (by omega), Nat.add_sub_cancel, ← HQ1.out, ← HQ'.out, HV.out]; simp
              go_wp2_with fail
              refine (rowLess_any lo hi lo hi ra' ra q' q' rc' rc (at' l m).1 (at' l (m + 1)).1 w1 HROW'.out HROW1.out HQ'.out.symm HQ1.out.symm hq' hq').mono ?_
              rw [← HV.out]
              rintro e w2 ⟨rfl, rfl⟩
              rcases Bool.eq_false_or_eq_true v with hv | hv
              · subst hv
                go_wp2
                go_roundw
                case rel => exact ⟨m + 1 + 1, by go_num, by omega, by show _ = _; rw [okTo, HE.out, HOK.out]; rfl, HLW, HX1⟩
                case measure => simp [intOf]; omega
              · subst hv
                go_wp2
                go_ret
                refine ⟨?_, HLW.out⟩
                have : r = false := by rw [HR.out]; exact okBag_no (k := m + 1) (by rw [HN.out]; exact hlt) HOK.out
                rw [this]; rfl
            · have HOK : Hid (okAt l (m + 1) = false) := by
                show _ = _
                rw [okAt_pos HS.out.symm (by omega), Nat.add_sub_cancel, ← HQ1.out, ← HQ'.out]; simp [hql]
              go_wp2
              go_ret
              refine ⟨?_, HLW.out⟩
              have : r = false := by rw [HR.out]; exact okBag_no (k := m + 1) (by rw [HN.out]; exact hlt) HOK.out
              rw [this]; rfl
        · subst hs
          go_wp2
          go_ret
          refine ⟨?_, HLW.out⟩
          have : r = false := by rw [HR.out]; exact okBag_no (k := k) (by rw [HN.out]; exact hlt) (okAt_no HS.out.symm)
          rw [this]; rfl
      · go_wp2
        go_ret
        refine ⟨?_, HL.out⟩
        have : r = true := by
          obtain rfl : k = n := by omega
          rw [HR.out]; unfold okBag; rw [HN.out, HE.out]; simp [h3]
        rw [this]; rfl
  · have hd : (300 : Int) < (n : Int) := by omega
    have HF : Hid (r = false) := by show _ = _; rw [HR.out]; unfold okBag; rw [HN.out]; simp [h3]
    go_enter Try.func21, Try.ntmps21
    go_wp2
    go_ret
    exact ⟨by rw [HF.out]; rfl, below1 _ _⟩
end Go.Proofs.Ytelikebpddhncaa
