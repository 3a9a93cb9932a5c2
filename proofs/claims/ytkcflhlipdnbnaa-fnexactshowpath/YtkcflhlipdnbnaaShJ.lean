/-
  The program's text of all kids of a piece.
-/
import Derived.Test.YtkcflhlipdnbnaaShI
namespace Go.Proofs.Ytkcflhlipdnbnaa
open Go.RowKit

theorem kT_imp {ts : List Tx} {ps : List Pc} {x : Int} {ks : List Int} {k : Nat} {t bt bh : Tx} (h : kT ts ps x ks k = some t) (hbt : bt = if x = 3 then barT else emT) (hbh : bh = behT x) :
    kT ts ps x ks (k + 1) = if tat ts (ks.getD k 0).toNat = emT ∨ 20 < ((if 0 < k then t ++ bt else t) ++ kidT ts ps x (ks.getD k 0)).size + bh.size then none else some ((if 0 < k then t ++ bt else t) ++ kidT ts ps x (ks.getD k 0)) := by
  have e : (if x = 3 ∧ 0 < k then t ++ barT else t) = (if 0 < k then t ++ bt else t) := by
    by_cases h0 : 0 < k
    · rw [if_pos h0]
      by_cases h3 : x = 3
      · rw [if_pos ⟨h3, h0⟩, hbt, if_pos h3]
      · rw [if_neg (fun h => h3 h.1), hbt, if_neg h3, app_em]
    · rw [if_neg h0, if_neg (fun h => h0 h.2)]
  conv => lhs; unfold kT
  rw [h]
  dsimp only
  rw [e, hbh]
theorem beh_le (x : Int) : (behT x).size ≤ 1 := by
  unfold behT
  split
  · exact Nat.zero_le _
  · rw [sgn_size]; exact Nat.le_refl _

set_option maxHeartbeats 4000000 in
set_option maxRecDepth 100000 in
theorem kids_any (lo hi lo2 hi2 : Nat) (b : Option Addr) (m mc : Nat) (ps : List Pc) (a : Option Addr) (k ct : Nat) (TS : List Tx) (x0 x1 : Int) (ra : Option Addr) (q rc : Nat) (ks : List Int) (bt bh r : Tx) (w : World) (ha : PathIn lo hi w b ps) (hh : hi ≤ w.heap.size) (hn : ps.length = m) (hk : k ≤ m) (hT : FlIn 1 lo2 hi2 w a k (tC TS)) (hh2 : hi2 ≤ w.heap.size) (hrow : RowIn lo hi w ra ks) (hq : ks.length = q) (hql : q ≤ 1048576) (hko : kidsOk k ks = true) (hsz : ∀ z, z < k → (tat TS z).size ≤ 20) (hbt : bt = if x0 = 3 then barT else emT) (hbh : bh = behT x0) (hr : r = kidsT TS ps x0 ks) :
    Calls Try.prog 94 #[shwV b m mc a k ct, .agg #[.int .i64 x0, .int .u8 x1, .slice ra q rc], .string bt, .string bh] w fun e w' => e = .returned (.string r) ∧ Hid (Below w.heap.size w w') := by
  obtain ⟨B, HB⟩ : ∃ B, Hid (B = w.heap.size) := ⟨_, rfl⟩
  obtain ⟨W, HW⟩ : ∃ W, Hid (W = (w.alloc (.cells #[.slice b m mc, .slice a k ct] 118)).alloc (.cells #[.int .i64 x0, .int .u8 x1, .slice ra q rc] 120)) := ⟨_, rfl⟩
  have HBW : Hid (Below w.heap.size w W) := by rw [HW.out]; exact below2 w _ _
  have HSW : Hid (W.heap.size = B + 2) := by rw [HW.out, HB.out]; show _ = _; simp
  have HPB : Hid (Blk W B 2 (fun i => if i = 0 then .slice b m mc else .slice a k ct)) := by rw [HW.out]; exact (blk_two w B HB.out _ _ _).alloc _
  have HXB : Hid (Blk W (B + 1) 3 (fun i => if i = 0 then .int .i64 x0 else if i = 1 then .int .u8 x1 else .slice ra q rc)) := by rw [HW.out]; exact blk_three _ (B + 1) (by rw [HB.out]; simp) _ _ _ _
  have HPW : Hid (PathIn lo hi W b ps) := ha.below HBW.out hh
  have HRW : Hid (RowIn lo hi W ra ks) := hrow.below HBW.out hh
  have HTW : Hid (FlIn 1 lo2 hi2 W a k (tC TS)) := hT.below HBW.out hh2
  have HH : Hid (hi ≤ B ∧ hi2 ≤ B) := by rw [HB.out]; exact ⟨hh, hh2⟩
  have HN : Hid (ps.length = m) := hn
  have HQL : Hid (ks.length = q) := hq
  have HSZ : Hid (∀ z, z < k → (tat TS z).size ≤ 20) := hsz
  have HBT : Hid (bt = if x0 = 3 then barT else emT) := hbt
  have HBH : Hid (bh = behT x0) := hbh
  have hbts : bt.size ≤ 1 := by rw [hbt]; split; exact Nat.le_refl _; exact Nat.zero_le _
  have hbhs : bh.size ≤ 1 := by rw [hbh]; exact beh_le x0
  have HKO : Hid (∀ j, j < q → ∃ z : Nat, ks.getD j 0 = (z : Int) ∧ z < k) := fun j hj => by
    have h1 := List.all_eq_true.1 hko (ks.getD j 0) (by rw [List.getD, List.getElem?_eq_getElem (by rw [hq]; exact hj)]; exact List.getElem_mem _)
    simp only [Bool.and_eq_true, decide_eq_true_eq] at h1
    exact ⟨(ks.getD j 0).toNat, by omega, by omega⟩
  have HRR : Hid (r = match kT TS ps x0 ks q with | none => emT | some t => t ++ bh) := by show _ = _; rw [hr, HBH.out, ← hq]; rfl
  have HCX : Hid (∀ z, Below (B + 2) W z → (z.cell? ⟨B, 0, none⟩ = some (.slice b m mc) ∧ z.cell? ⟨B, 1, none⟩ = some (.slice a k ct)) ∧ (z.cell? ⟨B + 1, 0, none⟩ = some (.int .i64 x0) ∧ z.cell? ⟨B + 1, 2, none⟩ = some (.slice ra q rc))) := fun z h => by
    have h1 := HPB.out.of_block (h.block _ (by omega))
    have h2 := HXB.out.of_block (h.block _ (by omega))
    exact ⟨⟨h1.cell (i := 0) (by omega), h1.cell (i := 1) (by omega)⟩, h2.cell (i := 0) (by omega), h2.cell (i := 2) (by omega)⟩
  have HWZ : Hid (∀ z, Below (B + 2) W z → Below w.heap.size w z) := fun z h => HBW.out.trans (h.mono (by have := HB.out; omega))
  clear ha hh hn hT hh2 hrow hq hko hsz hbt hbh hr
  unfold shwV
  go_enter Try.func94, Try.ntmps94
  go_upto_region 1 with fail
  rw [← HB.out]
  first | rw [← HW.out] | (rw [show _ = W from HW.out.symm])
  clear HW HPB HXB
  obtain ⟨⟨c0, c1⟩, c2, c3⟩ := HCX.out W (Below.refl _ _)
  go_wp2
  go_loopw [15, 9] (fun i v wr => ∃ (j : Nat) (t : Tx), i = .int .i64 (j : Int) ∧ v = .string t ∧ j ≤ q ∧ Hid (kT TS ps x0 ks j = some t) ∧ Hid (Below (B + 2) W wr)) (fun i _ _ => q - (intOf i).toNat)
  case atStart => exact ⟨0, emT, rfl, rfl, by omega, rfl, Below.refl _ _⟩
  case round =>
    obtain ⟨j, t, rfl, rfl, hj, HKT, HBR⟩ := hrel
    clear c0 c1 c2 c3
    obtain ⟨⟨c0, c1⟩, c2, c3⟩ := HCX.out wr HBR.out
    have hts : t.size ≤ 20 := kT_le HKT.out
    by_cases hlt : j < q
    · have hlt1 : (j : Int) < (q : Int) := by omega
      have hlt0 : (0 : Int) ≤ (j : Int) := by omega
      obtain ⟨z, hz, hzk⟩ := HKO.out j hlt
      obtain ⟨rb, ro, rfl, hr⟩ := (HRW.out.below HBR.out (by have := HH.out; omega)).num (i := j) (by rw [HQL.out]; exact hlt)
      rw [hz] at hr
      obtain ⟨tb, tt, rfl, _, hth, hc⟩ := (HTW.out.below HBR.out (by have := HH.out; omega)).at hzk
      have t0 := hc 0 (by omega)
      rw [tC0] at t0
      simp only [Nat.add_zero, Nat.mul_one] at t0
      obtain ⟨v, HV⟩ : ∃ v, Hid (v = tat TS z) := ⟨_, rfl⟩
      rw [← HV.out] at t0
      obtain ⟨kt, HKK⟩ : ∃ s, Hid (s = kidT TS ps x0 (z : Int)) := ⟨_, rfl⟩
      have hkts : kt.size ≤ 22 := by rw [HKK.out]; exact kidT_le (by rw [show ((z : Int)).toNat = z by omega]; exact HSZ.out z hzk)
      have hz0 : (0 : Int) ≤ (z : Int) := by omega
      have hz1 : (z : Int) < (k : Int) := by omega
      have HSTEP : Hid (kT TS ps x0 ks (j + 1) = if v = emT ∨ 20 < ((if 0 < j then t ++ bt else t) ++ kt).size + bh.size then none else some ((if 0 < j then t ++ bt else t) ++ kt)) := by
        have h := kT_imp HKT.out HBT.out HBH.out
        rw [hz, show ((z : Int)).toNat = z by omega, ← HV.out, ← HKK.out] at h
        exact h
      have HCC : Hid (Calls Try.prog 105 #[.agg #[.slice b m mc, .slice (some ⟨tb, tt, none⟩) k ct], .int .i64 (z : Int), .int .i64 x0] wr fun e w' => e = .returned (.string kt) ∧ Hid (Below wr.heap.size wr w')) :=
        kid_any lo hi lo2 hi2 b m mc ps _ k ct TS z x0 kt wr (HPW.out.below HBR.out (by have := HH.out; omega)) (by have := HH.out; have := HBR.out.size; have := HSW.out; omega) HN.out hzk hk (HTW.out.below HBR.out (by have := HH.out; omega)) (by have := HH.out; have := HBR.out.size; have := HSW.out; omega) (HSZ.out z hzk) HKK.out
      have HTL : Hid (tb < wr.heap.size) := by have := HH.out; have := HBR.out.size; have := HSW.out; show _ < _; omega
      have HRN : Hid (kT TS ps x0 ks (j + 1) = none → r = emT) := fun h => by rw [HRR.out, kT_none h q (by omega)]
      clear hz hc hth
      by_cases hj9 : 0 < j
      · have hj9b : (j : Int) > 0 := by omega
        have HST2 : Hid (kT TS ps x0 ks (j + 1) = if v = emT ∨ 20 < ((t ++ bt) ++ kt).size + bh.size then none else some ((t ++ bt) ++ kt)) := by
          have h := HSTEP.out
          rw [if_pos hj9] at h
          exact h
        clear HSTEP
        obtain ⟨s, HS⟩ : ∃ s, Hid (s = t ++ bt) := ⟨_, rfl⟩
        rw [← HS.out] at HST2
        have hss : s.size ≤ 21 := by rw [HS.out, size_app]; omega
        have hov0 : ¬ (9223372036854775807 < t.size + bt.size) := by omega
        go_upto_region 7 with fail
        rw [show t ++ bt = s from HS.out.symm]
        obtain ⟨u, HUU⟩ : ∃ u, Hid (u = s ++ kt) := ⟨_, rfl⟩
        have hus : u.size ≤ 43 := by rw [HUU.out, size_app]; omega
        have hovA : ¬ (9223372036854775807 < s.size + kt.size) := by omega
        go_upto_region 8 with (go_at_call 105; refine (HCC.out).mono ?_; rintro e w4 ⟨rfl, HB4⟩)
        rw [show s ++ kt = u from HUU.out.symm]
        rw [← HUU.out] at HST2
        have HBR4 : Hid (Below (B + 2) W w4) := HBR.out.trans (HB4.out.mono (by have := HBR.out.size; have := HSW.out; omega))
        have d4 := cell_below t0 HB4.out HTL.out
        clear c0 c1 c2 c3 t0 hr
        obtain ⟨⟨c0, c1⟩, c2, c3⟩ := HCX.out w4 HBR4.out
        by_cases he : v = emT
        · have hemb : (v.toList == ([] : List UInt8)) = true := by rw [he]; exact emb_em
          have HE : Hid (r = emT) := HRN.out (by rw [HST2.out, if_pos (.inl he)])
          clear he
          go_wp2
          go_ret
          exact ⟨by rw [HE.out]; rfl, HWZ.out _ HBR4.out⟩
        · have hemb := emb_no he
          have HNE : Hid (¬ v = emT) := he
          clear he
          have hw2 : IntKind.i64.wrap ((u.size : Int) + (bh.size : Int)) = (u.size : Int) + (bh.size : Int) := by simp [IntKind.wrap, IntKind.bits, IntKind.signed]; omega
          by_cases h20 : 20 < u.size + bh.size
          · have h20' : (u.size : Int) + (bh.size : Int) > 20 := by omega
            have HE : Hid (r = emT) := HRN.out (by rw [HST2.out, if_pos (.inr h20)])
            go_wp2
            go_ret
            exact ⟨by rw [HE.out]; rfl, HWZ.out _ HBR4.out⟩
          · have h20' : ¬ (u.size : Int) + (bh.size : Int) > 20 := by omega
            have HK2 : Hid (kT TS ps x0 ks (j + 1) = some u) := by show _ = _; rw [HST2.out, if_neg (by rintro (h | h); exact HNE.out h; exact h20 h)]
            go_wp2
            go_roundw
            case rel => exact ⟨j + 1, u, by go_num, rfl, by omega, HK2, HBR4⟩
            case measure => simp [intOf]; omega
      · have hj9b : ¬ (j : Int) > 0 := by omega
        have HST2 : Hid (kT TS ps x0 ks (j + 1) = if v = emT ∨ 20 < (t ++ kt).size + bh.size then none else some (t ++ kt)) := by
          have h := HSTEP.out
          rw [if_neg hj9] at h
          exact h
        clear HSTEP
        obtain ⟨s, HS⟩ : ∃ s, Hid (s = t) := ⟨_, rfl⟩
        rw [← HS.out] at HST2
        have hss : s.size ≤ 21 := by rw [HS.out]; omega
        go_upto_region 7 with fail
        obtain rfl : s = t := HS.out
        obtain ⟨u, HUU⟩ : ∃ u, Hid (u = s ++ kt) := ⟨_, rfl⟩
        have hus : u.size ≤ 43 := by rw [HUU.out, size_app]; omega
        have hovA : ¬ (9223372036854775807 < s.size + kt.size) := by omega
        go_upto_region 8 with (go_at_call 105; refine (HCC.out).mono ?_; rintro e w4 ⟨rfl, HB4⟩)
        rw [show s ++ kt = u from HUU.out.symm]
        rw [← HUU.out] at HST2
        have HBR4 : Hid (Below (B + 2) W w4) := HBR.out.trans (HB4.out.mono (by have := HBR.out.size; have := HSW.out; omega))
        have d4 := cell_below t0 HB4.out HTL.out
        clear c0 c1 c2 c3 t0 hr
        obtain ⟨⟨c0, c1⟩, c2, c3⟩ := HCX.out w4 HBR4.out
        by_cases he : v = emT
        · have hemb : (v.toList == ([] : List UInt8)) = true := by rw [he]; exact emb_em
          have HE : Hid (r = emT) := HRN.out (by rw [HST2.out, if_pos (.inl he)])
          clear he
          go_wp2
          go_ret
          exact ⟨by rw [HE.out]; rfl, HWZ.out _ HBR4.out⟩
        · have hemb := emb_no he
          have HNE : Hid (¬ v = emT) := he
          clear he
          have hw2 : IntKind.i64.wrap ((u.size : Int) + (bh.size : Int)) = (u.size : Int) + (bh.size : Int) := by simp [IntKind.wrap, IntKind.bits, IntKind.signed]; omega
          by_cases h20 : 20 < u.size + bh.size
          · have h20' : (u.size : Int) + (bh.size : Int) > 20 := by omega
            have HE : Hid (r = emT) := HRN.out (by rw [HST2.out, if_pos (.inr h20)])
            go_wp2
            go_ret
            exact ⟨by rw [HE.out]; rfl, HWZ.out _ HBR4.out⟩
          · have h20' : ¬ (u.size : Int) + (bh.size : Int) > 20 := by omega
            have HK2 : Hid (kT TS ps x0 ks (j + 1) = some u) := by show _ = _; rw [HST2.out, if_neg (by rintro (h | h); exact HNE.out h; exact h20 h)]
            go_wp2
            go_roundw
            case rel => exact ⟨j + 1, u, by go_num, rfl, by omega, HK2, HBR4⟩
            case measure => simp [intOf]; omega
    · obtain rfl : j = q := by omega
      have HE : Hid (r = t ++ bh) := by show _ = _; rw [HRR.out, HKT.out]
      have hov0 : ¬ (9223372036854775807 < t.size + bh.size) := by omega
      go_wp2
      go_ret
      exact ⟨by rw [HE.out]; rfl, HWZ.out _ HBR.out⟩
end Go.Proofs.Ytkcflhlipdnbnaa
