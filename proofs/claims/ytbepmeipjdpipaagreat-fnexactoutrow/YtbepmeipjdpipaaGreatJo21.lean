import Derived.Test.YtbepmeipjdpipaaGreatJo19
import Derived.Shelf.SlSortCmp.WholeK
import Derived.Test.YtbepmeipjdpipaaGreatProg
import Derived.Shelf.SlSortCmp.NoneTotal
import Derived.Test.YtbepmeipjdpipaaGreatJo05
import Derived.Test.YtbepmeipjdpipaaGreatJo20
namespace Go.Proofs.YtbepmeipjdpipaaGreat
open Go.RowKit
set_option maxHeartbeats 2000000 in
set_option maxRecDepth 100000 in
theorem seat_plus (lo hi M H sg m sc : Nat) (xs : List Value) (ps : List Pc) (n z : Nat) (lv : Value) (t : SeS) (w : World) (hx : ShM lo hi sg m xs ps w) (hhi : hi ≤ H) (hsg : sg < H) (hHM : H ≤ M) (hn : ps.length = m) (hz : z < m) (hop : (pat ps z).1 = 5) (hok : ∀ i, i < ps.length → formOk (pat ps i) = true ∧ kidsOk i (pat ps i).2.2 = true) (hq : (pat ps z).2.2.length ≤ 1048576) (hm : Sg M H w (.slice (some ⟨sg, 0, none⟩) m sc) lv t) (hcnt : t.lb.length + cntK ps (n + 1) z ≤ 23)
  (ih : ∀ k, k < z → ∀ (t' : SeS) (lv' : Value) (w' : World), ShM lo hi sg m xs ps w' → Sg M H w' (.slice (some ⟨sg, 0, none⟩) m sc) lv' t' → t'.lb.length + cntK ps n k ≤ 23 → Calls Tryz.prog 66 #[.pointer (some ⟨M, 0, none⟩), .int .i64 (k : Int)] w' (SeatPost M H w' (.slice (some ⟨sg, 0, none⟩) m sc) lv' (seatB ps n k t'))) :
  Calls Tryz.prog 66 #[.pointer (some ⟨M, 0, none⟩), .int .i64 (z : Int)] w (SeatPost M H w (.slice (some ⟨sg, 0, none⟩) m sc) lv (seatB ps (n + 1) z t)) := by
 have HN : Hid (ps.length = m ∧ z < m ∧ hi ≤ H ∧ sg < H ∧ H ≤ M) := ⟨hn, hz, hhi, hsg, hHM⟩
 have HIH : Hid (∀ k, k < z → ∀ (t' : SeS) (lv' : Value) (w' : World), ShM lo hi sg m xs ps w' → Sg M H w' (.slice (some ⟨sg, 0, none⟩) m sc) lv' t' → t'.lb.length + cntK ps n k ≤ 23 → Calls Tryz.prog 66 #[.pointer (some ⟨M, 0, none⟩), .int .i64 (k : Int)] w' (SeatPost M H w' (.slice (some ⟨sg, 0, none⟩) m sc) lv' (seatB ps n k t'))) := ih
 obtain ⟨r, HRR⟩ : ∃ r, Hid (r = seatB ps (n + 1) z t) := ⟨_, rfl⟩
 have hru := HRR.out
 rw [← HRR.out]
 have hkz := (hok z (by omega)).2
 have hfz := (hok z (by omega)).1
 obtain ⟨ra, rc, hxv, hrow⟩ := hx.1.2 z hz
 have hcell := hx.2.1 z hz
 rw [hxv] at hcell
 obtain ⟨x, HX⟩ : ∃ x, Hid (x = pat ps z) := ⟨_, rfl⟩
 unfold seatB at hru
 unfold cntK at hcnt
 rw [← HX.out] at hop hcell hrow hq hkz hfz hru hcnt
 obtain ⟨x0, x1, ks⟩ := x
 dsimp only at hop hcell hrow hq hkz hfz hru hcnt
 subst hop
 rw [if_neg (by omega)] at hru hcnt
 have HKR : Hid (kidsB (seatB ps n) 5 ks t ⟨noneB, noneB, decide ((5 : Int) = 2)⟩ = r) := hru.symm
 have HCN : Hid (t.lb.length + cntL (cntK ps n) ks ≤ 23) := hcnt
 obtain ⟨q, HQL⟩ : ∃ q, Hid (ks.length = q) := ⟨_, rfl⟩
 have HKO : Hid (∀ j, j < q → ∃ u : Nat, ks.getD j 0 = (u : Int) ∧ u < z) := fun j hj => by
  have h1 := List.all_eq_true.1 hkz (ks.getD j 0) (by rw [List.getD, List.getElem?_eq_getElem (by rw [HQL.out]; exact hj)]; exact List.getElem_mem _)
  simp only [Bool.and_eq_true, decide_eq_true_eq] at h1
  exact ⟨(ks.getD j 0).toNat, by omega, by omega⟩
 rw [HQL.out] at hq
 have hql := HQL.out
 have hq1 : q = 1 := by rcases formOk_cases hfz with ⟨e, _⟩ | ⟨e, _⟩ | ⟨e, _⟩ | ⟨e, _, h⟩ | ⟨e, _, h⟩ | ⟨e, _, h⟩ <;> omega
 subst hq1
 obtain ⟨u, hu, huz⟩ := HKO.out 0 (by omega)
 have HKN : Hid (ks = [(u : Int)]) := one_row HQL.out hu.symm
 have hv : shv ra rc (5, x1, ks) = .iface 155 (.agg #[.int .i64 (u : Int)]) := by rw [← hu]; rfl
 rw [hv] at hcell
 obtain ⟨R, HR⟩ : ∃ R, Hid (R = w.heap.size) := ⟨_, rfl⟩
 obtain ⟨V, HV⟩ : ∃ W, Hid (W = ((w.alloc (.cells #[.bool false, .bool false, .bool false, .bool false, .bool false, .bool false, .bool false, .bool false, .bool false, .bool false, .bool false, .bool false, .bool false, .bool false, .bool false, .bool false, .bool false, .bool false, .bool false, .bool false, .bool false, .bool false, .bool false, .bool false, .bool false, .bool false, .bool false, .bool false, .bool false, .bool false, .bool false, .bool false, .bool false, .bool false, .bool false, .bool false, .bool false, .bool false, .bool false, .bool false, .bool false, .bool false, .bool false, .bool false, .bool false, .bool false, .bool false, .bool false, .bool false] 121)).alloc (.cells #[.bool false, .bool false, .bool false, .bool false, .bool false, .bool false, .bool false, .bool false, .bool false, .bool false, .bool false, .bool false, .bool false, .bool false, .bool false, .bool false, .bool false, .bool false, .bool false, .bool false, .bool false, .bool false, .bool false, .bool false, .bool false, .bool false, .bool false, .bool false, .bool false, .bool false, .bool false, .bool false, .bool false, .bool false, .bool false, .bool false, .bool false, .bool false, .bool false, .bool false, .bool false, .bool false, .bool false, .bool false, .bool false, .bool false, .bool false, .bool false, .bool false] 121)).setCells (R + 1) 0 (bcells 49 noB)) := ⟨_, rfl⟩
 have HT : Hid (((w.alloc (.cells #[.bool false, .bool false, .bool false, .bool false, .bool false, .bool false, .bool false, .bool false, .bool false, .bool false, .bool false, .bool false, .bool false, .bool false, .bool false, .bool false, .bool false, .bool false, .bool false, .bool false, .bool false, .bool false, .bool false, .bool false, .bool false, .bool false, .bool false, .bool false, .bool false, .bool false, .bool false, .bool false, .bool false, .bool false, .bool false, .bool false, .bool false, .bool false, .bool false, .bool false, .bool false, .bool false, .bool false, .bool false, .bool false, .bool false, .bool false, .bool false, .bool false] 121)).alloc (.cells #[.bool false, .bool false, .bool false, .bool false, .bool false, .bool false, .bool false, .bool false, .bool false, .bool false, .bool false, .bool false, .bool false, .bool false, .bool false, .bool false, .bool false, .bool false, .bool false, .bool false, .bool false, .bool false, .bool false, .bool false, .bool false, .bool false, .bool false, .bool false, .bool false, .bool false, .bool false, .bool false, .bool false, .bool false, .bool false, .bool false, .bool false, .bool false, .bool false, .bool false, .bool false, .bool false, .bool false, .bool false, .bool false, .bool false, .bool false, .bool false, .bool false] 121)).there (w.heap.size + 1) 0 49) := (BBlk.zero49 _ (w.heap.size + 1) (by simp) _).there 0 49 (by omega)
 have HBV : Hid (Below w.heap.size w V) := by rw [HV.out]; exact Below.setCells (by have := HR.out; omega) _ _ (below2 w _ _)
 have HRV : Hid (BBlk V R 49 noB) := by rw [HV.out]; exact BBlk.of (Blk.alloc (BBlk.zero49 w R HR.out _) _) (block_setCells (by omega) _ _ _)
 have HAV : Hid (BBlk V (R + 1) 49 noB) := by rw [HV.out]; exact (BBlk.zero49 _ (R + 1) (by rw [HR.out]; simp) _).put _
 have HSV : Hid (V.heap.size = R + 2) := by rw [HV.out]; show _ = _; rw [size_setCells, HR.out]; simp
 obtain ⟨W, HW⟩ : ∃ W, Hid (W = V.alloc (.cells #[.int .i64 (u : Int)] 155)) := ⟨_, rfl⟩
 have HBW : Hid (Below V.heap.size V W) := by rw [HW.out]; exact below1 V _
 have HPW : Hid (Blk W (R + 1 + 1) 1 (fun _ => .int .i64 (u : Int))) := by rw [HW.out]; exact blk_one V (R + 1 + 1) (by rw [HSV.out]) _ _
 have HMR : Hid (M < R) := by rw [HR.out]; exact hm.blk.lt
 have HBE : Hid (Below w.heap.size w W) := HBV.out.trans (HBW.out.mono HBV.out.size)
 have HSD0 : Hid (Sd M H R lo hi sg m xs ps w (.slice (some ⟨sg, 0, none⟩) m sc) lv (.int .i64 (u : Int)) W t ⟨noneB, noneB, false⟩ lv) :=
  { hR := HR.out
    MR := HMR.out
    sgo := ⟨hm.blk.of_block (HBE.out.block _ hm.blk.lt), own_below hm.lab HBE.out, hm.off⟩
    shm := hx.kept (kp_below HBE.out) (fun k hk e => by have := hx.2.2.2; omega) (by have := hx.2.2.1; omega)
    res := HRV.out.of (HBW.out.block _ HRV.out.lt)
    all := by rw [stF_zero]; exact HAV.out.of (HBW.out.block _ HAV.out.lt)
    box := HPW.out
    l0 := fun b e => by have h1 := hm.lab.lt b e; rw [HR.out]; exact h1
    kp := KeptP.of_below HBE.out (fun _ h _ => h)
    nb := .inl rfl }
 have hz0 : (0 : Int) ≤ (z : Int) := by omega
 have hz1 : (z : Int) < (m : Int) := by omega
 have hzc : ∀ w, (Instr.build 121 #[]).run Tryz.prog w = .ok (.agg (bcells 49 noB).toArray) w := build_st0
 have c0 : V.cell? ⟨M, 0, none⟩ = some (.slice (some ⟨sg, 0, none⟩) m sc) := cell_below (hm.blk.cell (i := 0) (by omega)) HBV.out hm.blk.lt
 have c1 := cell_below hcell HBV.out hx.2.2.1
 have HHX : Hid (hi ≤ w.heap.size) := hx.2.2.2
 clear hx hcell hrow hm hru hcnt hkz hfz hok ih hxv hv hn hz HRR HX
 go_enter Tryz.func66, Tryz.ntmps66
 obtain ⟨FF, HFF⟩ : ∃ F : Func, Hid (F = Tryz.f66) := ⟨_, rfl⟩
 rw [← HFF.out]
 go_upto_region 2 with (first | (with_reducible refine wpList_here' ?_; first | (refine wpList_build rfl 121 _ rfl #[] (by kernel_rfl) (bcells 49 noB).toArray hzc ?_) | (refine wpList_store_mid rfl 121 _ _ rfl (w.heap.size + 1) 0 (bcells 49 noB).toArray rfl rfl (by rw [bcells_size]; exact HT.out) (by rw [bcells_size]; exact info_st) (bcells_one _ _) ?_; dsimp only [Act.put])))
 rw [← HR.out]
 first | rw [← HV.out] | (rw [show _ = V from HV.out.symm])
 clear hzc
 have ta_step := sta_plus_step
 have ta_row := sta_plus_row
 have ta_alt := sta_plus_alt
 have ta_star := sta_plus_star
 have ta_plus := sta_plus_plus
 go_upto_region 27 with fail
 first | rw [show V.heap.size = R + 1 + 1 from HSV.out] | skip
 first | rw [← HW.out] | (rw [show _ = W from HW.out.symm])
 clear HW HV HT HRV HAV HSV HBW HPW HBV HBE c0 c1 ta_step ta_row ta_alt ta_star ta_plus
 have p0 : W.cell? ⟨R + 1 + 1, 0, none⟩ = some (.int .i64 (u : Int)) := HSD0.out.box.cell (i := 0) (by omega)
 obtain ⟨y1, HY1⟩ : ∃ y, Hid (y = (seatB ps n u t).1) := ⟨_, rfl⟩
 obtain ⟨y2, HY2⟩ : ∃ y, Hid (y = (seatB ps n u t).2) := ⟨_, rfl⟩
 have HIU := Hid_mk (HIH.out u huz t lv W HSD0.out.shm HSD0.out.sgo (by have h := HCN.out; rw [HKN.out] at h; simpa [cntL] using h))
 rw [show seatB ps n u t = (y1, y2) by rw [HY1.out, HY2.out]] at HIU
 have HRE : Hid (r = stepB 5 y1 ⟨noneB, noneB, false⟩ y2) := by
  have h := HKR.out
  rw [HKN.out] at h
  show r = _
  rw [← h, HY1.out, HY2.out]
  simp [kidsB]
 clear HY1 HY2 HKR
 obtain ⟨YF, YG, ynl⟩ := y2
 go_upto_region 32 with (first | (go_at_call 66; refine HIU.out.mono ?_; rintro e w2 ⟨lv2, rfl, HSG, HK, HNB⟩; have HS2 := Hid_mk (HSD0.out.kid HSG.out HK.out HNB.out HN.out.2.2.1 HN.out.2.2.2.1 HN.out.2.2.2.2)) | (go_at_call 82; refine (sagain_any M _ lv2 y1.bh ynl YF YG w2 HS2.out.sgo.blk).mono ?_; rintro e w5 ⟨rfl, HM5, HK5⟩; have HS5 := Hid_mk (HS2.out.behind HM5.out HK5.out HN.out.2.2.1 HN.out.2.2.2.1 HN.out.2.2.2.2)) | (with_reducible refine wpList_here' ?_; first | (refine wpList_store_mid rfl 121 _ _ rfl (R + 1) 0 (bcells 49 (stF ynl YF YG)).toArray rfl rfl (by rw [bcells_size]; exact HS5.out.all.there 0 49 (by omega)) (by rw [bcells_size]; exact info_st) (bcells_one _ _) ?_; dsimp only [Act.put])))
 have HKA : Hid (KeptP (fun c => c = R + 1) w5 (w5.setCells (R + 1) 0 (bcells 49 (stF ynl YF YG)))) := KeptP.setCells (p := fun c => c = R + 1) (g := R + 1) rfl _ _ (kp_refl _ _)
 have HS6 := Hid_mk (HS5.out.put (c' := ⟨YF, YG, ynl⟩) HKA.out (HS5.out.all.put _) HN.out.2.2.1 HN.out.2.2.2.1 HN.out.2.2.2.2)
 obtain ⟨w6, HW6⟩ : ∃ x, Hid (x = w5.setCells (R + 1) 0 (bcells 49 (stF ynl YF YG))) := ⟨_, rfl⟩
 rw [← HW6.out] at HS6
 first | rw [← HW6.out] | (rw [show _ = w6 from HW6.out.symm])
 clear HW6 p0 HSG HK HNB HSD0 HKA HS2 HS5 HM5 HK5
 have HS8 := HS6
 have HRF2 : Hid (r = ({ y1 with bh := followB y1.bh YG YF }, ⟨YF, YG, ynl⟩)) := by show r = _; rw [HRE.out]; simp [stepB]
 go_wp2_with (first | (with_reducible refine wpList_here' ?_; first | (refine wpList_load_mid rfl 121 _ rfl (R + 1) 0 rfl (bcells 49 (stF ynl YF YG)) _ HS8.out.all.all Tryz.underlying121 rfl (by rw [bcells_len]; exact info_st) ?_) | (refine wpList_store_mid rfl 121 _ _ rfl R 0 (bcells 49 (stF ynl YF YG)).toArray rfl rfl (by rw [bcells_size]; exact HS8.out.res.there 0 49 (by omega)) (by rw [bcells_size]; exact info_st) (bcells_one _ _) ?_; dsimp only [Act.put])))
 obtain rfl : FF = Tryz.f66 := HFF.out
 have HRF := Hid_mk (HS8.out.res.put (stF ynl YF YG))
 refine bodyPost_ret (results_row (k := 4) (t := 121) (b := R) Tryz.results66 rfl (load_st HRF.out)) rfl ?_
 rw [HRF2.out]
 exact HS8.out.fin
end Go.Proofs.YtbepmeipjdpipaaGreat

namespace Go.Proofs.YtbepmeipjdpipaaGreat
open Go.RowKit
set_option maxHeartbeats 2000000 in
set_option maxRecDepth 100000 in
theorem seat_opt (lo hi M H sg m sc : Nat) (xs : List Value) (ps : List Pc) (n z : Nat) (lv : Value) (t : SeS) (w : World) (hx : ShM lo hi sg m xs ps w) (hhi : hi ≤ H) (hsg : sg < H) (hHM : H ≤ M) (hn : ps.length = m) (hz : z < m) (hop : (pat ps z).1 = 6) (hok : ∀ i, i < ps.length → formOk (pat ps i) = true ∧ kidsOk i (pat ps i).2.2 = true) (hq : (pat ps z).2.2.length ≤ 1048576) (hm : Sg M H w (.slice (some ⟨sg, 0, none⟩) m sc) lv t) (hcnt : t.lb.length + cntK ps (n + 1) z ≤ 23)
  (ih : ∀ k, k < z → ∀ (t' : SeS) (lv' : Value) (w' : World), ShM lo hi sg m xs ps w' → Sg M H w' (.slice (some ⟨sg, 0, none⟩) m sc) lv' t' → t'.lb.length + cntK ps n k ≤ 23 → Calls Tryz.prog 66 #[.pointer (some ⟨M, 0, none⟩), .int .i64 (k : Int)] w' (SeatPost M H w' (.slice (some ⟨sg, 0, none⟩) m sc) lv' (seatB ps n k t'))) :
  Calls Tryz.prog 66 #[.pointer (some ⟨M, 0, none⟩), .int .i64 (z : Int)] w (SeatPost M H w (.slice (some ⟨sg, 0, none⟩) m sc) lv (seatB ps (n + 1) z t)) := by
 have HN : Hid (ps.length = m ∧ z < m ∧ hi ≤ H ∧ sg < H ∧ H ≤ M) := ⟨hn, hz, hhi, hsg, hHM⟩
 have HIH : Hid (∀ k, k < z → ∀ (t' : SeS) (lv' : Value) (w' : World), ShM lo hi sg m xs ps w' → Sg M H w' (.slice (some ⟨sg, 0, none⟩) m sc) lv' t' → t'.lb.length + cntK ps n k ≤ 23 → Calls Tryz.prog 66 #[.pointer (some ⟨M, 0, none⟩), .int .i64 (k : Int)] w' (SeatPost M H w' (.slice (some ⟨sg, 0, none⟩) m sc) lv' (seatB ps n k t'))) := ih
 obtain ⟨r, HRR⟩ : ∃ r, Hid (r = seatB ps (n + 1) z t) := ⟨_, rfl⟩
 have hru := HRR.out
 rw [← HRR.out]
 have hkz := (hok z (by omega)).2
 have hfz := (hok z (by omega)).1
 obtain ⟨ra, rc, hxv, hrow⟩ := hx.1.2 z hz
 have hcell := hx.2.1 z hz
 rw [hxv] at hcell
 obtain ⟨x, HX⟩ : ∃ x, Hid (x = pat ps z) := ⟨_, rfl⟩
 unfold seatB at hru
 unfold cntK at hcnt
 rw [← HX.out] at hop hcell hrow hq hkz hfz hru hcnt
 obtain ⟨x0, x1, ks⟩ := x
 dsimp only at hop hcell hrow hq hkz hfz hru hcnt
 subst hop
 rw [if_neg (by omega)] at hru hcnt
 have HKR : Hid (kidsB (seatB ps n) 6 ks t ⟨noneB, noneB, decide ((6 : Int) = 2)⟩ = r) := hru.symm
 have HCN : Hid (t.lb.length + cntL (cntK ps n) ks ≤ 23) := hcnt
 obtain ⟨q, HQL⟩ : ∃ q, Hid (ks.length = q) := ⟨_, rfl⟩
 have HKO : Hid (∀ j, j < q → ∃ u : Nat, ks.getD j 0 = (u : Int) ∧ u < z) := fun j hj => by
  have h1 := List.all_eq_true.1 hkz (ks.getD j 0) (by rw [List.getD, List.getElem?_eq_getElem (by rw [HQL.out]; exact hj)]; exact List.getElem_mem _)
  simp only [Bool.and_eq_true, decide_eq_true_eq] at h1
  exact ⟨(ks.getD j 0).toNat, by omega, by omega⟩
 rw [HQL.out] at hq
 have hql := HQL.out
 have hq1 : q = 1 := by rcases formOk_cases hfz with ⟨e, _⟩ | ⟨e, _⟩ | ⟨e, _⟩ | ⟨e, _, h⟩ | ⟨e, _, h⟩ | ⟨e, _, h⟩ <;> omega
 subst hq1
 obtain ⟨u, hu, huz⟩ := HKO.out 0 (by omega)
 have HKN : Hid (ks = [(u : Int)]) := one_row HQL.out hu.symm
 have hv : shv ra rc (6, x1, ks) = .iface 156 (.agg #[.int .i64 (u : Int)]) := by rw [← hu]; rfl
 rw [hv] at hcell
 obtain ⟨R, HR⟩ : ∃ R, Hid (R = w.heap.size) := ⟨_, rfl⟩
 obtain ⟨V, HV⟩ : ∃ W, Hid (W = ((w.alloc (.cells #[.bool false, .bool false, .bool false, .bool false, .bool false, .bool false, .bool false, .bool false, .bool false, .bool false, .bool false, .bool false, .bool false, .bool false, .bool false, .bool false, .bool false, .bool false, .bool false, .bool false, .bool false, .bool false, .bool false, .bool false, .bool false, .bool false, .bool false, .bool false, .bool false, .bool false, .bool false, .bool false, .bool false, .bool false, .bool false, .bool false, .bool false, .bool false, .bool false, .bool false, .bool false, .bool false, .bool false, .bool false, .bool false, .bool false, .bool false, .bool false, .bool false] 121)).alloc (.cells #[.bool false, .bool false, .bool false, .bool false, .bool false, .bool false, .bool false, .bool false, .bool false, .bool false, .bool false, .bool false, .bool false, .bool false, .bool false, .bool false, .bool false, .bool false, .bool false, .bool false, .bool false, .bool false, .bool false, .bool false, .bool false, .bool false, .bool false, .bool false, .bool false, .bool false, .bool false, .bool false, .bool false, .bool false, .bool false, .bool false, .bool false, .bool false, .bool false, .bool false, .bool false, .bool false, .bool false, .bool false, .bool false, .bool false, .bool false, .bool false, .bool false] 121)).setCells (R + 1) 0 (bcells 49 noB)) := ⟨_, rfl⟩
 have HT : Hid (((w.alloc (.cells #[.bool false, .bool false, .bool false, .bool false, .bool false, .bool false, .bool false, .bool false, .bool false, .bool false, .bool false, .bool false, .bool false, .bool false, .bool false, .bool false, .bool false, .bool false, .bool false, .bool false, .bool false, .bool false, .bool false, .bool false, .bool false, .bool false, .bool false, .bool false, .bool false, .bool false, .bool false, .bool false, .bool false, .bool false, .bool false, .bool false, .bool false, .bool false, .bool false, .bool false, .bool false, .bool false, .bool false, .bool false, .bool false, .bool false, .bool false, .bool false, .bool false] 121)).alloc (.cells #[.bool false, .bool false, .bool false, .bool false, .bool false, .bool false, .bool false, .bool false, .bool false, .bool false, .bool false, .bool false, .bool false, .bool false, .bool false, .bool false, .bool false, .bool false, .bool false, .bool false, .bool false, .bool false, .bool false, .bool false, .bool false, .bool false, .bool false, .bool false, .bool false, .bool false, .bool false, .bool false, .bool false, .bool false, .bool false, .bool false, .bool false, .bool false, .bool false, .bool false, .bool false, .bool false, .bool false, .bool false, .bool false, .bool false, .bool false, .bool false, .bool false] 121)).there (w.heap.size + 1) 0 49) := (BBlk.zero49 _ (w.heap.size + 1) (by simp) _).there 0 49 (by omega)
 have HBV : Hid (Below w.heap.size w V) := by rw [HV.out]; exact Below.setCells (by have := HR.out; omega) _ _ (below2 w _ _)
 have HRV : Hid (BBlk V R 49 noB) := by rw [HV.out]; exact BBlk.of (Blk.alloc (BBlk.zero49 w R HR.out _) _) (block_setCells (by omega) _ _ _)
 have HAV : Hid (BBlk V (R + 1) 49 noB) := by rw [HV.out]; exact (BBlk.zero49 _ (R + 1) (by rw [HR.out]; simp) _).put _
 have HSV : Hid (V.heap.size = R + 2) := by rw [HV.out]; show _ = _; rw [size_setCells, HR.out]; simp
 obtain ⟨W, HW⟩ : ∃ W, Hid (W = V.alloc (.cells #[.int .i64 (u : Int)] 156)) := ⟨_, rfl⟩
 have HBW : Hid (Below V.heap.size V W) := by rw [HW.out]; exact below1 V _
 have HPW : Hid (Blk W (R + 1 + 1) 1 (fun _ => .int .i64 (u : Int))) := by rw [HW.out]; exact blk_one V (R + 1 + 1) (by rw [HSV.out]) _ _
 have HMR : Hid (M < R) := by rw [HR.out]; exact hm.blk.lt
 have HBE : Hid (Below w.heap.size w W) := HBV.out.trans (HBW.out.mono HBV.out.size)
 have HSD0 : Hid (Sd M H R lo hi sg m xs ps w (.slice (some ⟨sg, 0, none⟩) m sc) lv (.int .i64 (u : Int)) W t ⟨noneB, noneB, false⟩ lv) :=
  { hR := HR.out
    MR := HMR.out
    sgo := ⟨hm.blk.of_block (HBE.out.block _ hm.blk.lt), own_below hm.lab HBE.out, hm.off⟩
    shm := hx.kept (kp_below HBE.out) (fun k hk e => by have := hx.2.2.2; omega) (by have := hx.2.2.1; omega)
    res := HRV.out.of (HBW.out.block _ HRV.out.lt)
    all := by rw [stF_zero]; exact HAV.out.of (HBW.out.block _ HAV.out.lt)
    box := HPW.out
    l0 := fun b e => by have h1 := hm.lab.lt b e; rw [HR.out]; exact h1
    kp := KeptP.of_below HBE.out (fun _ h _ => h)
    nb := .inl rfl }
 have hz0 : (0 : Int) ≤ (z : Int) := by omega
 have hz1 : (z : Int) < (m : Int) := by omega
 have hzc : ∀ w, (Instr.build 121 #[]).run Tryz.prog w = .ok (.agg (bcells 49 noB).toArray) w := build_st0
 have c0 : V.cell? ⟨M, 0, none⟩ = some (.slice (some ⟨sg, 0, none⟩) m sc) := cell_below (hm.blk.cell (i := 0) (by omega)) HBV.out hm.blk.lt
 have c1 := cell_below hcell HBV.out hx.2.2.1
 have HHX : Hid (hi ≤ w.heap.size) := hx.2.2.2
 clear hx hcell hrow hm hru hcnt hkz hfz hok ih hxv hv hn hz HRR HX
 go_enter Tryz.func66, Tryz.ntmps66
 obtain ⟨FF, HFF⟩ : ∃ F : Func, Hid (F = Tryz.f66) := ⟨_, rfl⟩
 rw [← HFF.out]
 go_upto_region 2 with (first | (with_reducible refine wpList_here' ?_; first | (refine wpList_build rfl 121 _ rfl #[] (by kernel_rfl) (bcells 49 noB).toArray hzc ?_) | (refine wpList_store_mid rfl 121 _ _ rfl (w.heap.size + 1) 0 (bcells 49 noB).toArray rfl rfl (by rw [bcells_size]; exact HT.out) (by rw [bcells_size]; exact info_st) (bcells_one _ _) ?_; dsimp only [Act.put])))
 rw [← HR.out]
 first | rw [← HV.out] | (rw [show _ = V from HV.out.symm])
 clear hzc
 have ta_step := sta_opt_step
 have ta_row := sta_opt_row
 have ta_alt := sta_opt_alt
 have ta_star := sta_opt_star
 have ta_plus := sta_opt_plus
 have ta_opt := sta_opt_opt
 go_upto_region 30 with fail
 first | rw [show V.heap.size = R + 1 + 1 from HSV.out] | skip
 first | rw [← HW.out] | (rw [show _ = W from HW.out.symm])
 clear HW HV HT HRV HAV HSV HBW HPW HBV HBE c0 c1 ta_step ta_row ta_alt ta_star ta_plus ta_opt
 have p0 : W.cell? ⟨R + 1 + 1, 0, none⟩ = some (.int .i64 (u : Int)) := HSD0.out.box.cell (i := 0) (by omega)
 obtain ⟨y1, HY1⟩ : ∃ y, Hid (y = (seatB ps n u t).1) := ⟨_, rfl⟩
 obtain ⟨y2, HY2⟩ : ∃ y, Hid (y = (seatB ps n u t).2) := ⟨_, rfl⟩
 have HIU := Hid_mk (HIH.out u huz t lv W HSD0.out.shm HSD0.out.sgo (by have h := HCN.out; rw [HKN.out] at h; simpa [cntL] using h))
 rw [show seatB ps n u t = (y1, y2) by rw [HY1.out, HY2.out]] at HIU
 have HRE : Hid (r = stepB 6 y1 ⟨noneB, noneB, false⟩ y2) := by
  have h := HKR.out
  rw [HKN.out] at h
  show r = _
  rw [← h, HY1.out, HY2.out]
  simp [kidsB]
 clear HY1 HY2 HKR
 obtain ⟨YF, YG, ynl⟩ := y2
 go_upto_region 31 with (first | (go_at_call 66; refine HIU.out.mono ?_; rintro e w2 ⟨lv2, rfl, HSG, HK, HNB⟩; have HS2 := Hid_mk (HSD0.out.kid HSG.out HK.out HNB.out HN.out.2.2.1 HN.out.2.2.2.1 HN.out.2.2.2.2)) | (with_reducible refine wpList_here' ?_; first | (refine wpList_store_mid rfl 121 _ _ rfl (R + 1) 0 (bcells 49 (stF ynl YF YG)).toArray rfl rfl (by rw [bcells_size]; exact HS2.out.all.there 0 49 (by omega)) (by rw [bcells_size]; exact info_st) (bcells_one _ _) ?_; dsimp only [Act.put])))
 have HKA : Hid (KeptP (fun c => c = R + 1) w2 (w2.setCells (R + 1) 0 (bcells 49 (stF ynl YF YG)))) := KeptP.setCells (p := fun c => c = R + 1) (g := R + 1) rfl _ _ (kp_refl _ _)
 have HS6 := Hid_mk (HS2.out.put (c' := ⟨YF, YG, ynl⟩) HKA.out (HS2.out.all.put _) HN.out.2.2.1 HN.out.2.2.2.1 HN.out.2.2.2.2)
 obtain ⟨w6, HW6⟩ : ∃ x, Hid (x = w2.setCells (R + 1) 0 (bcells 49 (stF ynl YF YG))) := ⟨_, rfl⟩
 rw [← HW6.out] at HS6
 first | rw [← HW6.out] | (rw [show _ = w6 from HW6.out.symm])
 clear HW6 p0 HSG HK HNB HSD0 HKA HS2
 have a0 := st_null HS6.out.all
 have af := Blk.frozen HS6.out.all 0
 go_upto_region 32 with fail
 clear a0 af
 have HKB : Hid (KeptP (fun c => c = R + 1) w6 (w6.setCell ⟨R + 1, 0, none⟩ (.bool true))) := kp_set _ _ _ _
 have HS8 := Hid_mk (HS6.out.put (c' := ⟨YF, YG, true⟩) HKB.out (st_putNull HS6.out.all true) HN.out.2.2.1 HN.out.2.2.2.1 HN.out.2.2.2.2)
 clear HS6 HKB
 have HRF2 : Hid (r = (y1, ⟨YF, YG, true⟩)) := by show r = _; rw [HRE.out]; simp [stepB]
 go_wp2_with (first | (with_reducible refine wpList_here' ?_; first | (refine wpList_load_mid rfl 121 _ rfl (R + 1) 0 rfl (bcells 49 (stF true YF YG)) _ HS8.out.all.all Tryz.underlying121 rfl (by rw [bcells_len]; exact info_st) ?_) | (refine wpList_store_mid rfl 121 _ _ rfl R 0 (bcells 49 (stF true YF YG)).toArray rfl rfl (by rw [bcells_size]; exact HS8.out.res.there 0 49 (by omega)) (by rw [bcells_size]; exact info_st) (bcells_one _ _) ?_; dsimp only [Act.put])))
 obtain rfl : FF = Tryz.f66 := HFF.out
 have HRF := Hid_mk (HS8.out.res.put (stF true YF YG))
 refine bodyPost_ret (results_row (k := 4) (t := 121) (b := R) Tryz.results66 rfl (load_st HRF.out)) rfl ?_
 rw [HRF2.out]
 exact HS8.out.fin
end Go.Proofs.YtbepmeipjdpipaaGreat

namespace Go.Proofs.YtbepmeipjdpipaaGreat
open Go.Shelf
def Tryz.sortItA_ren : Go.Shelf.Ren := ⟨fun | 6 => 83 | 15 => 93 | 14 => 92 | 28 => 105 | 29 => 106 | 20 => 97 | 21 => 98 | 22 => 99 | 23 => 100 | 24 => 101 | 25 => 102 | 26 => 103 | 27 => 104 | 46 => 111 | 47 => 112 | 48 => 113 | 49 => 114 | 50 => 115 | 57 => 119 | n => n, fun | 22 => 77 | 24 => 130 | 25 => 158 | 3 => 3 | 39 => 164 | 0 => 0 | 53 => 178 | 55 => 180 | 4 => 4 | 46 => 171 | 45 => 170 | 50 => 175 | 5 => 5 | 9 => 9 | 66 => 184 | 70 => 188 | 76 => 191 | 77 => 192 | n => n, fun | n => n⟩
theorem Tryz.sortItA : Go.Proofs.SlLaysF0.n6 Tryz.prog Tryz.sortItA_ren := {
 mixed := by kernel_rfl
 f6 := ⟨Tryz.f83.name, by decide, Tryz.func83.trans (congrArg some (by kernel_rfl))⟩
 f14 := ⟨Tryz.f92.name, by decide, Tryz.func92.trans (congrArg some (by kernel_rfl))⟩
 f15 := Tryz.func93.trans (congrArg some (by kernel_rfl))
 f20 := ⟨Tryz.f97.name, by decide, Tryz.func97.trans (congrArg some (by kernel_rfl))⟩
 f21 := ⟨Tryz.f98.name, by decide, Tryz.func98.trans (congrArg some (by kernel_rfl))⟩
 f22 := ⟨Tryz.f99.name, by decide, Tryz.func99.trans (congrArg some (by kernel_rfl))⟩
 f23 := ⟨Tryz.f100.name, by decide, Tryz.func100.trans (congrArg some (by kernel_rfl))⟩
 f24 := ⟨Tryz.f101.name, by decide, Tryz.func101.trans (congrArg some (by kernel_rfl))⟩
 f25 := ⟨Tryz.f102.name, by decide, Tryz.func102.trans (congrArg some (by kernel_rfl))⟩
 f26 := ⟨Tryz.f103.name, by decide, Tryz.func103.trans (congrArg some (by kernel_rfl))⟩
 f27 := ⟨Tryz.f104.name, by decide, Tryz.func104.trans (congrArg some (by kernel_rfl))⟩
 f28 := Tryz.func105.trans (congrArg some (by kernel_rfl))
 f29 := Tryz.func106.trans (congrArg some (by kernel_rfl))
 f46 := ⟨Tryz.f111.name, by decide, Tryz.func111.trans (congrArg some (by kernel_rfl))⟩
 f47 := Tryz.func112.trans (congrArg some (by kernel_rfl))
 f48 := Tryz.func113.trans (congrArg some (by kernel_rfl))
 f49 := ⟨Tryz.f114.name, by decide, Tryz.func114.trans (congrArg some (by kernel_rfl))⟩
 f50 := ⟨Tryz.f115.name, by decide, Tryz.func115.trans (congrArg some (by kernel_rfl))⟩
 f57 := ⟨Tryz.f119.name, by decide, Tryz.func119.trans (congrArg some (by kernel_rfl))⟩
 t0 := Tryz.underlying0
 a0 := Tryz.isAgg0
 z0 := Tryz.sizeOf0
 v0 := Tryz.zeroValue0
 t3 := Tryz.underlying3
 a3 := Tryz.isAgg3
 z3 := Tryz.sizeOf3
 v3 := Tryz.zeroValue3
 t4 := Tryz.underlying4
 a4 := Tryz.isAgg4
 z4 := Tryz.sizeOf4
 v4 := Tryz.zeroValue4
 t5 := Tryz.underlying5
 a5 := Tryz.isAgg5
 z5 := Tryz.sizeOf5
 v5 := Tryz.zeroValue5
 t9 := Tryz.underlying9
 a9 := Tryz.isAgg9
 z9 := Tryz.sizeOf9
 v9 := Tryz.zeroValue9
 t22 := Tryz.underlying77
 a22 := Tryz.isAgg77
 z22 := Tryz.sizeOf77
 v22 := Tryz.zeroValue77
 t25 := Tryz.underlying158
 a25 := Tryz.isAgg158
 z25 := Tryz.sizeOf158
 v25 := Tryz.zeroValue158
 t39 := Tryz.underlying164
 a39 := Tryz.isAgg164
 z39 := Tryz.sizeOf164
 v39 := Tryz.zeroValue164
 t45 := Tryz.underlying170
 a45 := Tryz.isAgg170
 z45 := Tryz.sizeOf170
 v45 := Tryz.zeroValue170
 t46 := Tryz.underlying171
 a46 := Tryz.isAgg171
 z46 := Tryz.sizeOf171
 v46 := Tryz.zeroValue171
 t50 := Tryz.underlying175
 a50 := Tryz.isAgg175
 z50 := Tryz.sizeOf175
 v50 := Tryz.zeroValue175
 t53 := Tryz.underlying178
 a53 := Tryz.isAgg178
 z53 := Tryz.sizeOf178
 v53 := Tryz.zeroValue178
 t55 := Tryz.underlying180
 a55 := Tryz.isAgg180
 z55 := Tryz.sizeOf180
 v55 := Tryz.zeroValue180
 t66 := Tryz.underlying184
 a66 := Tryz.isAgg184
 z66 := Tryz.sizeOf184
 v66 := Tryz.zeroValue184
 t70 := Tryz.underlying188
 a70 := Tryz.isAgg188
 z70 := Tryz.sizeOf188
 v70 := Tryz.zeroValue188
 t76 := Tryz.underlying191
 a76 := Tryz.isAgg191
 z76 := Tryz.sizeOf191
 v76 := Tryz.zeroValue191
 t77 := Tryz.underlying192
 a77 := Tryz.isAgg192
 z77 := Tryz.sizeOf192
 v77 := Tryz.zeroValue192 }
end Go.Proofs.YtbepmeipjdpipaaGreat

namespace Go.Proofs.YtbepmeipjdpipaaGreat
open Go.RowKit Go.Shelf Go.Lib Go.Sort
theorem grown5 (W : World) (o1 o2 o3 o4 o5 : Obj) : (((((W.alloc o1).alloc o2).alloc o3).alloc o4).alloc o5).drew = grow (W.drewN 1) #[o1, o2, o3, o4, o5] := by
 have h : ((((W.alloc o1).alloc o2).alloc o3).alloc o4).alloc o5 = grow (W.drewN 0) #[o1, o2, o3, o4, o5] := by
  rw [alloc_eq_grow, alloc_eq_grow, alloc_eq_grow, alloc_eq_grow, alloc_eq_grow, grow_grow, grow_grow, grow_grow, grow_grow]; rfl
 rw [h]; rfl
set_option maxHeartbeats 1000000 in
theorem compareArcs_at (x y : Ed) (w : World) :
  Calls Tryz.prog 84 #[ev x, ev y] w fun e w' => ∃ (r : Int) (o1 o2 o3 o4 o5 : Obj), e = .returned (.int .i64 r) ∧ Hid (r = cmpE x y) ∧ Hid (w' = (((((w.alloc o1).alloc o2).alloc o3).alloc o4).alloc o5).drew) := by
 obtain ⟨x0, x1, x2⟩ := x
 obtain ⟨y0, y1, y2⟩ := y
 have HC : Hid (∀ w0, Calls Tryz.prog 94 #[ev (x0, x1, x2), ev (y0, y1, y2)] w0 fun e w' => ∃ (r : Int) (o1 o2 o3 : Obj), e = .returned (.int .i64 r) ∧ Hid (r = cmpE (x0, x1, x2) (y0, y1, y2)) ∧ Hid (w' = (((w0.alloc o1).alloc o2).alloc o3).drew)) := fun w0 => compareEdges_at _ _ w0
 go_enter Tryz.func84, Tryz.ntmps84
 go_wp2_with fail
 refine (HC.out _).mono ?_
 rintro e w1 ⟨r, o3, o4, o5, rfl, HR, HW⟩
 go_wp2
 go_ret
 exact ⟨r, _, _, o3, o4, o5, rfl, HR, HW⟩
def encA (x : Ed) : List Value := [.int .i64 x.1, .int .u8 x.2.1, .int .i64 x.2.2]
theorem ltOfA (x y : Ed) : ltOf cmpE x y = ltE x y := rfl
theorem swoA : SWO (ltOf cmpE) where
 irrefl x := by rw [ltOfA]; exact ltE_irrefl x
 trans x y z h1 h2 := by rw [ltOfA] at *; exact ltE_trans h1 h2
 ntrans x y z h1 h2 := by
  rw [ltOfA] at *
  rcases hv : ltE x z with _ | _
  ·rfl
  ·exfalso
   by_cases e : x = y
   ·rw [← e, hv] at h2; cases h2
   ·rw [ltE_trans (ltE_total e h1) hv] at h2; cases h2
theorem heap_sortA {w : World} {g : Nat} (m : Nat) (d : Array Ed) (os : Array Obj) (k : Nat) (hk : k < w.heap.size) (hne : k ≠ g) : (sortWorldK encA 3 w g 0 m d os).heap[k]? = w.heap[k]? := by
 unfold sortWorldK
 rw [heap_grow_old _ _ (by rw [size_putRowK]; exact hk)]
 simp [putRowK, putRow, mapBlock, Sort.ahead, Array.getElem?_modify, Ne.symm hne]
theorem heap_sortAG {w : World} {g : Nat} (m : Nat) (d : Array Ed) (os : Array Obj) {cur : Array Value} {e : TypeId} {fr : Nat × Nat} (hb : w.heap[g]? = some (.cells cur e fr)) : ∃ cur', (sortWorldK encA 3 w g 0 m d os).heap[g]? = some (.cells cur' e fr) := by
 have hg : g < w.heap.size := (Array.getElem?_eq_some_iff.1 hb).1
 unfold sortWorldK
 rw [heap_grow_old _ _ (by rw [size_putRowK]; exact hg)]
 exact ⟨putCells id 0 (flatK encA 3 d) cur, by simp [putRowK, putRow, mapBlock, Sort.ahead, Array.getElem?_modify, hb, onCells]⟩
theorem encA_at (x : Ed) (j : Nat) (h : j < 3) : (encA x)[j]! = if j = 0 then .int .i64 x.1 else if j = 1 then .int .u8 x.2.1 else .int .i64 x.2.2 := by
 rcases (show j = 0 ∨ j = 1 ∨ j = 2 by omega) with rfl | rfl | rfl <;> rfl
set_option maxHeartbeats 1000000 in
set_option maxRecDepth 100000 in
theorem sortArcs_any (g cap : Nat) (L : List Ed) (w : World) (hblk : EBlk w g L) (hn : L.length ≤ 1048576) :
  Calls Tryz.prog 83 #[.slice (some ⟨g, 0, none⟩) L.length cap, .func (.func 84) #[] #[]] w fun e w' => e = .returned (.tuple #[]) ∧ ∃ L' : List Ed, Hid (L'.Perm L ∧ (L'.Pairwise fun x y => ltE y x = false) ∧ EBlk w' g L' ∧ KeptP (fun k => k = g) w w') := by
 have hblk' := hblk
 obtain ⟨cur, e0, hheap, _⟩ := hblk'
 have hgl : g < w.heap.size := Blk.lt hblk
 have hflat : ∀ (d : Array Ed) (j : Nat), j < d.size * 3 → (flatK encA 3 d)[j]! = ef d.toList j := by
  intro d j hj
  rw [get_flatK _ _ _ _ hj, encA_at _ _ (by omega)]
  have hd : d[j / 3]! = eat d.toList (j / 3) := by
   rw [getElem!_pos d (j / 3) (by omega), eat_get (by simp; omega)]; simp
  rw [hd]
  unfold ef
  rfl
 have hH : HoldsK encA 3 w g 0 L.toArray := by
  intro j hj
  rw [size_flatK] at hj
  have hj' : j < L.length * 3 := by simpa using hj
  rw [Nat.zero_add]
  refine ⟨?_, Blk.frozen hblk j⟩
  rw [Blk.cell hblk hj', hflat _ _ hj]; rfl
 have hcmp : CmpLays (α := Ed) Tryz.prog 84 #[] encA 3 cmpE g 0 L.toArray.size w := by
  intro m os dk _ x y
  refine (compareArcs_at x y _).mono ?_
  rintro e w' ⟨r, o1, o2, o3, o4, o5, rfl, h2, h3⟩
  obtain rfl := h2.out
  obtain rfl := h3.out
  exact ⟨rfl, 1, #[o1, o2, o3, o4, o5], grown5 _ _ _ _ _ _⟩
 have hcon := AnyQ.slices_SortFunc (α := Ed) Tryz.sortItA 3 Tryz.isAgg130 Tryz.sizeOf130 encA (fun _ => rfl) (fun x v hv => by simp [encA] at hv; rcases hv with rfl | rfl | rfl <;> rfl) cmpE swoA 84 #[] g 0 cap L.toArray w (enters_of Tryz.func84 (by kernel_rfl) rfl) hcmp hH hgl (by simp; omega)
 change Calls Tryz.prog 83 _ _ _ at hcon
 rw [show L.toArray.size = L.length from rfl] at hcon
 refine hcon.mono ?_
 rintro e w' ⟨rfl, d', m, os, hp, hs, rfl⟩
 have hds' : d'.size = L.length := by rw [hp.1]; rfl
 have hperm : d'.toList.Perm L := by
  have h3 := hp.2.2
  rwa [show d'.extract 0 L.length = d' by rw [← hds']; simp, show L.toArray.extract 0 L.length = L.toArray by rw [show L.length = L.toArray.size from rfl]; simp] at h3
 refine ⟨rfl, d'.toList, hperm, ?_, ?_, ?_⟩
 ·rw [List.pairwise_iff_getElem]
  intro i j hi hj hij
  have h5 := hs i j (Nat.zero_le _) hij (by simpa [hds'] using hj)
  rw [ltOfA, getElem!_pos d' j (by simpa using hj), getElem!_pos d' i (by simpa using hi)] at h5
  simpa using h5
 ·have hH' := holdsK_sortWorldK_c encA 3 w g 0 L.toArray d' m os hH hgl (by rw [hds']; rfl)
  obtain ⟨cur', hb'⟩ := heap_sortAG m d' os hheap
  refine ⟨cur', e0, hb', fun i hi => ?_⟩
  have hi' : i < d'.size * 3 := by simpa using hi
  have h6 := (hH' i (by rw [size_flatK]; exact hi')).1
  rw [Nat.zero_add, hflat _ _ hi'] at h6
  unfold World.cell? at h6
  rw [hb'] at h6
  simpa using h6
 ·exact ⟨rfl, rfl, rfl, size_sortWorldK_c encA 3 w g 0 m d' os, fun k hk hne => heap_sortA m d' os k hk hne⟩
theorem sortNoneA_any (p : Option Addr) (cap : Nat) (fv : Value) (w : World) : Calls Tryz.prog 83 #[.slice p 0 cap, fv] w fun e w' => e = .returned (.tuple #[]) ∧ w' = w :=
 AnyF.slices_SortFunc_none Tryz.sortItA p cap fv w
theorem sortOwnA_any (lo hi n cap : Nat) (a : Option Addr) (L : List Ed) (w : World) (ho : EdgesOwn lo hi w a L) (hh : hi ≤ w.heap.size) (hl : L.length = n) (hn : n ≤ 1048576) :
  Calls Tryz.prog 83 #[.slice a n cap, .func (.func 84) #[] #[]] w fun e w' => e = .returned (.tuple #[]) ∧ ∃ L' : List Ed, Hid (L'.Perm L ∧ (L'.Pairwise fun x y => ltE y x = false)) ∧ Hid (EdgesOwn lo hi w' a L') ∧ Hid (KeptP (fun k => lo ≤ k ∧ k < hi) w w') := by
 subst hl
 rcases ho with rfl | ⟨b, rfl, h1, h2, h3⟩
 ·refine (sortNoneA_any a cap _ w).mono ?_
  rintro e w' ⟨rfl, rfl⟩
  exact ⟨rfl, [], ⟨List.Perm.refl _, List.Pairwise.nil⟩, .inl rfl, KeptP.refl _ _⟩
 ·refine (sortArcs_any b cap L w h3 hn).mono ?_
  rintro e w' ⟨rfl, L', h⟩
  obtain ⟨g1, g2, g3, g4⟩ := h.out
  exact ⟨rfl, L', ⟨g1, g2⟩, .inr ⟨b, rfl, h1, h2, g3⟩, g4.mono (fun k hk => by rw [hk]; exact ⟨h1, h2⟩)⟩
end Go.Proofs.YtbepmeipjdpipaaGreat

namespace Go.Proofs.YtbepmeipjdpipaaGreat
open Go.RowKit
theorem seat_any (lo hi M H sg m sc : Nat) (xs : List Value) (ps : List Pc) (hhi : hi ≤ H) (hsg : sg < H) (hHM : H ≤ M) (hn : ps.length = m) (hok : ∀ i, i < ps.length → formOk (pat ps i) = true ∧ kidsOk i (pat ps i).2.2 = true) (hq : ∀ i, i < m → (pat ps i).2.2.length ≤ 1048576) :
  ∀ (n z : Nat), z < n → z < m → ∀ (t : SeS) (lv : Value) (w : World), ShM lo hi sg m xs ps w → Sg M H w (.slice (some ⟨sg, 0, none⟩) m sc) lv t → t.lb.length + cntK ps n z ≤ 23 →
  Calls Tryz.prog 66 #[.pointer (some ⟨M, 0, none⟩), .int .i64 (z : Int)] w (SeatPost M H w (.slice (some ⟨sg, 0, none⟩) m sc) lv (seatB ps n z t)) := by
 intro n
 induction n with
 | zero => intro z h; omega
 | succ n ih =>
  intro z hz hzm t lv w hx hm hc
  have IH : ∀ k, k < z → ∀ (t' : SeS) (lv' : Value) (w' : World), ShM lo hi sg m xs ps w' → Sg M H w' (.slice (some ⟨sg, 0, none⟩) m sc) lv' t' → t'.lb.length + cntK ps n k ≤ 23 → Calls Tryz.prog 66 #[.pointer (some ⟨M, 0, none⟩), .int .i64 (k : Int)] w' (SeatPost M H w' (.slice (some ⟨sg, 0, none⟩) m sc) lv' (seatB ps n k t')) :=
   fun k hk t' lv' w' h1 h2 h3 => ih k (by omega) (by omega) t' lv' w' h1 h2 h3
  rcases formOk_cases (x := (pat ps z).1) (y := (pat ps z).2.1) (ks := (pat ps z).2.2) (hok z (by omega)).1 with ⟨e, _⟩ | ⟨e, _⟩ | ⟨e, _⟩ | ⟨e, _⟩ | ⟨e, _⟩ | ⟨e, _⟩
  ·exact seat_step lo hi M H sg m sc xs ps n z lv t w hx hhi hsg hHM hn hzm e hok (hq z hzm) hm hc IH
  ·exact seat_row lo hi M H sg m sc xs ps n z lv t w hx hhi hsg hHM hn hzm e hok (hq z hzm) hm hc IH
  ·exact seat_alt lo hi M H sg m sc xs ps n z lv t w hx hhi hsg hHM hn hzm e hok (hq z hzm) hm hc IH
  ·exact seat_star lo hi M H sg m sc xs ps n z lv t w hx hhi hsg hHM hn hzm e hok (hq z hzm) hm hc IH
  ·exact seat_plus lo hi M H sg m sc xs ps n z lv t w hx hhi hsg hHM hn hzm e hok (hq z hzm) hm hc IH
  ·exact seat_opt lo hi M H sg m sc xs ps n z lv t w hx hhi hsg hHM hn hzm e hok (hq z hzm) hm hc IH
theorem info4F : (Tryz.prog.info? 4).map (fun i => (i.zero, i.size, i.bytes)) = some (some (.bool false), 1, 1) := by kernel_rfl
def blCells (l : List Bool) : List Value := l.map Value.bool
theorem blOwn_of {B n : Nat} {w : World} {v : Value} {l : List Bool} (h : w.ownsRow B 4 1 v n (blCells l)) (hn : l.length = n) : ∃ a cap, v = .slice a n cap ∧ BlsOwn B w.heap.size w a l := by
 rcases h.2 with ⟨rfl, rfl⟩ | ⟨g, cap, cur, rfl, hg, hb, _⟩
 ·exact ⟨none, 0, rfl, .inl (List.length_eq_zero_iff.1 hn)⟩
 ·refine ⟨_, cap, rfl, .inr ⟨g, rfl, hg, (Array.getElem?_eq_some_iff.1 hb).1, ?_⟩⟩
  have := blk_own h
  rw [Nat.mul_one, ← hn] at this
  exact this.congr fun i hi => by simp [blCells, List.getD, hi]
set_option maxHeartbeats 1000000 in
theorem cloneB_any (b o n cap : Nat) (l : List Bool) (w : World) (hc : ∀ i, i < n → w.cell? ⟨b, o + i, none⟩ = some (.bool (l.getD i false))) (hb : b < w.heap.size) (hn : l.length = n) (hm : n ≤ 1048576) :
  Calls Tryz.prog 68 #[.slice (some ⟨b, o, none⟩) n cap] w fun e w' => ∃ a' cap', e = .returned (.slice a' n cap') ∧ Hid (BlsOwn w.heap.size w'.heap.size w' a' l) ∧ Hid (Below w.heap.size w w') := by
 obtain ⟨i0, hi0, hz0, hz1, hz2⟩ := info_parts info4F
 have q29 : ∀ (w : World) (a : Option Addr) (n c n' c' : Nat), (binOp .eql 78 (.slice a n c) (.slice none n' c')).run Tryz.prog w = .ok (.bool a.isNone) w := fun w a n c n' c' => Lib.run_eql_slice_nil w _ _ a n c n' c' Tryz.underlying78
 have HN : Hid (l.length = n) := hn
 have HC : Hid (∀ i, i < n → w.cell? ⟨b, o + i, none⟩ = some (.bool (l.getD i false))) := hc
 clear hn hc
 go_enter Tryz.func68, Tryz.ntmps68
 go_wp2_with (at_builtin; refine wpList_append_row _ rfl _ _ 78 rfl w.heap.size 4 i0 (.bool false) 1 1 Tryz.underlying78 hi0 hz0 hz1 hz2 rfl (by decide) _ 0 [] rfl (World.ownsRow_made w #[] 0 (Nat.le_refl _) (Nat.zero_le _) rfl) (some ⟨b, o, none⟩) n cap (blCells l) rfl (fun e => by cases e) ?qc1 ?qc2 ?qc3 ?qc4 ?qc5 ?qc6 ?_)
 case qc1 => simp [blCells, HN.out]
 case qc2 =>
  intro ad e j u hu
  simp only [Option.some.injEq] at e
  subst e
  have hj : j < l.length := by have := (List.getElem?_eq_some_iff.1 hu).1; simpa [blCells] using this
  rw [add_none, cell_below (HC.out j (by rw [← HN.out]; exact hj)) (below1 w _) hb]
  simp [blCells, hj] at hu
  simp [List.getD, hj, hu]
 case qc3 => intro u hu; obtain ⟨x, _, rfl⟩ := List.mem_map.1 hu; rfl
 case qc4 => unfold maxLen; omega
 case qc5 => omega
 case qc6 => simp
 intro v' w1 hown hgrow
 go_wp2
 go_ret
 obtain ⟨a', cap', rfl, hr⟩ := blOwn_of (n := n) (by simpa using hown) HN.out
 exact ⟨a', cap', rfl, hr, (below1 w _).grown hgrow (by simp) (by intro k hk; simp [Value.ownBlock] at hk; omega)⟩
def matC (bh : Nat → Nat → Bool) : Array Value := (bcells 576 fun x => bh (x / 24) (x % 24)).toArray
theorem matC_extract (bh : Nat → Nat → Bool) {k : Nat} (hk : k < 24) : (matC bh).extract (k * 24) (k * 24 + 24) = (bcells 24 (bh k)).toArray := by
 apply Array.ext
 ·simp [matC, bcells]; omega
 ·intro i h1 h2
  have hi : i < 24 := by simpa [bcells] using h2
  simp [matC, bcells, show (k * 24 + i) / 24 = k by omega, show (k * 24 + i) % 24 = i by omega]
theorem matC_size (bh : Nat → Nat → Bool) : (matC bh).size = 576 := by simp [matC, bcells]
theorem index_mat (bh : Nat → Nat → Bool) {k : Nat} (hk : k < 24) (w : World) : (Instr.index 117 (.agg (matC bh)) (.int .i64 (k : Int))).run Tryz.prog w = .ok (.agg (bcells 24 (bh k)).toArray) w := by
 rw [← matC_extract bh hk]
 have hs := matC_size bh
 generalize matC bh = c at hs ⊢
 have h0 : (0 : Int) ≤ (k : Int) := by omega
 simp [Instr.index, go_sem, hk]
theorem info_mat : (Tryz.prog.info? 117).map (·.size) = some 576 := by kernel_rfl
theorem sg_mat {w : World} {b : Nat} {sh lv : Value} {bh : Nat → Nat → Bool} (h : Blk w b 578 (sgF sh lv bh)) : w.rangeAt b 2 (bcells 576 fun x => bh (x / 24) (x % 24)) := by
 intro j v hv
 have hj : j < 576 := by have := (List.getElem?_eq_some_iff.1 hv).1; rwa [bcells_len] at this
 simp [bcells, hj] at hv
 subst hv
 rw [h.cell (i := 2 + j) (by omega)]
 unfold sgF
 rw [if_neg (by omega), if_neg (by omega), show 2 + j - 2 = j by omega]
set_option maxHeartbeats 2000000 in
set_option maxRecDepth 100000 in
theorem arcs_any (M H : Nat) (sh lv : Value) (t : SeS) (w : World) (hm : Sg M H w sh lv t) (hn : t.lb.length ≤ 23) (hb : ∀ a b, a < 24 → b < 24 → t.bh a b = true → b ≤ t.lb.length) :
  Calls Tryz.prog 67 #[.pointer (some ⟨M, 0, none⟩)] w fun e w' => ∃ (a' : Option Addr) (n' c' : Nat) (L : List Ed), e = .returned (.slice a' n' c') ∧ Hid (L.length = n') ∧ Hid (L.Perm (arcTo (0 :: t.lb) t.bh 24) ∧ L.Pairwise fun x y => ltE y x = false) ∧ Hid (EdgesOwn w.heap.size w'.heap.size w' a' L) ∧ Hid (Below w.heap.size w w') := by
 obtain ⟨i0, hi0, hz0, hz1, hz2⟩ := info_parts Tryz.info130
 obtain ⟨lb, bh⟩ := t
 dsimp only at hn hb ⊢
 have HMK : Hid (Sg M H w sh lv ⟨lb, bh⟩) := hm
 obtain ⟨la, lc, rfl, hsh⟩ := own_shape hm.lab
 obtain ⟨lg, rfl, _, hlg, hlc⟩ := hsh (by omega)
 have HLG : Hid (lg < w.heap.size) := hlg
 have HLC : Hid (∀ j, j < lb.length + 1 → w.cell? ⟨lg, j, none⟩ = some (.int .u8 ((0 :: lb).getD j 0))) := fun j hj => by
  rw [hlc j hj]
  have hj2 : j < (0 :: lb).length := by simp; omega
  simp only [lbV, List.getD, List.getElem?_map, List.getElem?_eq_getElem hj2, Option.map_some, Option.getD_some]
 obtain ⟨n, HN⟩ : ∃ n, Hid (n = lb.length + 1) := ⟨_, rfl⟩
 dsimp only at HMK
 have HB : Hid (∀ a b, a < 24 → b < 24 → bh a b = true → b < n) := fun a b h1 h2 h3 => by have := hb a b h1 h2 h3; have := HN.out; omega
 have hn24 : n ≤ 24 := by have := HN.out; omega
 obtain ⟨LB, HLB⟩ : ∃ l : List Int, Hid (l = 0 :: lb) := ⟨_, rfl⟩
 rw [← HLB.out] at HLC ⊢
 rw [← HN.out] at HLC HMK
 clear hm hb hsh hlg hlc
 obtain ⟨cm, HCM⟩ : ∃ c, Hid (c = matC bh) := ⟨_, rfl⟩
 have hcm : cm.size = 576 := by rw [HCM.out]; exact matC_size bh
 obtain ⟨B, HBB⟩ : ∃ B, Hid (B = w.heap.size) := ⟨_, rfl⟩
 have HMW : Hid (Blk w M 578 (sgF sh (.slice (some ⟨lg, 0, none⟩) n lc) bh)) := HMK.out.blk
 obtain ⟨W, HW⟩ : ∃ W, Hid (W = w.alloc (.cells #[] 130)) := ⟨_, rfl⟩
 have HBW : Hid (Below w.heap.size w W) := by rw [HW.out]; exact below1 w _
 have HOW : Hid (W.ownsRow B 130 3 (.slice (some ⟨w.heap.size, 0, none⟩) 0 0) 0 (ecells (arcTo LB bh 0))) := by
  rw [HW.out, HBB.out]
  show World.ownsRow _ _ _ _ _ _ []
  have := World.ownsRow_made w (base := w.heap.size) (e := 130) (size := 3) #[] 0 (Nat.le_refl _) (Nat.zero_le _) rfl
  simpa using this
 have HMX : Hid (Blk W M 578 (sgF sh (.slice (some ⟨lg, 0, none⟩) n lc) bh)) := HMW.out.of_block (HBW.out.block _ HMW.out.lt)
 have HML : Hid (M < w.heap.size) := HMW.out.lt
 go_enter Tryz.func67, Tryz.ntmps67
 go_upto_region 2 with fail
 rw [← HW.out]
 clear HW
 go_upto_region 3 with (first | (with_reducible refine wpList_here' ?_; first | (refine wpList_load_mid rfl 117 _ rfl M 2 rfl (bcells 576 fun x => bh (x / 24) (x % 24)) _ (sg_mat HMX.out) Tryz.underlying117 rfl (by rw [bcells_len]; exact info_mat) ?_)))
 rw [show ((bcells 576 fun x => bh (x / 24) (x % 24)).toArray : Array Value) = cm from HCM.out.symm]
 go_wp2
 go_loopw [13, 3] (fun i v wr => ∃ a q : Nat, i = .int .i64 (a : Int) ∧ a ≤ 24 ∧ Hid (wr.ownsRow B 130 3 v q (ecells (arcTo LB bh a))) ∧ Hid ((arcTo LB bh a).length = q) ∧ Hid (Below w.heap.size w wr)) (fun i _ _ => 24 - (intOf i).toNat)
 case atStart => exact ⟨0, 0, rfl, by omega, HOW, rfl, HBW⟩
 case round =>
  obtain ⟨a, q, rfl, ha, HO, HQ, HBR⟩ := hrel
  by_cases hlt : a < 24
  ·obtain ⟨oa, oc, rfl, _⟩ := arcs_own HO.out HQ.out
   have hlt1 : (a : Int) < 24 := by omega
   have hlt0 : (0 : Int) ≤ (a : Int) := by omega
   obtain ⟨cr, HCR⟩ : ∃ c, Hid (c = (bcells 24 (bh a)).toArray) := ⟨_, rfl⟩
   have hcr : cr.size = 24 := by rw [HCR.out]; exact bcells_size _ _
   have hix : ∀ w, (Instr.index 117 (.agg cm) (.int .i64 (a : Int))).run Tryz.prog w = .ok (.agg cr) w := fun w => by rw [HCM.out, HCR.out]; exact index_mat bh hlt w
   obtain ⟨D, HD⟩ : ∃ D, Hid (D = wr.heap.size) := ⟨_, rfl⟩
   obtain ⟨X, HX⟩ : ∃ X, Hid (X = (wr.alloc (.cells #[.bool false, .bool false, .bool false, .bool false, .bool false, .bool false, .bool false, .bool false, .bool false, .bool false, .bool false, .bool false, .bool false, .bool false, .bool false, .bool false, .bool false, .bool false, .bool false, .bool false, .bool false, .bool false, .bool false, .bool false] 116)).setCells D 0 (bcells 24 (bh a))) := ⟨_, rfl⟩
   have HT : Hid ((wr.alloc (.cells #[.bool false, .bool false, .bool false, .bool false, .bool false, .bool false, .bool false, .bool false, .bool false, .bool false, .bool false, .bool false, .bool false, .bool false, .bool false, .bool false, .bool false, .bool false, .bool false, .bool false, .bool false, .bool false, .bool false, .bool false] 116)).there wr.heap.size 0 24) := (BBlk.zero wr _ rfl _).there 0 24 (by omega)
   have HBX : Hid (Below wr.heap.size wr X) := by rw [HX.out]; exact Below.setCells (by have := HD.out; omega) _ _ (below1 wr _)
   have HXB : Hid (BBlk X D 24 (bh a)) := by rw [HX.out]; exact (BBlk.zero wr D HD.out _).put _
   have HOX : Hid (X.ownsRow B 130 3 (.slice oa q oc) q (ecells (arcTo LB bh a))) := owns_keptP HO.out (kp_below HBX.out) (fun c e e2 => by have := (HO.out.lt c e).2; omega)
   have HBRX : Hid (Below w.heap.size w X) := HBR.out.trans (HBX.out.mono HBR.out.size)
   go_upto_region 5 with (first | (with_reducible refine wpList_here' ?_; first | (refine wpList_store_mid rfl 116 _ _ rfl wr.heap.size 0 cr rfl rfl (by rw [hcr]; exact HT.out) (by rw [hcr]; exact info_set) (by rw [HCR.out]; exact bcells_one _ _) ?_; dsimp only [Act.put])))
   rw [← HD.out]
   rw [show (wr.alloc (.cells #[.bool false, .bool false, .bool false, .bool false, .bool false, .bool false, .bool false, .bool false, .bool false, .bool false, .bool false, .bool false, .bool false, .bool false, .bool false, .bool false, .bool false, .bool false, .bool false, .bool false, .bool false, .bool false, .bool false, .bool false] 116)).setCells D 0 cr.toList = X by rw [HX.out, HCR.out, List.toList_toArray]]
   clear hix HT HX
   go_upto_region 6 with (first | (with_reducible refine wpList_here' ?_; first | (refine wpList_load_mid rfl 116 _ rfl D 0 rfl (bcells 24 (bh a)) _ HXB.out.all Tryz.underlying116 rfl (by rw [bcells_len]; exact info_set) ?_)))
   rw [show ((bcells 24 (bh a)).toArray : Array Value) = cr from HCR.out.symm]
   have HST : Hid (X.ownsRow B 130 3 (.slice oa q oc) q (ecells (arcTo LB bh a ++ arcRow LB bh a 0))) := by rw [arcRow_zero, List.append_nil]; exact HOX
   have HSQ : Hid ((arcTo LB bh a ++ arcRow LB bh a 0).length = q) := by show _ = _; rw [arcRow_zero, List.append_nil]; exact HQ.out
   have HQL : Hid (∀ b, b ≤ 24 → (arcTo LB bh a ++ arcRow LB bh a b).length ≤ 600) := fun b hb => by have h1 := arcTo_len LB bh a; have h2 := arcRow_len LB bh a b; rw [List.length_append]; omega
   clear HOX HO
   go_wp2
   go_loopw [18, 3] (fun i v wq => ∃ b q : Nat, i = .int .i64 (b : Int) ∧ b ≤ 24 ∧ Hid (wq.ownsRow B 130 3 v q (ecells (arcTo LB bh a ++ arcRow LB bh a b))) ∧ Hid ((arcTo LB bh a ++ arcRow LB bh a b).length = q) ∧ Hid (Below w.heap.size w wq)) (fun i _ _ => 24 - (intOf i).toNat)
   case atStart => exact ⟨0, q, rfl, by omega, HST, HSQ, HBRX⟩
   case round =>
    obtain ⟨b, q2, rfl, hb, HO, HQ2, HBR2⟩ := hrel
    obtain ⟨oa2, oc2, rfl, _⟩ := arcs_own HO.out HQ2.out
    have hq2 : q2 ≤ 600 := by rw [← HQ2.out]; exact HQL.out b hb
    by_cases hlt2 : b < 24
    ·have hlt3 : (b : Int) < 24 := by omega
     have hlt4 : (0 : Int) ≤ (b : Int) := by omega
     obtain ⟨y, HYY⟩ : ∃ y, Hid (y = bh a b) := ⟨_, rfl⟩
     have hix : ∀ w, (Instr.index 116 (.agg cr) (.int .i64 (b : Int))).run Tryz.prog w = .ok (.bool y) w := fun w => by rw [HCR.out, HYY.out]; exact index_set (bh a) hlt2 w
     rcases Bool.eq_false_or_eq_true y with hy | hy
     ·subst hy
      have hbn : b < n := HB.out a b hlt hlt2 HYY.out.symm
      have hbn1 : (b : Int) < (n : Int) := by omega
      obtain ⟨x, HXX⟩ : ∃ x, Hid (x = LB.getD b 0) := ⟨_, rfl⟩
      have HMR : Hid (Blk wr M 578 (sgF sh (.slice (some ⟨lg, 0, none⟩) n lc) bh)) := HMW.out.of_block (HBR2.out.block _ HML.out)
      have m1 : wr.cell? ⟨M, 1, none⟩ = some (.slice (some ⟨lg, 0, none⟩) n lc) := HMR.out.cell (i := 1) (by omega)
      have l1 : wr.cell? ⟨lg, b, none⟩ = some (.int .u8 x) := by rw [HXX.out]; exact cell_below (HLC.out b hbn) HBR2.out HLG.out
      obtain ⟨LL, HLL⟩ : ∃ LL, Hid (LL = arcTo LB bh a ++ arcRow LB bh a b) := ⟨_, rfl⟩
      have HNXL : Hid (arcTo LB bh a ++ arcRow LB bh a (b + 1) = LL ++ [((a : Int), x, (b : Int))]) := by show _ = _; rw [arcRow_succ, ← HYY.out, if_pos rfl, HLL.out, List.append_assoc, HXX.out]
      rw [← HLL.out] at HO HQ2
      have hown := HO.out.alloc (.cells #[.int .i64 (a : Int), .int .u8 x, .int .i64 (b : Int)] 130)
      have hbs : B ≤ wr.heap.size := by have := HBR2.out.size; have := HBB.out; omega
      go_upto_region 10 with (at_builtin; refine wpList_append_lies _ rfl (.tmp 23) (.tmp 34) 77 rfl B 130 i0 _ 3 24 Tryz.underlying77 hi0 hz0 hz1 hz2 rfl (by decide) _ q2 (ecells LL) rfl hown ⟨wr.heap.size, 0, none⟩ 1 1 [.int .i64 (a : Int), .int .u8 x, .int .i64 (b : Int)] rfl rfl (news_three wr _ _ _ _) (by simp [Value.oneCell']) (by decide) (by unfold maxLen; omega) (by omega) (by simp; omega) _ rfl ?_; intro g2 cap2 w2 hown2 hgrow2 _ _)
      have HL2 : Hid (Below w.heap.size w w2) := (HBR2.out.alloc HBR2.out.size _).grown hgrow2 (by have := HBR2.out.size; simp; omega) (fun k hk => by have := (HO.out.lt k hk).1; have := HBB.out; omega)
      have HO2 : Hid (w2.ownsRow B 130 3 (.slice (some ⟨g2, 0, none⟩) (q2 + 1) cap2) (q2 + 1) (ecells (arcTo LB bh a ++ arcRow LB bh a (b + 1)))) := by show World.ownsRow _ _ _ _ _ _ _; rw [HNXL.out, ecells_snoc]; exact hown2
      have HQ3 : Hid ((arcTo LB bh a ++ arcRow LB bh a (b + 1)).length = q2 + 1) := by show _ = _; rw [HNXL.out, List.length_append, HQ2.out]; rfl
      clear hown hown2 hgrow2 m1 l1 hix HO HQ2 HLL HNXL
      go_wp2
      go_roundw
      case rel => exact ⟨b + 1, q2 + 1, by go_num, by omega, HO2, HQ3, HL2⟩
      case measure => simp [intOf]; omega
     ·subst hy
      have HNXL : Hid (arcTo LB bh a ++ arcRow LB bh a (b + 1) = arcTo LB bh a ++ arcRow LB bh a b) := by show _ = _; rw [arcRow_succ, ← HYY.out]; simp
      have HO2 : Hid (wr.ownsRow B 130 3 (.slice oa2 q2 oc2) q2 (ecells (arcTo LB bh a ++ arcRow LB bh a (b + 1)))) := by show World.ownsRow _ _ _ _ _ _ _; rw [HNXL.out]; exact HO
      have HQ3 : Hid ((arcTo LB bh a ++ arcRow LB bh a (b + 1)).length = q2) := by show _ = _; rw [HNXL.out]; exact HQ2.out
      go_wp2
      go_roundw
      case rel => exact ⟨b + 1, q2, by go_num, by omega, HO2, HQ3, HBR2⟩
      case measure => simp [intOf]; omega
    ·obtain rfl : b = 24 := by omega
     have HO2 : Hid (wr.ownsRow B 130 3 (.slice oa2 q2 oc2) q2 (ecells (arcTo LB bh (a + 1)))) := by show World.ownsRow _ _ _ _ _ _ _; rw [arcTo_succ]; exact HO
     have HQ3 : Hid ((arcTo LB bh (a + 1)).length = q2) := by show _ = _; rw [arcTo_succ]; exact HQ2.out
     go_wp2
     go_roundw
     case rel => exact ⟨a + 1, q2, by go_num, by omega, HO2, HQ3, HBR2⟩
     case measure => simp [intOf]; omega
  ·obtain rfl : a = 24 := by omega
   obtain ⟨a', c', rfl, hown⟩ := arcs_own HO.out HQ.out
   have hq : q ≤ 1048576 := by have := arcTo_len LB bh 24; have := HQ.out; omega
   have HCS := Hid_mk (sortOwnA_any B wr.heap.size q c' a' (arcTo LB bh 24) wr hown (Nat.le_refl _) HQ.out hq)
   go_upto_region 13 with (go_at_call 83; refine (HCS.out).mono ?_; rintro e w9 ⟨rfl, L', HP, HOE, HK9⟩)
   have HPL : Hid (L'.length = q) := by show _ = _; rw [HP.out.1.length_eq]; exact HQ.out
   go_wp2
   go_ret
   exact ⟨a', q, c', L', rfl, HPL, HP, by have h := HOE.out.wide (Nat.le_refl _) HK9.out.size; rw [HBB.out] at h; exact h, HBR.out.trans (HK9.out.to_below HBR.out.size (fun k hk => by have := HBB.out; omega))⟩
end Go.Proofs.YtbepmeipjdpipaaGreat
