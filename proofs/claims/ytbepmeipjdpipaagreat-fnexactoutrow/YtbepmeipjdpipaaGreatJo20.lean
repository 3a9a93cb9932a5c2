import Derived.Test.YtbepmeipjdpipaaGreatJo19
namespace Go.Proofs.YtbepmeipjdpipaaGreat
open Go.RowKit
set_option maxHeartbeats 2000000 in
set_option maxRecDepth 100000 in
theorem seat_row (lo hi M H sg m sc : Nat) (xs : List Value) (ps : List Pc) (n z : Nat) (lv : Value) (t : SeS) (w : World) (hx : ShM lo hi sg m xs ps w) (hhi : hi ≤ H) (hsg : sg < H) (hHM : H ≤ M) (hn : ps.length = m) (hz : z < m) (hop : (pat ps z).1 = 2) (hok : ∀ i, i < ps.length → formOk (pat ps i) = true ∧ kidsOk i (pat ps i).2.2 = true) (hq : (pat ps z).2.2.length ≤ 1048576) (hm : Sg M H w (.slice (some ⟨sg, 0, none⟩) m sc) lv t) (hcnt : t.lb.length + cntK ps (n + 1) z ≤ 23)
  (ih : ∀ k, k < z → ∀ (t' : SeS) (lv' : Value) (w' : World), ShM lo hi sg m xs ps w' → Sg M H w' (.slice (some ⟨sg, 0, none⟩) m sc) lv' t' → t'.lb.length + cntK ps n k ≤ 23 → Calls Tryz.prog 66 #[.pointer (some ⟨M, 0, none⟩), .int .i64 (k : Int)] w' (SeatPost M H w' (.slice (some ⟨sg, 0, none⟩) m sc) lv' (seatB ps n k t'))) :
  Calls Tryz.prog 66 #[.pointer (some ⟨M, 0, none⟩), .int .i64 (z : Int)] w (SeatPost M H w (.slice (some ⟨sg, 0, none⟩) m sc) lv (seatB ps (n + 1) z t)) := by
 have HN : Hid (ps.length = m ∧ z < m ∧ hi ≤ H ∧ sg < H ∧ H ≤ M) := ⟨hn, hz, hhi, hsg, hHM⟩
 have HIH : Hid (∀ k, k < z → ∀ (t' : SeS) (lv' : Value) (w' : World), ShM lo hi sg m xs ps w' → Sg M H w' (.slice (some ⟨sg, 0, none⟩) m sc) lv' t' → t'.lb.length + cntK ps n k ≤ 23 → Calls Tryz.prog 66 #[.pointer (some ⟨M, 0, none⟩), .int .i64 (k : Int)] w' (SeatPost M H w' (.slice (some ⟨sg, 0, none⟩) m sc) lv' (seatB ps n k t'))) := ih
 obtain ⟨r, HRR⟩ : ∃ r, Hid (r = seatB ps (n + 1) z t) := ⟨_, rfl⟩
 have hru := HRR.out
 rw [← HRR.out]
 have hkz := (hok z (by omega)).2
 have hfz := (hok z (by omega)).1
 obtain ⟨ra, rc, hxv, hrow⟩ := hx.1.2 z hz
 have hcell := hx.2.1 z hz
 rw [hxv] at hcell
 obtain ⟨x, HX⟩ : ∃ x, Hid (x = pat ps z) := ⟨_, rfl⟩
 unfold seatB at hru
 unfold cntK at hcnt
 rw [← HX.out] at hop hcell hrow hq hkz hfz hru hcnt
 obtain ⟨x0, x1, ks⟩ := x
 dsimp only at hop hcell hrow hq hkz hfz hru hcnt
 subst hop
 rw [if_neg (by omega)] at hru hcnt
 have HKR : Hid (kidsB (seatB ps n) 2 ks t ⟨noneB, noneB, decide ((2 : Int) = 2)⟩ = r) := hru.symm
 have HCN : Hid (t.lb.length + cntL (cntK ps n) ks ≤ 23) := hcnt
 obtain ⟨q, HQL⟩ : ∃ q, Hid (ks.length = q) := ⟨_, rfl⟩
 have HKO : Hid (∀ j, j < q → ∃ u : Nat, ks.getD j 0 = (u : Int) ∧ u < z) := fun j hj => by
  have h1 := List.all_eq_true.1 hkz (ks.getD j 0) (by rw [List.getD, List.getElem?_eq_getElem (by rw [HQL.out]; exact hj)]; exact List.getElem_mem _)
  simp only [Bool.and_eq_true, decide_eq_true_eq] at h1
  exact ⟨(ks.getD j 0).toNat, by omega, by omega⟩
 rw [HQL.out] at hq
 have hv : shv ra rc (2, x1, ks) = .iface 147 (.agg #[.slice ra q rc]) := by rw [← HQL.out]; rfl
 rw [hv] at hcell
 obtain ⟨R, HR⟩ : ∃ R, Hid (R = w.heap.size) := ⟨_, rfl⟩
 obtain ⟨V, HV⟩ : ∃ W, Hid (W = ((w.alloc (.cells #[.bool false, .bool false, .bool false, .bool false, .bool false, .bool false, .bool false, .bool false, .bool false, .bool false, .bool false, .bool false, .bool false, .bool false, .bool false, .bool false, .bool false, .bool false, .bool false, .bool false, .bool false, .bool false, .bool false, .bool false, .bool false, .bool false, .bool false, .bool false, .bool false, .bool false, .bool false, .bool false, .bool false, .bool false, .bool false, .bool false, .bool false, .bool false, .bool false, .bool false, .bool false, .bool false, .bool false, .bool false, .bool false, .bool false, .bool false, .bool false, .bool false] 121)).alloc (.cells #[.bool false, .bool false, .bool false, .bool false, .bool false, .bool false, .bool false, .bool false, .bool false, .bool false, .bool false, .bool false, .bool false, .bool false, .bool false, .bool false, .bool false, .bool false, .bool false, .bool false, .bool false, .bool false, .bool false, .bool false, .bool false, .bool false, .bool false, .bool false, .bool false, .bool false, .bool false, .bool false, .bool false, .bool false, .bool false, .bool false, .bool false, .bool false, .bool false, .bool false, .bool false, .bool false, .bool false, .bool false, .bool false, .bool false, .bool false, .bool false, .bool false] 121)).setCells (R + 1) 0 (bcells 49 noB)) := ⟨_, rfl⟩
 have HT : Hid (((w.alloc (.cells #[.bool false, .bool false, .bool false, .bool false, .bool false, .bool false, .bool false, .bool false, .bool false, .bool false, .bool false, .bool false, .bool false, .bool false, .bool false, .bool false, .bool false, .bool false, .bool false, .bool false, .bool false, .bool false, .bool false, .bool false, .bool false, .bool false, .bool false, .bool false, .bool false, .bool false, .bool false, .bool false, .bool false, .bool false, .bool false, .bool false, .bool false, .bool false, .bool false, .bool false, .bool false, .bool false, .bool false, .bool false, .bool false, .bool false, .bool false, .bool false, .bool false] 121)).alloc (.cells #[.bool false, .bool false, .bool false, .bool false, .bool false, .bool false, .bool false, .bool false, .bool false, .bool false, .bool false, .bool false, .bool false, .bool false, .bool false, .bool false, .bool false, .bool false, .bool false, .bool false, .bool false, .bool false, .bool false, .bool false, .bool false, .bool false, .bool false, .bool false, .bool false, .bool false, .bool false, .bool false, .bool false, .bool false, .bool false, .bool false, .bool false, .bool false, .bool false, .bool false, .bool false, .bool false, .bool false, .bool false, .bool false, .bool false, .bool false, .bool false, .bool false] 121)).there (w.heap.size + 1) 0 49) := (BBlk.zero49 _ (w.heap.size + 1) (by simp) _).there 0 49 (by omega)
 have HBV : Hid (Below w.heap.size w V) := by rw [HV.out]; exact Below.setCells (by have := HR.out; omega) _ _ (below2 w _ _)
 have HRV : Hid (BBlk V R 49 noB) := by rw [HV.out]; exact BBlk.of (Blk.alloc (BBlk.zero49 w R HR.out _) _) (block_setCells (by omega) _ _ _)
 have HAV : Hid (BBlk V (R + 1) 49 noB) := by rw [HV.out]; exact (BBlk.zero49 _ (R + 1) (by rw [HR.out]; simp) _).put _
 have HSV : Hid (V.heap.size = R + 2) := by rw [HV.out]; show _ = _; rw [size_setCells, HR.out]; simp
 obtain ⟨W, HW⟩ : ∃ W, Hid (W = V.alloc (.cells #[.slice ra q rc] 147)) := ⟨_, rfl⟩
 have HBW : Hid (Below V.heap.size V W) := by rw [HW.out]; exact below1 V _
 have HPW : Hid (Blk W (R + 1 + 1) 1 (fun _ => .slice ra q rc)) := by rw [HW.out]; exact blk_one V (R + 1 + 1) (by rw [HSV.out]) _ _
 have HMR : Hid (M < R) := by rw [HR.out]; exact hm.blk.lt
 have HBE : Hid (Below w.heap.size w W) := HBV.out.trans (HBW.out.mono HBV.out.size)
 have HSD0 : Hid (Sd M H R lo hi sg m xs ps w (.slice (some ⟨sg, 0, none⟩) m sc) lv (.slice ra q rc) W t ⟨noneB, noneB, false⟩ lv) :=
  { hR := HR.out
    MR := HMR.out
    sgo := ⟨hm.blk.of_block (HBE.out.block _ hm.blk.lt), own_below hm.lab HBE.out, hm.off⟩
    shm := hx.kept (kp_below HBE.out) (fun k hk e => by have := hx.2.2.2; omega) (by have := hx.2.2.1; omega)
    res := HRV.out.of (HBW.out.block _ HRV.out.lt)
    all := by rw [stF_zero]; exact HAV.out.of (HBW.out.block _ HAV.out.lt)
    box := HPW.out
    l0 := fun b e => by have h1 := hm.lab.lt b e; rw [HR.out]; exact h1
    kp := KeptP.of_below HBE.out (fun _ h _ => h)
    nb := .inl rfl }
 have hz0 : (0 : Int) ≤ (z : Int) := by omega
 have hz1 : (z : Int) < (m : Int) := by omega
 have hzc : ∀ w, (Instr.build 121 #[]).run Tryz.prog w = .ok (.agg (bcells 49 noB).toArray) w := build_st0
 have c0 : V.cell? ⟨M, 0, none⟩ = some (.slice (some ⟨sg, 0, none⟩) m sc) := cell_below (hm.blk.cell (i := 0) (by omega)) HBV.out hm.blk.lt
 have c1 := cell_below hcell HBV.out hx.2.2.1
 have HRW : Hid (RowIn lo hi w ra ks) := hrow
 have HHX : Hid (hi ≤ w.heap.size) := hx.2.2.2
 clear hx hcell hrow hm hru hcnt hkz hfz hok ih hxv hv hn hz HRR HX
 go_enter Tryz.func66, Tryz.ntmps66
 obtain ⟨FF, HFF⟩ : ∃ F : Func, Hid (F = Tryz.f66) := ⟨_, rfl⟩
 rw [← HFF.out]
 go_upto_region 2 with (first | (with_reducible refine wpList_here' ?_; first | (refine wpList_build rfl 121 _ rfl #[] (by kernel_rfl) (bcells 49 noB).toArray hzc ?_) | (refine wpList_store_mid rfl 121 _ _ rfl (w.heap.size + 1) 0 (bcells 49 noB).toArray rfl rfl (by rw [bcells_size]; exact HT.out) (by rw [bcells_size]; exact info_st) (bcells_one _ _) ?_; dsimp only [Act.put])))
 rw [← HR.out]
 first | rw [← HV.out] | (rw [show _ = V from HV.out.symm])
 clear hzc
 have ta_step := sta_row_step
 have ta_row := sta_row_row
 go_upto_region 8 with fail
 first | rw [show V.heap.size = R + 1 + 1 from HSV.out] | skip
 first | rw [← HW.out] | (rw [show _ = W from HW.out.symm])
 clear HW HV HT HRV HAV HSV HBW HPW HBV HBE c0 c1 ta_step ta_row
 have p0 : W.cell? ⟨R + 1 + 1, 0, none⟩ = some (.slice ra q rc) := HSD0.out.box.cell (i := 0) (by omega)
 have a0 := st_null HSD0.out.all
 have af := Blk.frozen HSD0.out.all 0
 go_upto_region 9 with fail
 clear a0 af p0
 have HKB : Hid (KeptP (fun c => c = R + 1) W (W.setCell ⟨R + 1, 0, none⟩ (.bool true))) := kp_set _ _ _ _
 have HSD1 := Hid_mk (HSD0.out.put (c' := ⟨noneB, noneB, true⟩) HKB.out (st_putNull HSD0.out.all true) HN.out.2.2.1 HN.out.2.2.2.1 HN.out.2.2.2.2)
 obtain ⟨X, HXX⟩ : ∃ x, Hid (x = W.setCell ⟨R + 1, 0, none⟩ (.bool true)) := ⟨_, rfl⟩
 rw [← HXX.out] at HSD1 ⊢
 clear HXX HSD0 HKB
 have p0 : X.cell? ⟨R + 1 + 1, 0, none⟩ = some (.slice ra q rc) := HSD1.out.box.cell (i := 0) (by omega)
 go_wp2
 clear p0
 go_loopw [39] (fun i wr => ∃ k : Nat, i = .int .i64 (k : Int) ∧ k ≤ q ∧ ∃ (t' : SeS) (c' : SeK) (lv' : Value), Hid (Sd M H R lo hi sg m xs ps w (.slice (some ⟨sg, 0, none⟩) m sc) lv (.slice ra q rc) wr t' c' lv') ∧ Hid (kidsB (seatB ps n) 2 (ks.drop k) t' c' = r) ∧ Hid (t'.lb.length + cntL (cntK ps n) (ks.drop k) ≤ 23)) (fun i _ => q - (intOf i).toNat)
 case atStart => exact ⟨0, rfl, by omega, t, ⟨noneB, noneB, true⟩, lv, HSD1, HKR, HCN⟩
 case round =>
  obtain ⟨k, rfl, hk, t1, c1, lv1, HS, HKE, HCK⟩ := hrel
  obtain ⟨CF, CG, cnl⟩ := c1
  by_cases hlt : k < q
  ·have hlt1 : (k : Int) < (q : Int) := by omega
   have hlt0 : (0 : Int) ≤ (k : Int) := by omega
   obtain ⟨u, hu, huz⟩ := HKO.out k hlt
   obtain ⟨rb, ro, rfl, hr⟩ := (HRW.out.kept HS.out.kp HHX.out (fun c h1 h2 e => by have h3 := HN.out; rcases e with e | e; omega; have := (HS.out.l0 c e).1; omega)).num (i := k) (by rw [HQL.out]; exact hlt)
   rw [hu] at hr
   obtain ⟨y1, HY1⟩ : ∃ y, Hid (y = (seatB ps n u t1).1) := ⟨_, rfl⟩
   obtain ⟨y2, HY2⟩ : ∃ y, Hid (y = (seatB ps n u t1).2) := ⟨_, rfl⟩
   have HNX : Hid (kidsB (seatB ps n) 2 (ks.drop (k + 1)) (stepB 2 y1 ⟨CF, CG, cnl⟩ y2).1 (stepB 2 y1 ⟨CF, CG, cnl⟩ y2).2 = r) := by
    have h := kidsB_next HKE.out (by rw [HQL.out]; exact hlt)
    rw [hu, show ((u : Int)).toNat = u by omega, ← HY1.out, ← HY2.out] at h
    exact h
   have HCS : Hid (t1.lb.length + cntK ps n u ≤ 23 ∧ y1.lb.length + cntL (cntK ps n) (ks.drop (k + 1)) ≤ 23) := by
    have h := HCK.out
    rw [cntL_next (by rw [HQL.out]; exact hlt), hu, show ((u : Int)).toNat = u by omega] at h
    have h2 := seatB_len ps n u t1
    rw [← HY1.out] at h2
    show _ ∧ _
    omega
   have HIU : Hid (∀ w0, Below wr.heap.size wr w0 → Calls Tryz.prog 66 #[.pointer (some ⟨M, 0, none⟩), .int .i64 (u : Int)] w0 (SeatPost M H w0 (.slice (some ⟨sg, 0, none⟩) m sc) lv1 (y1, y2))) := fun w0 h => by
    have hs := HS.out.below h HN.out.2.2.1 HN.out.2.2.2.1 HN.out.2.2.2.2
    have h := HIH.out u huz t1 lv1 w0 hs.shm hs.sgo HCS.out.1
    rw [HY1.out, HY2.out]; exact h
   clear HY1 HY2 HKE HCK hu
   obtain ⟨YF, YG, ynl⟩ := y2
   obtain ⟨RN, HRN⟩ : ∃ x, Hid (x = (stepB 2 y1 ⟨CF, CG, cnl⟩ ⟨YF, YG, ynl⟩).2.nl) := ⟨_, rfl⟩
   obtain ⟨RF, HRF⟩ : ∃ x, Hid (x = (stepB 2 y1 ⟨CF, CG, cnl⟩ ⟨YF, YG, ynl⟩).2.fi) := ⟨_, rfl⟩
   obtain ⟨RG, HRG⟩ : ∃ x, Hid (x = (stepB 2 y1 ⟨CF, CG, cnl⟩ ⟨YF, YG, ynl⟩).2.la) := ⟨_, rfl⟩
   have HNX2 : Hid (kidsB (seatB ps n) 2 (ks.drop (k + 1)) (stepB 2 y1 ⟨CF, CG, cnl⟩ ⟨YF, YG, ynl⟩).1 ⟨RF, RG, RN⟩ = r) := by have h := HNX.out; rw [HRN.out, HRF.out, HRG.out]; exact h
   go_upto_region 12 with fail
   clear hr
   obtain ⟨V, HV⟩ : ∃ V, Hid (V = wr.drew) := ⟨_, rfl⟩
   have HBD : Hid (Below wr.heap.size wr V) := by rw [HV.out]; exact (Below.refl _ _).drew
   have HSV := Hid_mk (HS.out.below HBD.out HN.out.2.2.1 HN.out.2.2.2.1 HN.out.2.2.2.2)
   refine wp_region_held_drew (S := fun _ => True) (by kernel_rfl) trivial (fun hHeld => ?_)
   rw [← HV.out]
   clear HV
   refine wpAnyH_take (i := 0) (oi := { dst := some 43, op := Op.move (.tmp 0), type := 140, pos := "l07_nfa.go:206", after := #[], guard := none }) (v := ?_) rfl (by kernel_rfl) (by kernel_rfl) (by kernel_rfl) (fun _ _ _ h => h) (Or.inl ⟨by kernel_rfl, ?_⟩) (by assumption) ?_
   rotate_left
   ·intro w hSw; (try dsimp only at hSw); go_simp; try with_reducible rfl
   simp only [Act.put, List.setIfInBounds_toArray, List.set_cons_zero, List.set_cons_succ]
   refine wpAnyH_take (i := 2) (oi := { dst := some 45, op := Op.move (.tmp 0), type := 140, pos := "l07_nfa.go:206", after := #[], guard := none }) (v := ?_) rfl (by kernel_rfl) (by kernel_rfl) (by kernel_rfl) (fun _ _ _ h => h) (Or.inl ⟨by kernel_rfl, ?_⟩) (by assumption) ?_
   rotate_left
   ·intro w hSw; (try dsimp only at hSw); go_simp; try with_reducible rfl
   simp only [Act.put, List.setIfInBounds_toArray, List.set_cons_zero, List.set_cons_succ]
   refine wpAnyH_take (i := 3) (oi := { dst := some 46, op := Op.move (.tmp 9), type := 3, pos := "l07_nfa.go:206", after := #[], guard := none }) (v := ?_) rfl (by kernel_rfl) (by kernel_rfl) (by kernel_rfl) (fun _ _ _ h => h) (Or.inl ⟨by kernel_rfl, ?_⟩) (by assumption) ?_
   rotate_left
   ·intro w hSw; (try dsimp only at hSw); go_simp; try with_reducible rfl
   simp only [Act.put, List.setIfInBounds_toArray, List.set_cons_zero, List.set_cons_succ]
   refine wpAnyH_ready (rs := [1, 4]) (by kernel_rfl) (by simp) ?_
   refine AllReadyH.cons (o := { dst := some 44, op := Op.load 121 (.tmp 5), type := 121, pos := "l07_nfa.go:206", after := #[], guard := none }) rfl (fun K hK => ?_) ?_
   ·refine wp_load_midC (by kernel_rfl) 121 _ rfl (R + 1) 0 rfl (bcells 49 (stF cnl CF CG)) _ HSV.out.all.all Tryz.underlying121 rfl (by rw [bcells_len]; exact info_st) ?_
    refine hK.out _ _ trivial (fun hHeld => ?_)
    clear hK K
    try simp only [Act.put, List.setIfInBounds_toArray, List.set_cons_zero, List.set_cons_succ]
    refine wpAnyH_ready (rs := [4]) (by kernel_rfl) (by simp) ?_
    refine AllReadyH.cons (o := { dst := some 47, op := Op.call { callee := Callee.value (.func 66), args := #[.tmp 45, .tmp 46], argTypes := #[140, 3] }, type := 121, pos := "l07_nfa.go:206", after := #[{ on := 2, ground := .data }, { on := 3, ground := .data }], guard := none }) rfl (fun K hK => ?_) ?_
    ·go_simp
     go_wp2_with (go_at_call 66; refine (HIU.out _ HBD.out).mono ?_; rintro e w2 ⟨lv2, rfl, HSG, HK, HNB⟩)
     have HS2 := Hid_mk (HSV.out.kid HSG.out HK.out HNB.out HN.out.2.2.1 HN.out.2.2.2.1 HN.out.2.2.2.2)
     refine hK.out _ _ trivial (fun hHeld => ?_)
     clear hK K
     try simp only [Act.put, List.setIfInBounds_toArray, List.set_cons_zero, List.set_cons_succ]
     refine wpAnyH_ready (rs := [5]) (by kernel_rfl) (by simp) ?_
     refine AllReadyH.cons (o := { dst := some 48, op := Op.call { callee := Callee.value (.func 80), args := #[.tmp 43, .tmp 44, .tmp 47], argTypes := #[140, 121, 121] }, type := 121, pos := "l07_nfa.go:206", after := #[{ on := 0, ground := .data }, { on := 1, ground := .data }, { on := 4, ground := .data }, { on := 4, ground := .chain }], guard := none }) rfl (fun K hK => ?_) ?_
     ·go_simp
      go_wp2_with (go_at_call 80; refine (sthen_any M _ lv2 y1.bh cnl ynl CF CG YF YG w2 HS2.out.sgo.blk).mono ?_; rintro e w5 ⟨he, HM5, HK5⟩; obtain rfl : e = .returned (stv RN RF RG) := by rw [he, HRN.out, HRF.out, HRG.out]; rfl)
      have HS5 := Hid_mk (HS2.out.behind HM5.out HK5.out HN.out.2.2.1 HN.out.2.2.2.1 HN.out.2.2.2.2)
      refine hK.out _ _ trivial (fun hHeld => ?_)
      clear hK K
      try simp only [Act.put, List.setIfInBounds_toArray, List.set_cons_zero, List.set_cons_succ]
      refine wpAnyH_ready (rs := [6]) (by kernel_rfl) (by simp) ?_
      refine AllReadyH.cons (o := { dst := none, op := Op.store 121 (.tmp 5) (.tmp 48), type := 0, pos := "l07_nfa.go:206", after := #[{ on := 5, ground := .data }, { on := 5, ground := .chain }, { on := 0, ground := .phase }, { on := 1, ground := .phase }, { on := 2, ground := .phase }, { on := 3, ground := .phase }, { on := 4, ground := .phase }, { on := 5, ground := .phase }], guard := none }) rfl (fun K hK => ?_) ?_
      ·rw [if_pos (by kernel_rfl)]
       refine wp_store_mid 121 _ _ rfl (R + 1) 0 (bcells 49 (stF RN RF RG)).toArray rfl rfl (by rw [bcells_size]; exact HS5.out.all.there 0 49 (by omega)) (by rw [bcells_size]; exact info_st) (bcells_one _ _) ?_
       have HKA : Hid (KeptP (fun c => c = R + 1) w5 (w5.setCells (R + 1) 0 (bcells 49 (stF RN RF RG)))) := KeptP.setCells (p := fun c => c = R + 1) (g := R + 1) rfl _ _ (kp_refl _ _)
       have HS6 := Hid_mk (HS5.out.put (c' := ⟨RF, RG, RN⟩) HKA.out (HS5.out.all.put _) HN.out.2.2.1 HN.out.2.2.2.1 HN.out.2.2.2.2)
       refine hK.out _ _ trivial (fun hHeld => ?_)
       clear hK K
       try simp only [Act.put]
       refine wpAnyH_done (by kernel_rfl) ?_ _
       clear hHeld
       go_wp2
       go_roundw
       case rel => exact ⟨k + 1, by go_num, by omega, (stepB 2 y1 ⟨CF, CG, cnl⟩ ⟨YF, YG, ynl⟩).1, ⟨RF, RG, RN⟩, lv2, HS6, HNX2, HCS.out.2⟩
       case measure => simp [intOf]; omega
      exact AllReadyH.nil
     exact AllReadyH.nil
    exact AllReadyH.nil
   refine AllReadyH.cons (o := { dst := some 47, op := Op.call { callee := Callee.value (.func 66), args := #[.tmp 45, .tmp 46], argTypes := #[140, 3] }, type := 121, pos := "l07_nfa.go:206", after := #[{ on := 2, ground := .data }, { on := 3, ground := .data }], guard := none }) rfl (fun K hK => ?_) ?_
   ·go_simp
    go_wp2_with (go_at_call 66; refine (HIU.out _ HBD.out).mono ?_; rintro e w2 ⟨lv2, rfl, HSG, HK, HNB⟩)
    have HS2 := Hid_mk (HSV.out.kid HSG.out HK.out HNB.out HN.out.2.2.1 HN.out.2.2.2.1 HN.out.2.2.2.2)
    refine hK.out _ _ trivial (fun hHeld => ?_)
    clear hK K
    try simp only [Act.put, List.setIfInBounds_toArray, List.set_cons_zero, List.set_cons_succ]
    refine wpAnyH_ready (rs := [1]) (by kernel_rfl) (by simp) ?_
    refine AllReadyH.cons (o := { dst := some 44, op := Op.load 121 (.tmp 5), type := 121, pos := "l07_nfa.go:206", after := #[], guard := none }) rfl (fun K hK => ?_) ?_
    ·refine wp_load_midC (by kernel_rfl) 121 _ rfl (R + 1) 0 rfl (bcells 49 (stF cnl CF CG)) _ HS2.out.all.all Tryz.underlying121 rfl (by rw [bcells_len]; exact info_st) ?_
     refine hK.out _ _ trivial (fun hHeld => ?_)
     clear hK K
     try simp only [Act.put, List.setIfInBounds_toArray, List.set_cons_zero, List.set_cons_succ]
     refine wpAnyH_ready (rs := [5]) (by kernel_rfl) (by simp) ?_
     refine AllReadyH.cons (o := { dst := some 48, op := Op.call { callee := Callee.value (.func 80), args := #[.tmp 43, .tmp 44, .tmp 47], argTypes := #[140, 121, 121] }, type := 121, pos := "l07_nfa.go:206", after := #[{ on := 0, ground := .data }, { on := 1, ground := .data }, { on := 4, ground := .data }, { on := 4, ground := .chain }], guard := none }) rfl (fun K hK => ?_) ?_
     ·go_simp
      go_wp2_with (go_at_call 80; refine (sthen_any M _ lv2 y1.bh cnl ynl CF CG YF YG w2 HS2.out.sgo.blk).mono ?_; rintro e w5 ⟨he, HM5, HK5⟩; obtain rfl : e = .returned (stv RN RF RG) := by rw [he, HRN.out, HRF.out, HRG.out]; rfl)
      have HS5 := Hid_mk (HS2.out.behind HM5.out HK5.out HN.out.2.2.1 HN.out.2.2.2.1 HN.out.2.2.2.2)
      refine hK.out _ _ trivial (fun hHeld => ?_)
      clear hK K
      try simp only [Act.put, List.setIfInBounds_toArray, List.set_cons_zero, List.set_cons_succ]
      refine wpAnyH_ready (rs := [6]) (by kernel_rfl) (by simp) ?_
      refine AllReadyH.cons (o := { dst := none, op := Op.store 121 (.tmp 5) (.tmp 48), type := 0, pos := "l07_nfa.go:206", after := #[{ on := 5, ground := .data }, { on := 5, ground := .chain }, { on := 0, ground := .phase }, { on := 1, ground := .phase }, { on := 2, ground := .phase }, { on := 3, ground := .phase }, { on := 4, ground := .phase }, { on := 5, ground := .phase }], guard := none }) rfl (fun K hK => ?_) ?_
      ·rw [if_pos (by kernel_rfl)]
       refine wp_store_mid 121 _ _ rfl (R + 1) 0 (bcells 49 (stF RN RF RG)).toArray rfl rfl (by rw [bcells_size]; exact HS5.out.all.there 0 49 (by omega)) (by rw [bcells_size]; exact info_st) (bcells_one _ _) ?_
       have HKA : Hid (KeptP (fun c => c = R + 1) w5 (w5.setCells (R + 1) 0 (bcells 49 (stF RN RF RG)))) := KeptP.setCells (p := fun c => c = R + 1) (g := R + 1) rfl _ _ (kp_refl _ _)
       have HS6 := Hid_mk (HS5.out.put (c' := ⟨RF, RG, RN⟩) HKA.out (HS5.out.all.put _) HN.out.2.2.1 HN.out.2.2.2.1 HN.out.2.2.2.2)
       refine hK.out _ _ trivial (fun hHeld => ?_)
       clear hK K
       try simp only [Act.put]
       refine wpAnyH_done (by kernel_rfl) ?_ _
       clear hHeld
       go_wp2
       go_roundw
       case rel => exact ⟨k + 1, by go_num, by omega, (stepB 2 y1 ⟨CF, CG, cnl⟩ ⟨YF, YG, ynl⟩).1, ⟨RF, RG, RN⟩, lv2, HS6, HNX2, HCS.out.2⟩
       case measure => simp [intOf]; omega
      exact AllReadyH.nil
     exact AllReadyH.nil
    exact AllReadyH.nil
   exact AllReadyH.nil
  ·obtain rfl : k = q := by omega
   have HRE : Hid (r = (t1, ⟨CF, CG, cnl⟩)) := by
    have h := HKE.out
    rw [List.drop_eq_nil_of_le (by rw [HQL.out]; exact Nat.le_refl _)] at h
    exact h.symm
   go_wp2_with (first | (with_reducible refine wpList_here' ?_; first | (refine wpList_load_mid rfl 121 _ rfl (R + 1) 0 rfl (bcells 49 (stF cnl CF CG)) _ HS.out.all.all Tryz.underlying121 rfl (by rw [bcells_len]; exact info_st) ?_) | (refine wpList_store_mid rfl 121 _ _ rfl R 0 (bcells 49 (stF cnl CF CG)).toArray rfl rfl (by rw [bcells_size]; exact HS.out.res.there 0 49 (by omega)) (by rw [bcells_size]; exact info_st) (bcells_one _ _) ?_; dsimp only [Act.put])))
   obtain rfl : FF = Tryz.f66 := HFF.out
   have HRF := Hid_mk (HS.out.res.put (stF cnl CF CG))
   refine bodyPost_ret (results_row (k := 4) (t := 121) (b := R) Tryz.results66 rfl (load_st HRF.out)) rfl ?_
   rw [HRE.out]
   exact HS.out.fin
end Go.Proofs.YtbepmeipjdpipaaGreat

namespace Go.Proofs.YtbepmeipjdpipaaGreat
open Go.RowKit
set_option maxHeartbeats 2000000 in
set_option maxRecDepth 100000 in
theorem seat_alt (lo hi M H sg m sc : Nat) (xs : List Value) (ps : List Pc) (n z : Nat) (lv : Value) (t : SeS) (w : World) (hx : ShM lo hi sg m xs ps w) (hhi : hi ≤ H) (hsg : sg < H) (hHM : H ≤ M) (hn : ps.length = m) (hz : z < m) (hop : (pat ps z).1 = 3) (hok : ∀ i, i < ps.length → formOk (pat ps i) = true ∧ kidsOk i (pat ps i).2.2 = true) (hq : (pat ps z).2.2.length ≤ 1048576) (hm : Sg M H w (.slice (some ⟨sg, 0, none⟩) m sc) lv t) (hcnt : t.lb.length + cntK ps (n + 1) z ≤ 23)
  (ih : ∀ k, k < z → ∀ (t' : SeS) (lv' : Value) (w' : World), ShM lo hi sg m xs ps w' → Sg M H w' (.slice (some ⟨sg, 0, none⟩) m sc) lv' t' → t'.lb.length + cntK ps n k ≤ 23 → Calls Tryz.prog 66 #[.pointer (some ⟨M, 0, none⟩), .int .i64 (k : Int)] w' (SeatPost M H w' (.slice (some ⟨sg, 0, none⟩) m sc) lv' (seatB ps n k t'))) :
  Calls Tryz.prog 66 #[.pointer (some ⟨M, 0, none⟩), .int .i64 (z : Int)] w (SeatPost M H w (.slice (some ⟨sg, 0, none⟩) m sc) lv (seatB ps (n + 1) z t)) := by
 have HN : Hid (ps.length = m ∧ z < m ∧ hi ≤ H ∧ sg < H ∧ H ≤ M) := ⟨hn, hz, hhi, hsg, hHM⟩
 have HIH : Hid (∀ k, k < z → ∀ (t' : SeS) (lv' : Value) (w' : World), ShM lo hi sg m xs ps w' → Sg M H w' (.slice (some ⟨sg, 0, none⟩) m sc) lv' t' → t'.lb.length + cntK ps n k ≤ 23 → Calls Tryz.prog 66 #[.pointer (some ⟨M, 0, none⟩), .int .i64 (k : Int)] w' (SeatPost M H w' (.slice (some ⟨sg, 0, none⟩) m sc) lv' (seatB ps n k t'))) := ih
 obtain ⟨r, HRR⟩ : ∃ r, Hid (r = seatB ps (n + 1) z t) := ⟨_, rfl⟩
 have hru := HRR.out
 rw [← HRR.out]
 have hkz := (hok z (by omega)).2
 have hfz := (hok z (by omega)).1
 obtain ⟨ra, rc, hxv, hrow⟩ := hx.1.2 z hz
 have hcell := hx.2.1 z hz
 rw [hxv] at hcell
 obtain ⟨x, HX⟩ : ∃ x, Hid (x = pat ps z) := ⟨_, rfl⟩
 unfold seatB at hru
 unfold cntK at hcnt
 rw [← HX.out] at hop hcell hrow hq hkz hfz hru hcnt
 obtain ⟨x0, x1, ks⟩ := x
 dsimp only at hop hcell hrow hq hkz hfz hru hcnt
 subst hop
 rw [if_neg (by omega)] at hru hcnt
 have HKR : Hid (kidsB (seatB ps n) 3 ks t ⟨noneB, noneB, decide ((3 : Int) = 2)⟩ = r) := hru.symm
 have HCN : Hid (t.lb.length + cntL (cntK ps n) ks ≤ 23) := hcnt
 obtain ⟨q, HQL⟩ : ∃ q, Hid (ks.length = q) := ⟨_, rfl⟩
 have HKO : Hid (∀ j, j < q → ∃ u : Nat, ks.getD j 0 = (u : Int) ∧ u < z) := fun j hj => by
  have h1 := List.all_eq_true.1 hkz (ks.getD j 0) (by rw [List.getD, List.getElem?_eq_getElem (by rw [HQL.out]; exact hj)]; exact List.getElem_mem _)
  simp only [Bool.and_eq_true, decide_eq_true_eq] at h1
  exact ⟨(ks.getD j 0).toNat, by omega, by omega⟩
 rw [HQL.out] at hq
 have hv : shv ra rc (3, x1, ks) = .iface 149 (.agg #[.slice ra q rc]) := by rw [← HQL.out]; rfl
 rw [hv] at hcell
 obtain ⟨R, HR⟩ : ∃ R, Hid (R = w.heap.size) := ⟨_, rfl⟩
 obtain ⟨V, HV⟩ : ∃ W, Hid (W = ((w.alloc (.cells #[.bool false, .bool false, .bool false, .bool false, .bool false, .bool false, .bool false, .bool false, .bool false, .bool false, .bool false, .bool false, .bool false, .bool false, .bool false, .bool false, .bool false, .bool false, .bool false, .bool false, .bool false, .bool false, .bool false, .bool false, .bool false, .bool false, .bool false, .bool false, .bool false, .bool false, .bool false, .bool false, .bool false, .bool false, .bool false, .bool false, .bool false, .bool false, .bool false, .bool false, .bool false, .bool false, .bool false, .bool false, .bool false, .bool false, .bool false, .bool false, .bool false] 121)).alloc (.cells #[.bool false, .bool false, .bool false, .bool false, .bool false, .bool false, .bool false, .bool false, .bool false, .bool false, .bool false, .bool false, .bool false, .bool false, .bool false, .bool false, .bool false, .bool false, .bool false, .bool false, .bool false, .bool false, .bool false, .bool false, .bool false, .bool false, .bool false, .bool false, .bool false, .bool false, .bool false, .bool false, .bool false, .bool false, .bool false, .bool false, .bool false, .bool false, .bool false, .bool false, .bool false, .bool false, .bool false, .bool false, .bool false, .bool false, .bool false, .bool false, .bool false] 121)).setCells (R + 1) 0 (bcells 49 noB)) := ⟨_, rfl⟩
 have HT : Hid (((w.alloc (.cells #[.bool false, .bool false, .bool false, .bool false, .bool false, .bool false, .bool false, .bool false, .bool false, .bool false, .bool false, .bool false, .bool false, .bool false, .bool false, .bool false, .bool false, .bool false, .bool false, .bool false, .bool false, .bool false, .bool false, .bool false, .bool false, .bool false, .bool false, .bool false, .bool false, .bool false, .bool false, .bool false, .bool false, .bool false, .bool false, .bool false, .bool false, .bool false, .bool false, .bool false, .bool false, .bool false, .bool false, .bool false, .bool false, .bool false, .bool false, .bool false, .bool false] 121)).alloc (.cells #[.bool false, .bool false, .bool false, .bool false, .bool false, .bool false, .bool false, .bool false, .bool false, .bool false, .bool false, .bool false, .bool false, .bool false, .bool false, .bool false, .bool false, .bool false, .bool false, .bool false, .bool false, .bool false, .bool false, .bool false, .bool false, .bool false, .bool false, .bool false, .bool false, .bool false, .bool false, .bool false, .bool false, .bool false, .bool false, .bool false, .bool false, .bool false, .bool false, .bool false, .bool false, .bool false, .bool false, .bool false, .bool false, .bool false, .bool false, .bool false, .bool false] 121)).there (w.heap.size + 1) 0 49) := (BBlk.zero49 _ (w.heap.size + 1) (by simp) _).there 0 49 (by omega)
 have HBV : Hid (Below w.heap.size w V) := by rw [HV.out]; exact Below.setCells (by have := HR.out; omega) _ _ (below2 w _ _)
 have HRV : Hid (BBlk V R 49 noB) := by rw [HV.out]; exact BBlk.of (Blk.alloc (BBlk.zero49 w R HR.out _) _) (block_setCells (by omega) _ _ _)
 have HAV : Hid (BBlk V (R + 1) 49 noB) := by rw [HV.out]; exact (BBlk.zero49 _ (R + 1) (by rw [HR.out]; simp) _).put _
 have HSV : Hid (V.heap.size = R + 2) := by rw [HV.out]; show _ = _; rw [size_setCells, HR.out]; simp
 obtain ⟨W, HW⟩ : ∃ W, Hid (W = V.alloc (.cells #[.slice ra q rc] 149)) := ⟨_, rfl⟩
 have HBW : Hid (Below V.heap.size V W) := by rw [HW.out]; exact below1 V _
 have HPW : Hid (Blk W (R + 1 + 1) 1 (fun _ => .slice ra q rc)) := by rw [HW.out]; exact blk_one V (R + 1 + 1) (by rw [HSV.out]) _ _
 have HMR : Hid (M < R) := by rw [HR.out]; exact hm.blk.lt
 have HBE : Hid (Below w.heap.size w W) := HBV.out.trans (HBW.out.mono HBV.out.size)
 have HSD0 : Hid (Sd M H R lo hi sg m xs ps w (.slice (some ⟨sg, 0, none⟩) m sc) lv (.slice ra q rc) W t ⟨noneB, noneB, false⟩ lv) :=
  { hR := HR.out
    MR := HMR.out
    sgo := ⟨hm.blk.of_block (HBE.out.block _ hm.blk.lt), own_below hm.lab HBE.out, hm.off⟩
    shm := hx.kept (kp_below HBE.out) (fun k hk e => by have := hx.2.2.2; omega) (by have := hx.2.2.1; omega)
    res := HRV.out.of (HBW.out.block _ HRV.out.lt)
    all := by rw [stF_zero]; exact HAV.out.of (HBW.out.block _ HAV.out.lt)
    box := HPW.out
    l0 := fun b e => by have h1 := hm.lab.lt b e; rw [HR.out]; exact h1
    kp := KeptP.of_below HBE.out (fun _ h _ => h)
    nb := .inl rfl }
 have hz0 : (0 : Int) ≤ (z : Int) := by omega
 have hz1 : (z : Int) < (m : Int) := by omega
 have hzc : ∀ w, (Instr.build 121 #[]).run Tryz.prog w = .ok (.agg (bcells 49 noB).toArray) w := build_st0
 have c0 : V.cell? ⟨M, 0, none⟩ = some (.slice (some ⟨sg, 0, none⟩) m sc) := cell_below (hm.blk.cell (i := 0) (by omega)) HBV.out hm.blk.lt
 have c1 := cell_below hcell HBV.out hx.2.2.1
 have HRW : Hid (RowIn lo hi w ra ks) := hrow
 have HHX : Hid (hi ≤ w.heap.size) := hx.2.2.2
 clear hx hcell hrow hm hru hcnt hkz hfz hok ih hxv hv hn hz HRR HX
 go_enter Tryz.func66, Tryz.ntmps66
 obtain ⟨FF, HFF⟩ : ∃ F : Func, Hid (F = Tryz.f66) := ⟨_, rfl⟩
 rw [← HFF.out]
 go_upto_region 2 with (first | (with_reducible refine wpList_here' ?_; first | (refine wpList_build rfl 121 _ rfl #[] (by kernel_rfl) (bcells 49 noB).toArray hzc ?_) | (refine wpList_store_mid rfl 121 _ _ rfl (w.heap.size + 1) 0 (bcells 49 noB).toArray rfl rfl (by rw [bcells_size]; exact HT.out) (by rw [bcells_size]; exact info_st) (bcells_one _ _) ?_; dsimp only [Act.put])))
 rw [← HR.out]
 first | rw [← HV.out] | (rw [show _ = V from HV.out.symm])
 clear hzc
 have ta_step := sta_alt_step
 have ta_row := sta_alt_row
 have ta_alt := sta_alt_alt
 go_upto_region 16 with fail
 first | rw [show V.heap.size = R + 1 + 1 from HSV.out] | skip
 first | rw [← HW.out] | (rw [show _ = W from HW.out.symm])
 clear HW HV HT HRV HAV HSV HBW HPW HBV HBE c0 c1 ta_step ta_row ta_alt
 have p0 : W.cell? ⟨R + 1 + 1, 0, none⟩ = some (.slice ra q rc) := HSD0.out.box.cell (i := 0) (by omega)
 have HSD1 := HSD0
 obtain ⟨X, HXX⟩ : ∃ x, Hid (x = W) := ⟨_, rfl⟩
 rw [← HXX.out] at HSD1 p0 ⊢
 clear HXX HSD0
 go_wp2
 clear p0
 go_loopw [57] (fun i wr => ∃ k : Nat, i = .int .i64 (k : Int) ∧ k ≤ q ∧ ∃ (t' : SeS) (c' : SeK) (lv' : Value), Hid (Sd M H R lo hi sg m xs ps w (.slice (some ⟨sg, 0, none⟩) m sc) lv (.slice ra q rc) wr t' c' lv') ∧ Hid (kidsB (seatB ps n) 3 (ks.drop k) t' c' = r) ∧ Hid (t'.lb.length + cntL (cntK ps n) (ks.drop k) ≤ 23)) (fun i _ => q - (intOf i).toNat)
 case atStart => exact ⟨0, rfl, by omega, t, ⟨noneB, noneB, false⟩, lv, HSD1, HKR, HCN⟩
 case round =>
  obtain ⟨k, rfl, hk, t1, c1, lv1, HS, HKE, HCK⟩ := hrel
  obtain ⟨CF, CG, cnl⟩ := c1
  by_cases hlt : k < q
  ·have hlt1 : (k : Int) < (q : Int) := by omega
   have hlt0 : (0 : Int) ≤ (k : Int) := by omega
   obtain ⟨u, hu, huz⟩ := HKO.out k hlt
   obtain ⟨rb, ro, rfl, hr⟩ := (HRW.out.kept HS.out.kp HHX.out (fun c h1 h2 e => by have h3 := HN.out; rcases e with e | e; omega; have := (HS.out.l0 c e).1; omega)).num (i := k) (by rw [HQL.out]; exact hlt)
   rw [hu] at hr
   obtain ⟨y1, HY1⟩ : ∃ y, Hid (y = (seatB ps n u t1).1) := ⟨_, rfl⟩
   obtain ⟨y2, HY2⟩ : ∃ y, Hid (y = (seatB ps n u t1).2) := ⟨_, rfl⟩
   have HNX : Hid (kidsB (seatB ps n) 3 (ks.drop (k + 1)) (stepB 3 y1 ⟨CF, CG, cnl⟩ y2).1 (stepB 3 y1 ⟨CF, CG, cnl⟩ y2).2 = r) := by
    have h := kidsB_next HKE.out (by rw [HQL.out]; exact hlt)
    rw [hu, show ((u : Int)).toNat = u by omega, ← HY1.out, ← HY2.out] at h
    exact h
   have HCS : Hid (t1.lb.length + cntK ps n u ≤ 23 ∧ y1.lb.length + cntL (cntK ps n) (ks.drop (k + 1)) ≤ 23) := by
    have h := HCK.out
    rw [cntL_next (by rw [HQL.out]; exact hlt), hu, show ((u : Int)).toNat = u by omega] at h
    have h2 := seatB_len ps n u t1
    rw [← HY1.out] at h2
    show _ ∧ _
    omega
   have HIU : Hid (∀ w0, Below wr.heap.size wr w0 → Calls Tryz.prog 66 #[.pointer (some ⟨M, 0, none⟩), .int .i64 (u : Int)] w0 (SeatPost M H w0 (.slice (some ⟨sg, 0, none⟩) m sc) lv1 (y1, y2))) := fun w0 h => by
    have hs := HS.out.below h HN.out.2.2.1 HN.out.2.2.2.1 HN.out.2.2.2.2
    have h := HIH.out u huz t1 lv1 w0 hs.shm hs.sgo HCS.out.1
    rw [HY1.out, HY2.out]; exact h
   clear HY1 HY2 HKE HCK hu
   obtain ⟨YF, YG, ynl⟩ := y2
   obtain ⟨RN, HRN⟩ : ∃ x, Hid (x = (stepB 3 y1 ⟨CF, CG, cnl⟩ ⟨YF, YG, ynl⟩).2.nl) := ⟨_, rfl⟩
   obtain ⟨RF, HRF⟩ : ∃ x, Hid (x = (stepB 3 y1 ⟨CF, CG, cnl⟩ ⟨YF, YG, ynl⟩).2.fi) := ⟨_, rfl⟩
   obtain ⟨RG, HRG⟩ : ∃ x, Hid (x = (stepB 3 y1 ⟨CF, CG, cnl⟩ ⟨YF, YG, ynl⟩).2.la) := ⟨_, rfl⟩
   have HNX2 : Hid (kidsB (seatB ps n) 3 (ks.drop (k + 1)) (stepB 3 y1 ⟨CF, CG, cnl⟩ ⟨YF, YG, ynl⟩).1 ⟨RF, RG, RN⟩ = r) := by have h := HNX.out; rw [HRN.out, HRF.out, HRG.out]; exact h
   go_upto_region 19 with fail
   clear hr
   obtain ⟨V, HV⟩ : ∃ V, Hid (V = wr.drew) := ⟨_, rfl⟩
   have HBD : Hid (Below wr.heap.size wr V) := by rw [HV.out]; exact (Below.refl _ _).drew
   have HSV := Hid_mk (HS.out.below HBD.out HN.out.2.2.1 HN.out.2.2.2.1 HN.out.2.2.2.2)
   refine wp_region_held_drew (S := fun _ => True) (by kernel_rfl) trivial (fun hHeld => ?_)
   rw [← HV.out]
   clear HV
   refine wpAnyH_take (i := 1) (oi := { dst := some 62, op := Op.move (.tmp 0), type := 140, pos := "l07_nfa.go:210", after := #[], guard := none }) (v := ?_) rfl (by kernel_rfl) (by kernel_rfl) (by kernel_rfl) (fun _ _ _ h => h) (Or.inl ⟨by kernel_rfl, ?_⟩) (by assumption) ?_
   rotate_left
   ·intro w hSw; (try dsimp only at hSw); go_simp; try with_reducible rfl
   simp only [Act.put, List.setIfInBounds_toArray, List.set_cons_zero, List.set_cons_succ]
   refine wpAnyH_take (i := 2) (oi := { dst := some 63, op := Op.move (.tmp 12), type := 3, pos := "l07_nfa.go:210", after := #[], guard := none }) (v := ?_) rfl (by kernel_rfl) (by kernel_rfl) (by kernel_rfl) (fun _ _ _ h => h) (Or.inl ⟨by kernel_rfl, ?_⟩) (by assumption) ?_
   rotate_left
   ·intro w hSw; (try dsimp only at hSw); go_simp; try with_reducible rfl
   simp only [Act.put, List.setIfInBounds_toArray, List.set_cons_zero, List.set_cons_succ]
   refine wpAnyH_ready (rs := [0, 3]) (by kernel_rfl) (by simp) ?_
   refine AllReadyH.cons (o := { dst := some 61, op := Op.load 121 (.tmp 5), type := 121, pos := "l07_nfa.go:210", after := #[], guard := none }) rfl (fun K hK => ?_) ?_
   ·refine wp_load_midC (by kernel_rfl) 121 _ rfl (R + 1) 0 rfl (bcells 49 (stF cnl CF CG)) _ HSV.out.all.all Tryz.underlying121 rfl (by rw [bcells_len]; exact info_st) ?_
    refine hK.out _ _ trivial (fun hHeld => ?_)
    clear hK K
    try simp only [Act.put, List.setIfInBounds_toArray, List.set_cons_zero, List.set_cons_succ]
    refine wpAnyH_ready (rs := [3]) (by kernel_rfl) (by simp) ?_
    refine AllReadyH.cons (o := { dst := some 64, op := Op.call { callee := Callee.value (.func 66), args := #[.tmp 62, .tmp 63], argTypes := #[140, 3] }, type := 121, pos := "l07_nfa.go:210", after := #[{ on := 1, ground := .data }, { on := 2, ground := .data }], guard := none }) rfl (fun K hK => ?_) ?_
    ·go_simp
     go_wp2_with (go_at_call 66; refine (HIU.out _ HBD.out).mono ?_; rintro e w2 ⟨lv2, rfl, HSG, HK, HNB⟩)
     have HS2 := Hid_mk (HSV.out.kid HSG.out HK.out HNB.out HN.out.2.2.1 HN.out.2.2.2.1 HN.out.2.2.2.2)
     refine hK.out _ _ trivial (fun hHeld => ?_)
     clear hK K
     try simp only [Act.put, List.setIfInBounds_toArray, List.set_cons_zero, List.set_cons_succ]
     refine wpAnyH_ready (rs := [4]) (by kernel_rfl) (by simp) ?_
     refine AllReadyH.cons (o := { dst := some 65, op := Op.call { callee := Callee.value (.func 81), args := #[.tmp 61, .tmp 64], argTypes := #[121, 121] }, type := 121, pos := "l07_nfa.go:210", after := #[{ on := 0, ground := .data }, { on := 3, ground := .data }, { on := 3, ground := .chain }], guard := none }) rfl (fun K hK => ?_) ?_
     ·go_simp
      go_wp2_with (go_at_call 81; refine (stOr_any cnl ynl CF CG YF YG w2).mono ?_; rintro e w5 ⟨he, HB5⟩; obtain rfl : e = .returned (stv RN RF RG) := by rw [he, HRN.out, HRF.out, HRG.out]; rfl)
      have HS5 := Hid_mk (HS2.out.below HB5.out HN.out.2.2.1 HN.out.2.2.2.1 HN.out.2.2.2.2)
      refine hK.out _ _ trivial (fun hHeld => ?_)
      clear hK K
      try simp only [Act.put, List.setIfInBounds_toArray, List.set_cons_zero, List.set_cons_succ]
      refine wpAnyH_ready (rs := [5]) (by kernel_rfl) (by simp) ?_
      refine AllReadyH.cons (o := { dst := none, op := Op.store 121 (.tmp 5) (.tmp 65), type := 0, pos := "l07_nfa.go:210", after := #[{ on := 4, ground := .data }, { on := 4, ground := .chain }, { on := 0, ground := .phase }, { on := 1, ground := .phase }, { on := 2, ground := .phase }, { on := 3, ground := .phase }, { on := 4, ground := .phase }], guard := none }) rfl (fun K hK => ?_) ?_
      ·rw [if_pos (by kernel_rfl)]
       refine wp_store_mid 121 _ _ rfl (R + 1) 0 (bcells 49 (stF RN RF RG)).toArray rfl rfl (by rw [bcells_size]; exact HS5.out.all.there 0 49 (by omega)) (by rw [bcells_size]; exact info_st) (bcells_one _ _) ?_
       have HKA : Hid (KeptP (fun c => c = R + 1) w5 (w5.setCells (R + 1) 0 (bcells 49 (stF RN RF RG)))) := KeptP.setCells (p := fun c => c = R + 1) (g := R + 1) rfl _ _ (kp_refl _ _)
       have HS6 := Hid_mk (HS5.out.put (c' := ⟨RF, RG, RN⟩) HKA.out (HS5.out.all.put _) HN.out.2.2.1 HN.out.2.2.2.1 HN.out.2.2.2.2)
       refine hK.out _ _ trivial (fun hHeld => ?_)
       clear hK K
       try simp only [Act.put]
       refine wpAnyH_done (by kernel_rfl) ?_ _
       clear hHeld
       go_wp2
       go_roundw
       case rel => exact ⟨k + 1, by go_num, by omega, (stepB 3 y1 ⟨CF, CG, cnl⟩ ⟨YF, YG, ynl⟩).1, ⟨RF, RG, RN⟩, lv2, HS6, HNX2, HCS.out.2⟩
       case measure => simp [intOf]; omega
      exact AllReadyH.nil
     exact AllReadyH.nil
    exact AllReadyH.nil
   refine AllReadyH.cons (o := { dst := some 64, op := Op.call { callee := Callee.value (.func 66), args := #[.tmp 62, .tmp 63], argTypes := #[140, 3] }, type := 121, pos := "l07_nfa.go:210", after := #[{ on := 1, ground := .data }, { on := 2, ground := .data }], guard := none }) rfl (fun K hK => ?_) ?_
   ·go_simp
    go_wp2_with (go_at_call 66; refine (HIU.out _ HBD.out).mono ?_; rintro e w2 ⟨lv2, rfl, HSG, HK, HNB⟩)
    have HS2 := Hid_mk (HSV.out.kid HSG.out HK.out HNB.out HN.out.2.2.1 HN.out.2.2.2.1 HN.out.2.2.2.2)
    refine hK.out _ _ trivial (fun hHeld => ?_)
    clear hK K
    try simp only [Act.put, List.setIfInBounds_toArray, List.set_cons_zero, List.set_cons_succ]
    refine wpAnyH_ready (rs := [0]) (by kernel_rfl) (by simp) ?_
    refine AllReadyH.cons (o := { dst := some 61, op := Op.load 121 (.tmp 5), type := 121, pos := "l07_nfa.go:210", after := #[], guard := none }) rfl (fun K hK => ?_) ?_
    ·refine wp_load_midC (by kernel_rfl) 121 _ rfl (R + 1) 0 rfl (bcells 49 (stF cnl CF CG)) _ HS2.out.all.all Tryz.underlying121 rfl (by rw [bcells_len]; exact info_st) ?_
     refine hK.out _ _ trivial (fun hHeld => ?_)
     clear hK K
     try simp only [Act.put, List.setIfInBounds_toArray, List.set_cons_zero, List.set_cons_succ]
     refine wpAnyH_ready (rs := [4]) (by kernel_rfl) (by simp) ?_
     refine AllReadyH.cons (o := { dst := some 65, op := Op.call { callee := Callee.value (.func 81), args := #[.tmp 61, .tmp 64], argTypes := #[121, 121] }, type := 121, pos := "l07_nfa.go:210", after := #[{ on := 0, ground := .data }, { on := 3, ground := .data }, { on := 3, ground := .chain }], guard := none }) rfl (fun K hK => ?_) ?_
     ·go_simp
      go_wp2_with (go_at_call 81; refine (stOr_any cnl ynl CF CG YF YG w2).mono ?_; rintro e w5 ⟨he, HB5⟩; obtain rfl : e = .returned (stv RN RF RG) := by rw [he, HRN.out, HRF.out, HRG.out]; rfl)
      have HS5 := Hid_mk (HS2.out.below HB5.out HN.out.2.2.1 HN.out.2.2.2.1 HN.out.2.2.2.2)
      refine hK.out _ _ trivial (fun hHeld => ?_)
      clear hK K
      try simp only [Act.put, List.setIfInBounds_toArray, List.set_cons_zero, List.set_cons_succ]
      refine wpAnyH_ready (rs := [5]) (by kernel_rfl) (by simp) ?_
      refine AllReadyH.cons (o := { dst := none, op := Op.store 121 (.tmp 5) (.tmp 65), type := 0, pos := "l07_nfa.go:210", after := #[{ on := 4, ground := .data }, { on := 4, ground := .chain }, { on := 0, ground := .phase }, { on := 1, ground := .phase }, { on := 2, ground := .phase }, { on := 3, ground := .phase }, { on := 4, ground := .phase }], guard := none }) rfl (fun K hK => ?_) ?_
      ·rw [if_pos (by kernel_rfl)]
       refine wp_store_mid 121 _ _ rfl (R + 1) 0 (bcells 49 (stF RN RF RG)).toArray rfl rfl (by rw [bcells_size]; exact HS5.out.all.there 0 49 (by omega)) (by rw [bcells_size]; exact info_st) (bcells_one _ _) ?_
       have HKA : Hid (KeptP (fun c => c = R + 1) w5 (w5.setCells (R + 1) 0 (bcells 49 (stF RN RF RG)))) := KeptP.setCells (p := fun c => c = R + 1) (g := R + 1) rfl _ _ (kp_refl _ _)
       have HS6 := Hid_mk (HS5.out.put (c' := ⟨RF, RG, RN⟩) HKA.out (HS5.out.all.put _) HN.out.2.2.1 HN.out.2.2.2.1 HN.out.2.2.2.2)
       refine hK.out _ _ trivial (fun hHeld => ?_)
       clear hK K
       try simp only [Act.put]
       refine wpAnyH_done (by kernel_rfl) ?_ _
       clear hHeld
       go_wp2
       go_roundw
       case rel => exact ⟨k + 1, by go_num, by omega, (stepB 3 y1 ⟨CF, CG, cnl⟩ ⟨YF, YG, ynl⟩).1, ⟨RF, RG, RN⟩, lv2, HS6, HNX2, HCS.out.2⟩
       case measure => simp [intOf]; omega
      exact AllReadyH.nil
     exact AllReadyH.nil
    exact AllReadyH.nil
   exact AllReadyH.nil
  ·obtain rfl : k = q := by omega
   have HRE : Hid (r = (t1, ⟨CF, CG, cnl⟩)) := by
    have h := HKE.out
    rw [List.drop_eq_nil_of_le (by rw [HQL.out]; exact Nat.le_refl _)] at h
    exact h.symm
   go_wp2_with (first | (with_reducible refine wpList_here' ?_; first | (refine wpList_load_mid rfl 121 _ rfl (R + 1) 0 rfl (bcells 49 (stF cnl CF CG)) _ HS.out.all.all Tryz.underlying121 rfl (by rw [bcells_len]; exact info_st) ?_) | (refine wpList_store_mid rfl 121 _ _ rfl R 0 (bcells 49 (stF cnl CF CG)).toArray rfl rfl (by rw [bcells_size]; exact HS.out.res.there 0 49 (by omega)) (by rw [bcells_size]; exact info_st) (bcells_one _ _) ?_; dsimp only [Act.put])))
   obtain rfl : FF = Tryz.f66 := HFF.out
   have HRF := Hid_mk (HS.out.res.put (stF cnl CF CG))
   refine bodyPost_ret (results_row (k := 4) (t := 121) (b := R) Tryz.results66 rfl (load_st HRF.out)) rfl ?_
   rw [HRE.out]
   exact HS.out.fin
end Go.Proofs.YtbepmeipjdpipaaGreat

namespace Go.Proofs.YtbepmeipjdpipaaGreat
open Go.RowKit
set_option maxHeartbeats 2000000 in
set_option maxRecDepth 100000 in
theorem seat_star (lo hi M H sg m sc : Nat) (xs : List Value) (ps : List Pc) (n z : Nat) (lv : Value) (t : SeS) (w : World) (hx : ShM lo hi sg m xs ps w) (hhi : hi ≤ H) (hsg : sg < H) (hHM : H ≤ M) (hn : ps.length = m) (hz : z < m) (hop : (pat ps z).1 = 4) (hok : ∀ i, i < ps.length → formOk (pat ps i) = true ∧ kidsOk i (pat ps i).2.2 = true) (hq : (pat ps z).2.2.length ≤ 1048576) (hm : Sg M H w (.slice (some ⟨sg, 0, none⟩) m sc) lv t) (hcnt : t.lb.length + cntK ps (n + 1) z ≤ 23)
  (ih : ∀ k, k < z → ∀ (t' : SeS) (lv' : Value) (w' : World), ShM lo hi sg m xs ps w' → Sg M H w' (.slice (some ⟨sg, 0, none⟩) m sc) lv' t' → t'.lb.length + cntK ps n k ≤ 23 → Calls Tryz.prog 66 #[.pointer (some ⟨M, 0, none⟩), .int .i64 (k : Int)] w' (SeatPost M H w' (.slice (some ⟨sg, 0, none⟩) m sc) lv' (seatB ps n k t'))) :
  Calls Tryz.prog 66 #[.pointer (some ⟨M, 0, none⟩), .int .i64 (z : Int)] w (SeatPost M H w (.slice (some ⟨sg, 0, none⟩) m sc) lv (seatB ps (n + 1) z t)) := by
 have HN : Hid (ps.length = m ∧ z < m ∧ hi ≤ H ∧ sg < H ∧ H ≤ M) := ⟨hn, hz, hhi, hsg, hHM⟩
 have HIH : Hid (∀ k, k < z → ∀ (t' : SeS) (lv' : Value) (w' : World), ShM lo hi sg m xs ps w' → Sg M H w' (.slice (some ⟨sg, 0, none⟩) m sc) lv' t' → t'.lb.length + cntK ps n k ≤ 23 → Calls Tryz.prog 66 #[.pointer (some ⟨M, 0, none⟩), .int .i64 (k : Int)] w' (SeatPost M H w' (.slice (some ⟨sg, 0, none⟩) m sc) lv' (seatB ps n k t'))) := ih
 obtain ⟨r, HRR⟩ : ∃ r, Hid (r = seatB ps (n + 1) z t) := ⟨_, rfl⟩
 have hru := HRR.out
 rw [← HRR.out]
 have hkz := (hok z (by omega)).2
 have hfz := (hok z (by omega)).1
 obtain ⟨ra, rc, hxv, hrow⟩ := hx.1.2 z hz
 have hcell := hx.2.1 z hz
 rw [hxv] at hcell
 obtain ⟨x, HX⟩ : ∃ x, Hid (x = pat ps z) := ⟨_, rfl⟩
 unfold seatB at hru
 unfold cntK at hcnt
 rw [← HX.out] at hop hcell hrow hq hkz hfz hru hcnt
 obtain ⟨x0, x1, ks⟩ := x
 dsimp only at hop hcell hrow hq hkz hfz hru hcnt
 subst hop
 rw [if_neg (by omega)] at hru hcnt
 have HKR : Hid (kidsB (seatB ps n) 4 ks t ⟨noneB, noneB, decide ((4 : Int) = 2)⟩ = r) := hru.symm
 have HCN : Hid (t.lb.length + cntL (cntK ps n) ks ≤ 23) := hcnt
 obtain ⟨q, HQL⟩ : ∃ q, Hid (ks.length = q) := ⟨_, rfl⟩
 have HKO : Hid (∀ j, j < q → ∃ u : Nat, ks.getD j 0 = (u : Int) ∧ u < z) := fun j hj => by
  have h1 := List.all_eq_true.1 hkz (ks.getD j 0) (by rw [List.getD, List.getElem?_eq_getElem (by rw [HQL.out]; exact hj)]; exact List.getElem_mem _)
  simp only [Bool.and_eq_true, decide_eq_true_eq] at h1
  exact ⟨(ks.getD j 0).toNat, by omega, by omega⟩
 rw [HQL.out] at hq
 have hql := HQL.out
 have hq1 : q = 1 := by rcases formOk_cases hfz with ⟨e, _⟩ | ⟨e, _⟩ | ⟨e, _⟩ | ⟨e, _, h⟩ | ⟨e, _, h⟩ | ⟨e, _, h⟩ <;> omega
 subst hq1
 obtain ⟨u, hu, huz⟩ := HKO.out 0 (by omega)
 have HKN : Hid (ks = [(u : Int)]) := one_row HQL.out hu.symm
 have hv : shv ra rc (4, x1, ks) = .iface 154 (.agg #[.int .i64 (u : Int)]) := by rw [← hu]; rfl
 rw [hv] at hcell
 obtain ⟨R, HR⟩ : ∃ R, Hid (R = w.heap.size) := ⟨_, rfl⟩
 obtain ⟨V, HV⟩ : ∃ W, Hid (W = ((w.alloc (.cells #[.bool false, .bool false, .bool false, .bool false, .bool false, .bool false, .bool false, .bool false, .bool false, .bool false, .bool false, .bool false, .bool false, .bool false, .bool false, .bool false, .bool false, .bool false, .bool false, .bool false, .bool false, .bool false, .bool false, .bool false, .bool false, .bool false, .bool false, .bool false, .bool false, .bool false, .bool false, .bool false, .bool false, .bool false, .bool false, .bool false, .bool false, .bool false, .bool false, .bool false, .bool false, .bool false, .bool false, .bool false, .bool false, .bool false, .bool false, .bool false, .bool false] 121)).alloc (.cells #[.bool false, .bool false, .bool false, .bool false, .bool false, .bool false, .bool false, .bool false, .bool false, .bool false, .bool false, .bool false, .bool false, .bool false, .bool false, .bool false, .bool false, .bool false, .bool false, .bool false, .bool false, .bool false, .bool false, .bool false, .bool false, .bool false, .bool false, .bool false, .bool false, .bool false, .bool false, .bool false, .bool false, .bool false, .bool false, .bool false, .bool false, .bool false, .bool false, .bool false, .bool false, .bool false, .bool false, .bool false, .bool false, .bool false, .bool false, .bool false, .bool false] 121)).setCells (R + 1) 0 (bcells 49 noB)) := ⟨_, rfl⟩
 have HT : Hid (((w.alloc (.cells #[.bool false, .bool false, .bool false, .bool false, .bool false, .bool false, .bool false, .bool false, .bool false, .bool false, .bool false, .bool false, .bool false, .bool false, .bool false, .bool false, .bool false, .bool false, .bool false, .bool false, .bool false, .bool false, .bool false, .bool false, .bool false, .bool false, .bool false, .bool false, .bool false, .bool false, .bool false, .bool false, .bool false, .bool false, .bool false, .bool false, .bool false, .bool false, .bool false, .bool false, .bool false, .bool false, .bool false, .bool false, .bool false, .bool false, .bool false, .bool false, .bool false] 121)).alloc (.cells #[.bool false, .bool false, .bool false, .bool false, .bool false, .bool false, .bool false, .bool false, .bool false, .bool false, .bool false, .bool false, .bool false, .bool false, .bool false, .bool false, .bool false, .bool false, .bool false, .bool false, .bool false, .bool false, .bool false, .bool false, .bool false, .bool false, .bool false, .bool false, .bool false, .bool false, .bool false, .bool false, .bool false, .bool false, .bool false, .bool false, .bool false, .bool false, .bool false, .bool false, .bool false, .bool false, .bool false, .bool false, .bool false, .bool false, .bool false, .bool false, .bool false] 121)).there (w.heap.size + 1) 0 49) := (BBlk.zero49 _ (w.heap.size + 1) (by simp) _).there 0 49 (by omega)
 have HBV : Hid (Below w.heap.size w V) := by rw [HV.out]; exact Below.setCells (by have := HR.out; omega) _ _ (below2 w _ _)
 have HRV : Hid (BBlk V R 49 noB) := by rw [HV.out]; exact BBlk.of (Blk.alloc (BBlk.zero49 w R HR.out _) _) (block_setCells (by omega) _ _ _)
 have HAV : Hid (BBlk V (R + 1) 49 noB) := by rw [HV.out]; exact (BBlk.zero49 _ (R + 1) (by rw [HR.out]; simp) _).put _
 have HSV : Hid (V.heap.size = R + 2) := by rw [HV.out]; show _ = _; rw [size_setCells, HR.out]; simp
 obtain ⟨W, HW⟩ : ∃ W, Hid (W = V.alloc (.cells #[.int .i64 (u : Int)] 154)) := ⟨_, rfl⟩
 have HBW : Hid (Below V.heap.size V W) := by rw [HW.out]; exact below1 V _
 have HPW : Hid (Blk W (R + 1 + 1) 1 (fun _ => .int .i64 (u : Int))) := by rw [HW.out]; exact blk_one V (R + 1 + 1) (by rw [HSV.out]) _ _
 have HMR : Hid (M < R) := by rw [HR.out]; exact hm.blk.lt
 have HBE : Hid (Below w.heap.size w W) := HBV.out.trans (HBW.out.mono HBV.out.size)
 have HSD0 : Hid (Sd M H R lo hi sg m xs ps w (.slice (some ⟨sg, 0, none⟩) m sc) lv (.int .i64 (u : Int)) W t ⟨noneB, noneB, false⟩ lv) :=
  { hR := HR.out
    MR := HMR.out
    sgo := ⟨hm.blk.of_block (HBE.out.block _ hm.blk.lt), own_below hm.lab HBE.out, hm.off⟩
    shm := hx.kept (kp_below HBE.out) (fun k hk e => by have := hx.2.2.2; omega) (by have := hx.2.2.1; omega)
    res := HRV.out.of (HBW.out.block _ HRV.out.lt)
    all := by rw [stF_zero]; exact HAV.out.of (HBW.out.block _ HAV.out.lt)
    box := HPW.out
    l0 := fun b e => by have h1 := hm.lab.lt b e; rw [HR.out]; exact h1
    kp := KeptP.of_below HBE.out (fun _ h _ => h)
    nb := .inl rfl }
 have hz0 : (0 : Int) ≤ (z : Int) := by omega
 have hz1 : (z : Int) < (m : Int) := by omega
 have hzc : ∀ w, (Instr.build 121 #[]).run Tryz.prog w = .ok (.agg (bcells 49 noB).toArray) w := build_st0
 have c0 : V.cell? ⟨M, 0, none⟩ = some (.slice (some ⟨sg, 0, none⟩) m sc) := cell_below (hm.blk.cell (i := 0) (by omega)) HBV.out hm.blk.lt
 have c1 := cell_below hcell HBV.out hx.2.2.1
 have HHX : Hid (hi ≤ w.heap.size) := hx.2.2.2
 clear hx hcell hrow hm hru hcnt hkz hfz hok ih hxv hv hn hz HRR HX
 go_enter Tryz.func66, Tryz.ntmps66
 obtain ⟨FF, HFF⟩ : ∃ F : Func, Hid (F = Tryz.f66) := ⟨_, rfl⟩
 rw [← HFF.out]
 go_upto_region 2 with (first | (with_reducible refine wpList_here' ?_; first | (refine wpList_build rfl 121 _ rfl #[] (by kernel_rfl) (bcells 49 noB).toArray hzc ?_) | (refine wpList_store_mid rfl 121 _ _ rfl (w.heap.size + 1) 0 (bcells 49 noB).toArray rfl rfl (by rw [bcells_size]; exact HT.out) (by rw [bcells_size]; exact info_st) (bcells_one _ _) ?_; dsimp only [Act.put])))
 rw [← HR.out]
 first | rw [← HV.out] | (rw [show _ = V from HV.out.symm])
 clear hzc
 have ta_step := sta_star_step
 have ta_row := sta_star_row
 have ta_alt := sta_star_alt
 have ta_star := sta_star_star
 go_upto_region 23 with fail
 first | rw [show V.heap.size = R + 1 + 1 from HSV.out] | skip
 first | rw [← HW.out] | (rw [show _ = W from HW.out.symm])
 clear HW HV HT HRV HAV HSV HBW HPW HBV HBE c0 c1 ta_step ta_row ta_alt ta_star
 have p0 : W.cell? ⟨R + 1 + 1, 0, none⟩ = some (.int .i64 (u : Int)) := HSD0.out.box.cell (i := 0) (by omega)
 obtain ⟨y1, HY1⟩ : ∃ y, Hid (y = (seatB ps n u t).1) := ⟨_, rfl⟩
 obtain ⟨y2, HY2⟩ : ∃ y, Hid (y = (seatB ps n u t).2) := ⟨_, rfl⟩
 have HIU := Hid_mk (HIH.out u huz t lv W HSD0.out.shm HSD0.out.sgo (by have h := HCN.out; rw [HKN.out] at h; simpa [cntL] using h))
 rw [show seatB ps n u t = (y1, y2) by rw [HY1.out, HY2.out]] at HIU
 have HRE : Hid (r = stepB 4 y1 ⟨noneB, noneB, false⟩ y2) := by
  have h := HKR.out
  rw [HKN.out] at h
  show r = _
  rw [← h, HY1.out, HY2.out]
  simp [kidsB]
 clear HY1 HY2 HKR
 obtain ⟨YF, YG, ynl⟩ := y2
 go_upto_region 24 with (first | (go_at_call 66; refine HIU.out.mono ?_; rintro e w2 ⟨lv2, rfl, HSG, HK, HNB⟩; have HS2 := Hid_mk (HSD0.out.kid HSG.out HK.out HNB.out HN.out.2.2.1 HN.out.2.2.2.1 HN.out.2.2.2.2)) | (go_at_call 82; refine (sagain_any M _ lv2 y1.bh ynl YF YG w2 HS2.out.sgo.blk).mono ?_; rintro e w5 ⟨rfl, HM5, HK5⟩; have HS5 := Hid_mk (HS2.out.behind HM5.out HK5.out HN.out.2.2.1 HN.out.2.2.2.1 HN.out.2.2.2.2)) | (with_reducible refine wpList_here' ?_; first | (refine wpList_store_mid rfl 121 _ _ rfl (R + 1) 0 (bcells 49 (stF ynl YF YG)).toArray rfl rfl (by rw [bcells_size]; exact HS5.out.all.there 0 49 (by omega)) (by rw [bcells_size]; exact info_st) (bcells_one _ _) ?_; dsimp only [Act.put])))
 have HKA : Hid (KeptP (fun c => c = R + 1) w5 (w5.setCells (R + 1) 0 (bcells 49 (stF ynl YF YG)))) := KeptP.setCells (p := fun c => c = R + 1) (g := R + 1) rfl _ _ (kp_refl _ _)
 have HS6 := Hid_mk (HS5.out.put (c' := ⟨YF, YG, ynl⟩) HKA.out (HS5.out.all.put _) HN.out.2.2.1 HN.out.2.2.2.1 HN.out.2.2.2.2)
 obtain ⟨w6, HW6⟩ : ∃ x, Hid (x = w5.setCells (R + 1) 0 (bcells 49 (stF ynl YF YG))) := ⟨_, rfl⟩
 rw [← HW6.out] at HS6
 first | rw [← HW6.out] | (rw [show _ = w6 from HW6.out.symm])
 clear HW6 p0 HSG HK HNB HSD0 HKA HS2 HS5 HM5 HK5
 have a0 := st_null HS6.out.all
 have af := Blk.frozen HS6.out.all 0
 go_upto_region 32 with fail
 clear a0 af
 have HKB : Hid (KeptP (fun c => c = R + 1) w6 (w6.setCell ⟨R + 1, 0, none⟩ (.bool true))) := kp_set _ _ _ _
 have HS8 := Hid_mk (HS6.out.put (c' := ⟨YF, YG, true⟩) HKB.out (st_putNull HS6.out.all true) HN.out.2.2.1 HN.out.2.2.2.1 HN.out.2.2.2.2)
 clear HS6 HKB
 have HRF2 : Hid (r = ({ y1 with bh := followB y1.bh YG YF }, ⟨YF, YG, true⟩)) := by show r = _; rw [HRE.out]; simp [stepB]
 go_wp2_with (first | (with_reducible refine wpList_here' ?_; first | (refine wpList_load_mid rfl 121 _ rfl (R + 1) 0 rfl (bcells 49 (stF true YF YG)) _ HS8.out.all.all Tryz.underlying121 rfl (by rw [bcells_len]; exact info_st) ?_) | (refine wpList_store_mid rfl 121 _ _ rfl R 0 (bcells 49 (stF true YF YG)).toArray rfl rfl (by rw [bcells_size]; exact HS8.out.res.there 0 49 (by omega)) (by rw [bcells_size]; exact info_st) (bcells_one _ _) ?_; dsimp only [Act.put])))
 obtain rfl : FF = Tryz.f66 := HFF.out
 have HRF := Hid_mk (HS8.out.res.put (stF true YF YG))
 refine bodyPost_ret (results_row (k := 4) (t := 121) (b := R) Tryz.results66 rfl (load_st HRF.out)) rfl ?_
 rw [HRF2.out]
 exact HS8.out.fin
end Go.Proofs.YtbepmeipjdpipaaGreat
