import Derived.Test.YtbepmeipjdpipaaGreatJo11
namespace Go.Proofs.YtbepmeipjdpipaaGreat
open Go.RowKit
set_option maxHeartbeats 2000000 in
set_option maxRecDepth 100000 in
theorem look_row (lo hi M z n : Nat) (b : Option Addr) (m mc : Nat) (ps : List Pc) (lv : Value) (s : MkS) (aa : Option Addr) (an ac : Nat) (w : World) (ha : PathIn lo hi w b ps) (hh : hi ≤ M) (hn : ps.length = m) (hz : z < m) (hzn : z < n + 1) (hop : (pat ps z).1 = 2) (hok : ∀ i, i < ps.length → formOk (pat ps i) = true ∧ kidsOk i (pat ps i).2.2 = true) (hq : (pat ps z).2.2.length ≤ 1048576) (hmk : Mk M w (.slice b m mc) lv s aa an ac) (hs : MkOk s) (hb : s.bad = false)
  (ih : ∀ k, k < z → ∀ (s' : MkS) (lv' : Value) (aa' : Option Addr) (an' ac' : Nat) (w' : World), PathIn lo hi w' b ps → Mk M w' (.slice b m mc) lv' s' aa' an' ac' → MkOk s' → s'.bad = false → Calls Tryz.prog 58 #[.pointer (some ⟨M, 0, none⟩), .int .i64 (k : Int)] w' (LookPost M w' (.slice b m mc) lv' aa' (lookK ps n k s'))) :
  Calls Tryz.prog 58 #[.pointer (some ⟨M, 0, none⟩), .int .i64 (z : Int)] w (LookPost M w (.slice b m mc) lv aa (lookK ps (n + 1) z s)) := by
 have HA : Hid (PathIn lo hi w b ps) := ha
 have HOK : Hid (∀ i, i < ps.length → formOk (pat ps i) = true ∧ kidsOk i (pat ps i).2.2 = true) := hok
 have HIH : Hid (∀ k, k < z → ∀ (s' : MkS) (lv' : Value) (aa' : Option Addr) (an' ac' : Nat) (w' : World), PathIn lo hi w' b ps → Mk M w' (.slice b m mc) lv' s' aa' an' ac' → MkOk s' → s'.bad = false → Calls Tryz.prog 58 #[.pointer (some ⟨M, 0, none⟩), .int .i64 (k : Int)] w' (LookPost M w' (.slice b m mc) lv' aa' (lookK ps n k s'))) := ih
 have HN : Hid (ps.length = m ∧ z < m ∧ hi ≤ M ∧ z < n + 1) := ⟨hn, hz, hh, hzn⟩
 have hkz := (hok z (by omega)).2
 obtain ⟨i3, hi3, hz30, hz31, hz32⟩ := info_parts Tryz.info3
 obtain ⟨bb, oo, rfl, _, hbh, p0, p1, ra, rc, p2, hrow⟩ := ha.piece (k := z) (by rw [hn]; exact hz)
 obtain ⟨r, HRR⟩ : ∃ r, Hid (r = lookK ps (n + 1) z s) := ⟨_, rfl⟩
 rw [← HRR.out]
 obtain ⟨x, HX⟩ : ∃ x, Hid (x = pat ps z) := ⟨_, rfl⟩
 have HRU : Hid (r = lookK ps (n + 1) z s) := HRR
 have hru := HRU.out
 unfold lookK at hru
 rw [← HX.out] at p0 p1 p2 hop hq hrow hru hkz
 obtain ⟨x0, x1, ks⟩ := x
 dsimp only at p0 p1 p2 hop hq hrow hru hkz
 subst hop
 rw [if_neg (by omega)] at hru
 have HKR : Hid (kidsK (lookK ps n) 2 ks s ⟨[], [], decide ((2 : Int) = 2)⟩ = r) := hru.symm
 clear hru HRU HRR HX
 obtain ⟨q, HQL⟩ : ∃ q, Hid (ks.length = q) := ⟨_, rfl⟩
 rw [HQL.out] at p2 hq
 have HKO : Hid (∀ j, j < q → ∃ t : Nat, ks.getD j 0 = (t : Int) ∧ t < z) := fun j hj => by
  have h1 := List.all_eq_true.1 hkz (ks.getD j 0) (by rw [List.getD, List.getElem?_eq_getElem (by rw [HQL.out]; exact hj)]; exact List.getElem_mem _)
  simp only [Bool.and_eq_true, decide_eq_true_eq] at h1
  exact ⟨(ks.getD j 0).toNat, by omega, by omega⟩
 obtain ⟨R, HR⟩ : ∃ R, Hid (R = w.heap.size) := ⟨_, rfl⟩
 obtain ⟨V, HV⟩ : ∃ W, Hid (W = ((w.alloc (.cells #[.slice none 0 0, .slice none 0 0, .bool false] 104)).alloc (.cells #[.int .i64 2, .int .u8 x1, .slice ra q rc] 127)).alloc (.cells #[.slice none 0 0, .slice none 0 0, .bool false] 104)) := ⟨_, rfl⟩
 have HBV : Hid (Below w.heap.size w V) := by rw [HV.out]; exact below3 w _ _ _
 have HSV : Hid (V.heap.size = R + 3) := by rw [HV.out, HR.out]; show _ = _; simp
 have HRB : Hid (Blk V R 3 (k3 (.slice none 0 0) (.slice none 0 0) (.bool false))) := by rw [HV.out]; exact ((blk_three w R HR.out _ _ _ _).alloc _).alloc _
 have HXB : Hid (Blk V (R + 1) 3 (k3 (.int .i64 2) (.int .u8 x1) (.slice ra q rc))) := by rw [HV.out]; exact (blk_three _ (R + 1) (by rw [HR.out]; simp) _ _ _ _).alloc _
 have HOB : Hid (Blk V (R + 2) 3 (k3 (.slice none 0 0) (.slice none 0 0) (.bool false))) := by rw [HV.out]; exact blk_three _ (R + 2) (by rw [HR.out]; simp) _ _ _ _
 have HM : Hid (M < R ∧ bb < M) := ⟨by rw [HR.out]; exact hmk.blk.lt, by omega⟩
 obtain ⟨lo0, HLO⟩ : ∃ n, Hid (n = s.lb.length) := ⟨_, rfl⟩
 have HL0 : Hid (∀ c, lv.ownBlock = some c → M + 1 ≤ c ∧ c < R) := fun c h => by have h1 := hmk.lab.lt c h; rw [HR.out]; exact h1
 have HSC0 : Hid (Sc M R w (.slice (some ⟨bb, oo, none⟩) m mc) lv aa (k3 (.int .i64 2) (.int .u8 x1) (.slice ra q rc)) V s ⟨[], [], false⟩ lv aa an ac (.slice none 0 0) (.slice none 0 0)) :=
  { mR := HM.out.1
    hR := HR.out
    l0 := fun c h => (HL0.out c h).2
    res := HRB.out
    x := HXB.out
    out := HOB.out
    mkr := hmk.kept (kp_below HBV.out) (by have := hmk.blk.lt; omega) (fun b e => by have := (hmk.lab.lt b e).2; omega) (fun b o e => by have := (hmk.off b o e).2.1; omega)
    rf := ⟨rfl, .inl ⟨rfl, rfl⟩⟩
    rg := ⟨rfl, .inl ⟨rfl, rfl⟩⟩
    fg := fun b e => by cases e
    fl := fun b e => by cases e
    gl := fun b e => by cases e
    af := fun b o e e2 => by cases e2
    ag := fun b o e e2 => by cases e2
    ax := fun b o e => .inl (by have := (hmk.off b o e).2.1; have := HR.out; omega)
    kp := KeptP.of_below HBV.out (fun _ h _ => h)
    nb := .inl rfl
    na := .inl rfl }
 have hz0 : (0 : Int) ≤ (z : Int) := by omega
 have hz1 : (z : Int) < (m : Int) := by omega
 have hm0 : w.cell? ⟨M, 0, none⟩ = some (.slice (some ⟨bb, oo, none⟩) m mc) := hmk.blk.cell (i := 0) (by omega)
 have g0 := cell_below p0 (below1 w (.cells #[.slice none 0 0, .slice none 0 0, .bool false] 104)) (by have := HM.out; have := HR.out; omega)
 have g1 := cell_below p1 (below1 w (.cells #[.slice none 0 0, .slice none 0 0, .bool false] 104)) (by have := HM.out; have := HR.out; omega)
 have g2 := cell_below p2 (below1 w (.cells #[.slice none 0 0, .slice none 0 0, .bool false] 104)) (by have := HM.out; have := HR.out; omega)
 have g3 := cell_below hm0 (below1 w (.cells #[.slice none 0 0, .slice none 0 0, .bool false] 104)) (by have := HM.out; have := HR.out; omega)
 have HRW : Hid (RowIn lo hi w ra ks) := hrow
 have HMS : Hid (MkOk s) := hs
 have HBD : Hid (s.bad = false) := hb
 clear ha hh hn hrow hmk p0 p1 p2 hm0 hbh hok ih hz hzn hkz hs hb
 go_enter Tryz.func58, Tryz.ntmps58
 obtain ⟨FF, HFF⟩ : ∃ F : Func, Hid (F = Tryz.f58) := ⟨_, rfl⟩
 rw [← HFF.out]
 go_upto_region 3 with fail
 rw [← HR.out]
 first | rw [← HV.out] | (rw [show _ = V from HV.out.symm])
 clear HV g0 g1 g2 g3
 have c0 : V.cell? ⟨R + 1, 0, none⟩ = some (.int .i64 2) := HXB.out.cell (i := 0) (by omega)
 have c1 : V.cell? ⟨R + 2, 2, none⟩ = some (.bool false) := HOB.out.cell (i := 2) (by omega)
 have cf := HOB.out.frozen 2
 go_upto_region 11 with fail
 clear c0 c1 cf
 obtain ⟨W, HW⟩ : ∃ W, Hid (W = V.setCell ⟨R + 2, 2, none⟩ (.bool true)) := ⟨_, rfl⟩
 have HSC1 : Hid (Sc M R w (.slice (some ⟨bb, oo, none⟩) m mc) lv aa (k3 (.int .i64 2) (.int .u8 x1) (.slice ra q rc)) W s ⟨[], [], true⟩ lv aa an ac (.slice none 0 0) (.slice none 0 0)) := by rw [HW.out]; exact HSC0.out.null true
 rw [← HW.out]
 clear HW HSC0 HRB HXB HOB HBV HSV
 go_upto_region 11 with fail
 have HLI : Hid (LI M R w (.slice (some ⟨bb, oo, none⟩) m mc) lv aa (k3 (.int .i64 2) (.int .u8 x1) (.slice ra q rc)) (lookK ps n) 2 ks lo0 r 0 W) := ⟨s, ⟨[], [], true⟩, lv, aa, an, ac, _, _, HSC1, HMS, ⟨by rw [HLO.out]; exact Nat.le_refl _, Sts.nil _ _, Sts.nil _ _⟩, HKR⟩
 clear HSC1 HMS HBD HKR
 go_wp2
 go_loopw [8] (fun i wr => ∃ k : Nat, i = .int .i64 (k : Int) ∧ k ≤ q ∧ Hid (LI M R w (.slice (some ⟨bb, oo, none⟩) m mc) lv aa (k3 (.int .i64 2) (.int .u8 x1) (.slice ra q rc)) (lookK ps n) 2 ks lo0 r k wr)) (fun i _ => q - (intOf i).toNat)
 case atStart => exact ⟨0, rfl, by omega, HLI⟩
 case round =>
  obtain ⟨k, rfl, hk, HI⟩ := hrel
  obtain ⟨s1, o1, lv1, aa1, an1, ac1, fv, gv, HSC, HMO, HST, HKE⟩ := HI.out
  obtain ⟨F, G, nl⟩ := o1
  obtain ⟨fa, fc, rfl, _⟩ := own_shape HSC.out.rf
  obtain ⟨ga, gc, rfl, _⟩ := own_shape HSC.out.rg
  obtain ⟨bd, HBD⟩ : ∃ b, Hid (b = s1.bad) := ⟨_, rfl⟩
  have x2 : wr.cell? ⟨R + 1, 2, none⟩ = some (.slice ra q rc) := HSC.out.x.cell (i := 2) (by omega)
  have m3 : wr.cell? ⟨M, 3, none⟩ = some (.bool bd) := by rw [HBD.out]; exact HSC.out.mkr.blk.cell (i := 3) (by omega)
  by_cases hlt : k < q
  ·have hlt1 : (k : Int) < (q : Int) := by omega
   have hlt0 : (0 : Int) ≤ (k : Int) := by omega
   rcases Bool.eq_false_or_eq_true bd with hbd | hbd
   ·subst hbd
    have HE : Hid (r = (s1, ⟨F, G, nl⟩)) := kidsK_end HKE.out (.inr HBD.out.symm)
    clear x2
    have e0 : wr.cell? ⟨R + 2, 0, none⟩ = some (.slice fa F.length fc) := HSC.out.out.cell (i := 0) (by omega)
    have e1 : wr.cell? ⟨R + 2, 1, none⟩ = some (.slice ga G.length gc) := HSC.out.out.cell (i := 1) (by omega)
    have e2 : wr.cell? ⟨R + 2, 2, none⟩ = some (.bool nl) := HSC.out.out.cell (i := 2) (by omega)
    have b1 := HSC.out.res.set 0 (by omega) (.slice fa F.length fc)
    have b2 := b1.set 1 (by omega) (.slice ga G.length gc)
    have q0 : wr.cell? ⟨R, 0, none⟩ = some (.slice none 0 0) := HSC.out.res.cell (i := 0) (by omega)
    have q1 : (wr.setCell ⟨R, 0, none⟩ (.slice fa F.length fc)).cell? ⟨R, 1, none⟩ = some (.slice none 0 0) := b1.cell (i := 1) (by omega)
    have q2 : ((wr.setCell ⟨R, 0, none⟩ (.slice fa F.length fc)).setCell ⟨R, 1, none⟩ (.slice ga G.length gc)).cell? ⟨R, 2, none⟩ = some (.bool false) := b2.cell (i := 2) (by omega)
    have q3 := HSC.out.res.frozen 0
    have q4 := b1.frozen 1
    have q5 := b2.frozen 2
    have x2 : wr.cell? ⟨R + 1, 2, none⟩ = some (.slice ra q rc) := HSC.out.x.cell (i := 2) (by omega)
    clear b1 b2
    go_wp2_with fail
    obtain rfl : FF = Tryz.f58 := HFF.out
    refine bodyPost_ret (res_look (k := 4) (t := 104) (b := R) Tryz.results58 rfl (load_look (k3_put HSC.out.res _ _ _))) rfl ?_
    rw [HE.out]
    exact HSC.out.fin
   ·subst hbd
    obtain ⟨t, ht, htz⟩ := HKO.out k hlt
    obtain ⟨rb, ro, rfl, hr⟩ := (HRW.out.kept HSC.out.kp (by have := HN.out; have := HM.out; have := HR.out; omega) (fun c h1 h2 e => by have h3 := HN.out; rcases e with e | e; omega; have := HL0.out c e; omega)).num (i := k) (by rw [HQL.out]; exact hlt)
    rw [ht] at hr
    obtain ⟨s2, HS2⟩ : ∃ s2, Hid (s2 = (lookK ps n t s1).1) := ⟨_, rfl⟩
    obtain ⟨y, HY⟩ : ∃ y, Hid (y = (lookK ps n t s1).2) := ⟨_, rfl⟩
    have HLK : Hid (LkOk s1 (cntK ps n t) (s2, y)) := by have h := lookK_ok ps HOK.out n t (by have := HN.out; omega) (by have := HN.out; omega) s1 HMO.out HBD.out.symm; rw [HS2.out, HY.out]; exact h
    have HNX : Hid (kidsK (lookK ps n) 2 (ks.drop (k + 1)) (stepK 2 s2 ⟨F, G, nl⟩ y).1 (stepK 2 s2 ⟨F, G, nl⟩ y).2 = r) := by have h := kidsK_next HKE.out (by rw [HQL.out]; exact hlt) HBD.out.symm; rw [ht, show ((t : Int)).toNat = t by omega, ← HS2.out, ← HY.out] at h; exact h
    have HSK : Hid (MkOk (stepK 2 s2 ⟨F, G, nl⟩ y).1 ∧ (stepK 2 s2 ⟨F, G, nl⟩ y).1.lb = s2.lb ∧ Sts lo0 s2.lb.length (stepK 2 s2 ⟨F, G, nl⟩ y).2.fi ∧ Sts lo0 s2.lb.length (stepK 2 s2 ⟨F, G, nl⟩ y).2.la) := stepK_ok HST.out.1 HST.out.2.1 HST.out.2.2 HLK.out
    have HCK : Hid (Calls Tryz.prog 58 #[.pointer (some ⟨M, 0, none⟩), .int .i64 (t : Int)] wr (LookPost M wr (.slice (some ⟨bb, oo, none⟩) m mc) lv1 aa1 (s2, y))) := by
     have h := HIH.out t htz s1 lv1 aa1 an1 ac1 wr (HA.out.kept HSC.out.kp (by have := HN.out; have := HM.out; have := HR.out; omega) (fun c h1 h2 e => by have h3 := HN.out; rcases e with e | e; omega; have := HL0.out c e; omega)) HSC.out.mkr HMO.out HBD.out.symm
     rw [HS2.out, HY.out]; exact h
    have HLE : Hid (lo0 ≤ s2.lb.length ∧ s2.lb.length ≤ 24 ∧ F.length ≤ 24 ∧ G.length ≤ 24 ∧ y.fi.length ≤ 24 ∧ y.la.length ≤ 24) := ⟨Nat.le_trans HST.out.1 HLK.out.grew.1, HLK.out.ok.len, HST.out.2.1.le24 HMO.out.len, HST.out.2.2.le24 HMO.out.len, HLK.out.fi.le24 HLK.out.ok.len, HLK.out.la.le24 HLK.out.ok.len⟩
    have HGP : Hid (∀ x, x ∈ G → ∃ t : Nat, 1 ≤ t ∧ t ≤ s2.lb.length ∧ x = (t : Int)) := (HST.out.2.2.wide (Nat.le_refl _) HLK.out.grew.1).pos
    have HYF : Hid (∀ x, x ∈ y.fi → ∃ t : Nat, 1 ≤ t ∧ t ≤ s2.lb.length ∧ x = (t : Int)) := HLK.out.fi.pos
    have HOK2 : Hid (MkOk s2) := HLK.out.ok
    clear HS2 HY HLK ht
    obtain ⟨YF, YG, ynl⟩ := y
    try dsimp only at HLE HYF
    go_upto_region 15 with (go_at_call 58; refine (HCK.out).mono ?_; rintro e w2 ⟨lv2, aa2, an2, ac2, fy, gy, rfl, HNO, HAY, HMK2, HRF, HRG, HYY, HK2, HNB⟩; obtain ⟨ya, yc, rfl, _⟩ := own_shape HRF.out.own; obtain ⟨za, zc, rfl, _⟩ := own_shape HRG.out.own)
    try dsimp only at HMK2 HRF HRG
    have HSY := Hid_mk (HSC.out.kid (y := ⟨YF, YG, ynl⟩) (T := 104) HNO.out HAY.out HMK2.out HRF.out HRG.out HYY.out HK2.out HNB.out)
    try dsimp only at HSY ⊢
    obtain ⟨D, HD⟩ : ∃ D, Hid (D = w2.heap.size) := ⟨_, rfl⟩
    rw [← HD.out] at HSY ⊢
    obtain ⟨X, HX⟩ : ∃ X, Hid (X = w2.alloc (.cells #[.slice ya YF.length yc, .slice za YG.length zc, .bool ynl] 104)) := ⟨_, rfl⟩
    rw [← HX.out] at HSY ⊢
    clear HX HD HNO HAY HMK2 HRF HRG HYY HK2 HNB HCK x2 m3 hr HSC HKE
    have x0 : X.cell? ⟨R + 1, 0, none⟩ = some (.int .i64 2) := HSY.out.sc.x.cell (i := 0) (by omega)
    have o1 : X.cell? ⟨R + 2, 1, none⟩ = some (.slice ga G.length gc) := HSY.out.sc.out.cell (i := 1) (by omega)
    have y0 : X.cell? ⟨D, 0, none⟩ = some (.slice ya YF.length yc) := HSY.out.yb.cell (i := 0) (by omega)
    go_upto_region 22 with (go_at_call 59; refine (join_mk2 M (R + 3) _ lv2 s2 aa2 an2 ac2 _ _ G YF X HSY.out.sc.mkr HOK2.out (by have := HM.out; omega) HSY.out.sc.rg HSY.out.yf HYF.out (by have := HLE.out; omega) (by have := HLE.out; omega)).mono ?_; rintro e w3 ⟨aa3, an3, ac3, rfl, HM3, HK3, HN3⟩)
    have HSZ := Hid_mk (HSY.out.join HM3.out HK3.out HN3.out)
    clear x0 o1 y0 HSY HM3 HK3 HN3
    have n2 : w3.cell? ⟨R + 2, 2, none⟩ = some (.bool nl) := HSZ.out.sc.out.cell (i := 2) (by omega)
    rcases Bool.eq_false_or_eq_true nl with hnl | hnl
    ·subst hnl
     have o0 : w3.cell? ⟨R + 2, 0, none⟩ = some (.slice fa F.length fc) := HSZ.out.sc.out.cell (i := 0) (by omega)
     have y0 : w3.cell? ⟨D, 0, none⟩ = some (.slice ya YF.length yc) := HSZ.out.yb.cell (i := 0) (by omega)
     have hsrc := own_src HSZ.out.yf
     go_upto_region 24 with (at_builtin; refine wpList_append_row2 _ rfl (.tmp 104) (.tmp 106) 36 rfl (R + 3) 3 i3 (.int .i64 0) 1 8 Tryz.underlying36 hi3 hz30 hz31 hz32 rfl (by decide) _ F.length (rowCells F) rfl HSZ.out.sc.rf ya YF.length yc (rowCells YF) rfl hsrc.1 (rowCells_len _) hsrc.2 (rowCells_one _) (by unfold maxLen; have := HLE.out; omega) (by have := HLE.out; omega) HSZ.out.sc.sz ?_; intro v4 w4 hown hgrow hloc; obtain ⟨fa4, fc4, rfl, _⟩ := own_shape hown; have o4 : w4.cell? ⟨R + 2, 0, none⟩ = some (.slice fa F.length fc) := (kp_grown hgrow).cell o0 (by have := HSZ.out.sc.sz; omega) (fun e => by have := (HSZ.out.sc.rf.lt _ e).1; omega); have f4 := ((kp_grown hgrow).blk HSZ.out.sc.out (fun e => by have := (HSZ.out.sc.rf.lt _ e).1; omega)).frozen 0)
     have HSW := Hid_mk (HSZ.out.first hgrow (own_app hown) hloc)
     clear o0 y0 n2 HSZ o4 f4 hown hgrow hloc hsrc
     obtain ⟨X4, HX4⟩ : ∃ X, Hid (X = w4.setCell ⟨R + 2, 0, none⟩ (.slice fa4 (F.length + YF.length) fc4)) := ⟨_, rfl⟩
     rw [← HX4.out] at HSW ⊢
     clear HX4
     have y2 : X4.cell? ⟨D, 2, none⟩ = some (.bool ynl) := HSW.out.yb.cell (i := 2) (by omega)
     rcases Bool.eq_false_or_eq_true ynl with hyl | hyl
     ·subst hyl
      go_upto_region 25 with fail
      obtain ⟨V, HV⟩ : ∃ V, Hid (V = X4.drew) := ⟨_, rfl⟩
      have HBD0 : Hid (Below X4.heap.size X4 V) := by rw [HV.out]; exact (Below.refl _ _).drew
      have HSV := Hid_mk (HSW.out.belowY HBD0.out)
      clear y2 HBD0
      have d1 : V.cell? ⟨R + 2, 1, none⟩ = some (.slice ga G.length gc) := HSV.out.sc.out.cell (i := 1) (by omega)
      have d2 : V.cell? ⟨D, 1, none⟩ = some (.slice za YG.length zc) := HSV.out.yb.cell (i := 1) (by omega)
      have HBN : Hid (Below V.heap.size V (V.alloc (.cells #[] 3))) := below1 V _
      have n1 : (V.alloc (.cells #[] 3)).cell? ⟨R + 2, 1, none⟩ = some (.slice ga G.length gc) := cell_below d1 HBN.out (lt_of_cell d1)
      have n2 : (V.alloc (.cells #[] 3)).cell? ⟨D, 1, none⟩ = some (.slice za YG.length zc) := cell_below d2 HBN.out (lt_of_cell d2)
      have HNW : Hid ((V.alloc (.cells #[] 3)).ownsRow (R + 3) 3 1 (.slice (some ⟨V.heap.size, 0, none⟩) 0 0) ([] : List Int).length (rowCells [])) := by
       show World.ownsRow _ _ _ _ _ _ []
       have := World.ownsRow_made V (base := R + 3) (e := 3) (size := 1) #[] 0 HSV.out.sc.sz (Nat.zero_le _) rfl
       simpa using this
      have HSN := Hid_mk (HSV.out.belowY HBN.out)
      have HGN := own_src HSN.out.sc.rg
      refine wp_region_held_drew (S := fun v => v.cell? ⟨D, 1, none⟩ = some (.slice za YG.length zc)) (by kernel_rfl) (by rw [← HV.out]; exact d2) (fun hHeld => ?_)
      rw [← HV.out]
      refine wpAnyH_take (i := 1) (oi := { dst := some 112, op := Op.fieldAddr 104 (.tmp 6) 1, type := 0, pos := "l07_nfa.go:117", after := #[], guard := none }) (v := ?_) rfl (by kernel_rfl) (by kernel_rfl) (by kernel_rfl) (fun _ _ _ h => h) (Or.inl ⟨by kernel_rfl, ?_⟩) (by assumption) ?_
      rotate_left
      ·intro w hSw; (try dsimp only at hSw); go_simp; try with_reducible rfl
      simp only [Act.put, List.setIfInBounds_toArray, List.set_cons_zero, List.set_cons_succ]
      refine wpAnyH_take (i := 4) (oi := { dst := some 115, op := Op.fieldAddr 104 (.tmp 9) 1, type := 0, pos := "l07_nfa.go:117", after := #[], guard := none }) (v := ?_) rfl (by kernel_rfl) (by kernel_rfl) (by kernel_rfl) (fun _ _ _ h => h) (Or.inl ⟨by kernel_rfl, ?_⟩) (by assumption) ?_
      rotate_left
      ·intro w hSw; (try dsimp only at hSw); go_simp; try with_reducible rfl
      simp only [Act.put, List.setIfInBounds_toArray, List.set_cons_zero, List.set_cons_succ]
      refine wpAnyH_take (i := 5) (oi := { dst := some 116, op := Op.load 36 (.tmp 115), type := 36, pos := "l07_nfa.go:117", after := #[{ on := 4, ground := .data }], guard := none }) (v := ?_) rfl (by kernel_rfl) (by kernel_rfl) (by kernel_rfl) (fun _ _ _ h => h) (Or.inl ⟨by kernel_rfl, ?_⟩) (by assumption) ?_
      rotate_left
      ·intro w hSw; (try dsimp only at hSw); go_simp; try with_reducible rfl
      simp only [Act.put, List.setIfInBounds_toArray, List.set_cons_zero, List.set_cons_succ]
      refine wpAnyH_ready (rs := [0, 2]) (by kernel_rfl) (by simp) ?_
      refine AllReadyH.cons (o := { dst := some 111, op := Op.buildSlice 36 0 #[], type := 36, pos := "l07_nfa.go:117", after := #[], guard := none }) rfl (fun K hK => ?_) ?_
      ·go_simp
       refine hK.out _ _ n2 (fun hHeld => ?_)
       clear hK K
       try simp only [Act.put, List.setIfInBounds_toArray, List.set_cons_zero, List.set_cons_succ]
       refine wpAnyH_ready (rs := [2]) (by kernel_rfl) (by simp) ?_
       refine AllReadyH.cons (o := { dst := some 113, op := Op.load 36 (.tmp 112), type := 36, pos := "l07_nfa.go:117", after := #[{ on := 1, ground := .data }], guard := none }) rfl (fun K hK => ?_) ?_
       ·go_simp
        refine hK.out _ _ n2 (fun hHeld => ?_)
        clear hK K
        try simp only [Act.put, List.setIfInBounds_toArray, List.set_cons_zero, List.set_cons_succ]
        refine wpAnyH_ready (rs := [3]) (by kernel_rfl) (by simp) ?_
        refine AllReadyH.cons (o := { dst := some 114, op := Op.call { callee := Callee.builtin Builtin.append, args := #[.tmp 111, .tmp 113], argTypes := #[36, 36] }, type := 36, pos := "l07_nfa.go:117", after := #[{ on := 0, ground := .data }, { on := 2, ground := .data }], guard := none }) rfl (fun K hK => ?_) ?_
        ·refine step_append_row2 _ rfl (.tmp 111) (.tmp 113) 36 rfl (R + 3) 3 i3 (.int .i64 0) 1 8 Tryz.underlying36 hi3 hz30 hz31 hz32 rfl (by decide) (.slice (some ⟨V.heap.size, 0, none⟩) 0 0) ([] : List Int).length (rowCells []) rfl HNW.out ga G.length gc (rowCells G) rfl HGN.1 (rowCells_len _) HGN.2 (rowCells_one _) (by unfold maxLen; have := HLE.out; simp; omega) (by have := HLE.out; simp; omega) HSN.out.sc.sz ?_
         intro v5 w5 hown5 hgrow5 hloc5
         obtain ⟨ga5, gc5, rfl, _⟩ := own_shape hown5
         have HK5 : Hid (KeptP (fun c => c = V.heap.size) (V.alloc (.cells #[] 3)) w5) := (kp_grown hgrow5).mono (fun c e => by simp [Value.ownBlock] at e; omega)
         have HB5 : Hid (Below V.heap.size V w5) := HBN.out.trans (HK5.out.to_below (by simp) (fun k e => by have e2 : k = V.heap.size := e; omega))
         have HO5 : Hid (w5.ownsRow (R + 3) 3 1 (.slice ga5 G.length gc5) G.length (rowCells G)) := by have h := hown5; simp only [List.length_nil, Nat.zero_add, rowCells, List.map_nil, List.nil_append] at h; exact h
         have HL5 : Hid (∀ b, (Value.slice ga5 G.length gc5).ownBlock = some b → V.heap.size ≤ b) := fun b e => by
          rcases hloc5 with h | ⟨g, h, h2⟩
          ·have e1 : (Value.slice ga5 G.length gc5).ownBlock = (Value.slice ga5 (([] : List Int).length + G.length) gc5).ownBlock := by cases ga5 <;> rfl
           rw [e1, h] at e; simp [Value.ownBlock] at e; omega
          ·have e1 : (Value.slice ga5 G.length gc5).ownBlock = (Value.slice ga5 (([] : List Int).length + G.length) gc5).ownBlock := by cases ga5 <;> rfl
           rw [e1, h] at e; simp at e; simp at h2; omega
         have HS5 := Hid_mk (HSV.out.belowY HB5.out)
         have HG5 := own_src HS5.out.yg
         have g2 : w5.cell? ⟨D, 1, none⟩ = some (.slice za YG.length zc) := HS5.out.yb.cell (i := 1) (by omega)
         simp only [List.length_nil, Nat.zero_add]
         refine hK.out _ _ g2 (fun hHeld => ?_)
         clear hK K
         try simp only [Act.put, List.setIfInBounds_toArray, List.set_cons_zero, List.set_cons_succ]
         refine wpAnyH_ready (rs := [6]) (by kernel_rfl) (by simp) ?_
         refine AllReadyH.cons (o := { dst := some 117, op := Op.call { callee := Callee.builtin Builtin.append, args := #[.tmp 114, .tmp 116], argTypes := #[36, 36] }, type := 36, pos := "l07_nfa.go:117", after := #[{ on := 3, ground := .data }, { on := 5, ground := .data }, { on := 3, ground := .chain }], guard := none }) rfl (fun K hK => ?_) ?_
         ·refine step_append_row2 _ rfl (.tmp 114) (.tmp 116) 36 rfl (R + 3) 3 i3 (.int .i64 0) 1 8 Tryz.underlying36 hi3 hz30 hz31 hz32 rfl (by decide) (.slice ga5 G.length gc5) G.length (rowCells G) rfl HO5.out za YG.length zc (rowCells YG) rfl HG5.1 (rowCells_len _) HG5.2 (rowCells_one _) (by unfold maxLen; have := HLE.out; omega) (by have := HLE.out; omega) HS5.out.sc.sz ?_
          intro v6 w6 hown6 hgrow6 hloc6
          obtain ⟨ga6, gc6, rfl, _⟩ := own_shape hown6
          have HB6 : Hid (Below V.heap.size V w6) := HB5.out.trans ((kp_grown hgrow6).to_below HB5.out.size (fun k e => HL5.out k e))
          have HL6 : Hid (∀ b, (Value.slice ga6 (G.length + YG.length) gc6).ownBlock = some b → V.heap.size ≤ b) := fun b e => by
           rcases hloc6 with h | ⟨g, h, h2⟩
           ·rw [h] at e; exact HL5.out b e
           ·rw [h] at e; simp at e; have := HB5.out.size; omega
          have HS6 := Hid_mk (HSV.out.belowY HB6.out)
          have h2 : w6.cell? ⟨D, 1, none⟩ = some (.slice za YG.length zc) := HS6.out.yb.cell (i := 1) (by omega)
          have h1 : w6.cell? ⟨R + 2, 1, none⟩ = some (.slice ga G.length gc) := HS6.out.sc.out.cell (i := 1) (by omega)
          have hf6 := HS6.out.sc.out.frozen 1
          have hne : D ≠ R + 2 := by have := HS6.out.dR; omega
          refine hK.out _ _ h2 (fun hHeld => ?_)
          clear hK K
          try simp only [Act.put, List.setIfInBounds_toArray, List.set_cons_zero, List.set_cons_succ]
          refine wpAnyH_take (i := 7) (oi := { dst := some 118, op := Op.fieldAddr 104 (.tmp 6) 1, type := 0, pos := "l07_nfa.go:117", after := #[{ on := 0, ground := .phase }, { on := 1, ground := .phase }, { on := 2, ground := .phase }, { on := 3, ground := .phase }, { on := 4, ground := .phase }, { on := 5, ground := .phase }, { on := 6, ground := .phase }], guard := none }) (v := ?_) rfl (by kernel_rfl) (by kernel_rfl) (by kernel_rfl) (fun _ _ _ h => h) (Or.inl ⟨by kernel_rfl, ?_⟩) (by assumption) ?_
          rotate_left
          ·intro w hSw; (try dsimp only at hSw); go_simp; try with_reducible rfl
          simp only [Act.put, List.setIfInBounds_toArray, List.set_cons_zero, List.set_cons_succ]
          refine wpAnyH_ready (rs := [8]) (by kernel_rfl) (by simp) ?_
          refine AllReadyH.cons (o := { dst := none, op := Op.store 36 (.tmp 118) (.tmp 117), type := 0, pos := "l07_nfa.go:117", after := #[{ on := 7, ground := .data }, { on := 6, ground := .data }, { on := 6, ground := .chain }, { on := 0, ground := .phase }, { on := 1, ground := .phase }, { on := 2, ground := .phase }, { on := 3, ground := .phase }, { on := 4, ground := .phase }, { on := 5, ground := .phase }, { on := 6, ground := .phase }], guard := none }) rfl (fun K hK => ?_) ?_
          ·have s9 := fun (u : Value) => cell_set (c := R + 2) (j := 1) h2 u hne
           clear hne
           go_simp
           refine hK.out _ _ (s9 _) (fun hHeld => ?_)
           clear hK K
           try simp only [Act.put, List.setIfInBounds_toArray, List.set_cons_zero, List.set_cons_succ]
           refine wpAnyH_done (by kernel_rfl) ?_ _
           clear hHeld s9 hf6 h1 h2 g2 d1 d2 n1 n2 HGN HG5
           have HS7 := Hid_mk (HSV.out.sc.last (l := G ++ YG) (kp_below HB6.out) (fun k e => .inr e) (own_app hown6) (fun b e e2 => by have := HL6.out b e2; have := (HSV.out.sc.rf.lt b e).2; omega) (fun b e e2 => by have := HL6.out b e; have := (HSV.out.sc.mkr.lab.lt b e2).2; omega) (fun b o e e2 => by have := HL6.out b e2; have := (HSV.out.sc.mkr.off b o e).2.1; omega))
           have HY7 : Hid (Blk (w6.setCell ⟨R + 2, 1, none⟩ (.slice ga6 (G.length + YG.length) gc6)) D 3 (k3 (.slice ya YF.length yc) (.slice za YG.length zc) (.bool true))) := (kp_set w6 (R + 2) 1 _).blk HS6.out.yb (by have := HS6.out.dR; omega)
           clear hown5 hgrow5 hloc5 hown6 hgrow6 hloc6 HS6 HS5 HSV HSN HSW HV HB5 HB6 HK5 HBN
           obtain ⟨X7, HX7⟩ : ∃ X, Hid (X = w6.setCell ⟨R + 2, 1, none⟩ (.slice ga6 (G.length + YG.length) gc6)) := ⟨_, rfl⟩
           rw [← HX7.out] at HS7 HY7 ⊢
           clear HX7
           have z0 : X7.cell? ⟨R + 2, 2, none⟩ = some (.bool true) := HS7.out.out.cell (i := 2) (by omega)
           have z1 : X7.cell? ⟨D, 2, none⟩ = some (.bool true) := HY7.out.cell (i := 2) (by omega)
           have z2 := HS7.out.out.frozen 2
           go_upto_region 13 with fail
           clear z0 z1 z2
           have HSTP : stepK 2 s2 ⟨F, G, true⟩ ⟨YF, YG, true⟩ = (⟨s2.lb, joinF s2.lb G YF s2.ar, s2.bad⟩, ⟨(F ++ YF), G ++ YG, true⟩) := by simp [stepK]
           have hsk := HSK.out
           have hnx := HNX.out
           rw [HSTP] at hsk hnx
           try dsimp only at hsk hnx
           have HLN : Hid (LI M R w (.slice (some ⟨bb, oo, none⟩) m mc) lv aa (k3 (.int .i64 2) (.int .u8 x1) (.slice (some ⟨rb, ro, none⟩) q rc)) (lookK ps n) 2 ks lo0 r (k + 1) _) := ⟨_, _, _, _, _, _, _, _, (Hid_mk (HS7.out.null true)), hsk.1, ⟨by have := HLE.out; show lo0 ≤ s2.lb.length; omega, hsk.2.2.1, hsk.2.2.2⟩, hnx⟩
           clear hsk hnx HSTP
           go_wp2
           go_roundw
           case rel => exact ⟨k + 1, by go_num, by omega, HLN⟩
           case measure => simp [intOf]; omega
          exact AllReadyH.nil
         exact AllReadyH.nil
        exact AllReadyH.nil
       exact AllReadyH.nil
      refine AllReadyH.cons (o := { dst := some 113, op := Op.load 36 (.tmp 112), type := 36, pos := "l07_nfa.go:117", after := #[{ on := 1, ground := .data }], guard := none }) rfl (fun K hK => ?_) ?_
      ·go_simp
       refine hK.out _ _ d2 (fun hHeld => ?_)
       clear hK K
       try simp only [Act.put, List.setIfInBounds_toArray, List.set_cons_zero, List.set_cons_succ]
       refine wpAnyH_ready (rs := [0]) (by kernel_rfl) (by simp) ?_
       refine AllReadyH.cons (o := { dst := some 111, op := Op.buildSlice 36 0 #[], type := 36, pos := "l07_nfa.go:117", after := #[], guard := none }) rfl (fun K hK => ?_) ?_
       ·go_simp
        refine hK.out _ _ n2 (fun hHeld => ?_)
        clear hK K
        try simp only [Act.put, List.setIfInBounds_toArray, List.set_cons_zero, List.set_cons_succ]
        refine wpAnyH_ready (rs := [3]) (by kernel_rfl) (by simp) ?_
        refine AllReadyH.cons (o := { dst := some 114, op := Op.call { callee := Callee.builtin Builtin.append, args := #[.tmp 111, .tmp 113], argTypes := #[36, 36] }, type := 36, pos := "l07_nfa.go:117", after := #[{ on := 0, ground := .data }, { on := 2, ground := .data }], guard := none }) rfl (fun K hK => ?_) ?_
        ·refine step_append_row2 _ rfl (.tmp 111) (.tmp 113) 36 rfl (R + 3) 3 i3 (.int .i64 0) 1 8 Tryz.underlying36 hi3 hz30 hz31 hz32 rfl (by decide) (.slice (some ⟨V.heap.size, 0, none⟩) 0 0) ([] : List Int).length (rowCells []) rfl HNW.out ga G.length gc (rowCells G) rfl HGN.1 (rowCells_len _) HGN.2 (rowCells_one _) (by unfold maxLen; have := HLE.out; simp; omega) (by have := HLE.out; simp; omega) HSN.out.sc.sz ?_
         intro v5 w5 hown5 hgrow5 hloc5
         obtain ⟨ga5, gc5, rfl, _⟩ := own_shape hown5
         have HK5 : Hid (KeptP (fun c => c = V.heap.size) (V.alloc (.cells #[] 3)) w5) := (kp_grown hgrow5).mono (fun c e => by simp [Value.ownBlock] at e; omega)
         have HB5 : Hid (Below V.heap.size V w5) := HBN.out.trans (HK5.out.to_below (by simp) (fun k e => by have e2 : k = V.heap.size := e; omega))
         have HO5 : Hid (w5.ownsRow (R + 3) 3 1 (.slice ga5 G.length gc5) G.length (rowCells G)) := by have h := hown5; simp only [List.length_nil, Nat.zero_add, rowCells, List.map_nil, List.nil_append] at h; exact h
         have HL5 : Hid (∀ b, (Value.slice ga5 G.length gc5).ownBlock = some b → V.heap.size ≤ b) := fun b e => by
          rcases hloc5 with h | ⟨g, h, h2⟩
          ·have e1 : (Value.slice ga5 G.length gc5).ownBlock = (Value.slice ga5 (([] : List Int).length + G.length) gc5).ownBlock := by cases ga5 <;> rfl
           rw [e1, h] at e; simp [Value.ownBlock] at e; omega
          ·have e1 : (Value.slice ga5 G.length gc5).ownBlock = (Value.slice ga5 (([] : List Int).length + G.length) gc5).ownBlock := by cases ga5 <;> rfl
           rw [e1, h] at e; simp at e; simp at h2; omega
         have HS5 := Hid_mk (HSV.out.belowY HB5.out)
         have HG5 := own_src HS5.out.yg
         have g2 : w5.cell? ⟨D, 1, none⟩ = some (.slice za YG.length zc) := HS5.out.yb.cell (i := 1) (by omega)
         simp only [List.length_nil, Nat.zero_add]
         refine hK.out _ _ g2 (fun hHeld => ?_)
         clear hK K
         try simp only [Act.put, List.setIfInBounds_toArray, List.set_cons_zero, List.set_cons_succ]
         refine wpAnyH_ready (rs := [6]) (by kernel_rfl) (by simp) ?_
         refine AllReadyH.cons (o := { dst := some 117, op := Op.call { callee := Callee.builtin Builtin.append, args := #[.tmp 114, .tmp 116], argTypes := #[36, 36] }, type := 36, pos := "l07_nfa.go:117", after := #[{ on := 3, ground := .data }, { on := 5, ground := .data }, { on := 3, ground := .chain }], guard := none }) rfl (fun K hK => ?_) ?_
         ·refine step_append_row2 _ rfl (.tmp 114) (.tmp 116) 36 rfl (R + 3) 3 i3 (.int .i64 0) 1 8 Tryz.underlying36 hi3 hz30 hz31 hz32 rfl (by decide) (.slice ga5 G.length gc5) G.length (rowCells G) rfl HO5.out za YG.length zc (rowCells YG) rfl HG5.1 (rowCells_len _) HG5.2 (rowCells_one _) (by unfold maxLen; have := HLE.out; omega) (by have := HLE.out; omega) HS5.out.sc.sz ?_
          intro v6 w6 hown6 hgrow6 hloc6
          obtain ⟨ga6, gc6, rfl, _⟩ := own_shape hown6
          have HB6 : Hid (Below V.heap.size V w6) := HB5.out.trans ((kp_grown hgrow6).to_below HB5.out.size (fun k e => HL5.out k e))
          have HL6 : Hid (∀ b, (Value.slice ga6 (G.length + YG.length) gc6).ownBlock = some b → V.heap.size ≤ b) := fun b e => by
           rcases hloc6 with h | ⟨g, h, h2⟩
           ·rw [h] at e; exact HL5.out b e
           ·rw [h] at e; simp at e; have := HB5.out.size; omega
          have HS6 := Hid_mk (HSV.out.belowY HB6.out)
          have h2 : w6.cell? ⟨D, 1, none⟩ = some (.slice za YG.length zc) := HS6.out.yb.cell (i := 1) (by omega)
          have h1 : w6.cell? ⟨R + 2, 1, none⟩ = some (.slice ga G.length gc) := HS6.out.sc.out.cell (i := 1) (by omega)
          have hf6 := HS6.out.sc.out.frozen 1
          have hne : D ≠ R + 2 := by have := HS6.out.dR; omega
          refine hK.out _ _ h2 (fun hHeld => ?_)
          clear hK K
          try simp only [Act.put, List.setIfInBounds_toArray, List.set_cons_zero, List.set_cons_succ]
          refine wpAnyH_take (i := 7) (oi := { dst := some 118, op := Op.fieldAddr 104 (.tmp 6) 1, type := 0, pos := "l07_nfa.go:117", after := #[{ on := 0, ground := .phase }, { on := 1, ground := .phase }, { on := 2, ground := .phase }, { on := 3, ground := .phase }, { on := 4, ground := .phase }, { on := 5, ground := .phase }, { on := 6, ground := .phase }], guard := none }) (v := ?_) rfl (by kernel_rfl) (by kernel_rfl) (by kernel_rfl) (fun _ _ _ h => h) (Or.inl ⟨by kernel_rfl, ?_⟩) (by assumption) ?_
          rotate_left
          ·intro w hSw; (try dsimp only at hSw); go_simp; try with_reducible rfl
          simp only [Act.put, List.setIfInBounds_toArray, List.set_cons_zero, List.set_cons_succ]
          refine wpAnyH_ready (rs := [8]) (by kernel_rfl) (by simp) ?_
          refine AllReadyH.cons (o := { dst := none, op := Op.store 36 (.tmp 118) (.tmp 117), type := 0, pos := "l07_nfa.go:117", after := #[{ on := 7, ground := .data }, { on := 6, ground := .data }, { on := 6, ground := .chain }, { on := 0, ground := .phase }, { on := 1, ground := .phase }, { on := 2, ground := .phase }, { on := 3, ground := .phase }, { on := 4, ground := .phase }, { on := 5, ground := .phase }, { on := 6, ground := .phase }], guard := none }) rfl (fun K hK => ?_) ?_
          ·have s9 := fun (u : Value) => cell_set (c := R + 2) (j := 1) h2 u hne
           clear hne
           go_simp
           refine hK.out _ _ (s9 _) (fun hHeld => ?_)
           clear hK K
           try simp only [Act.put, List.setIfInBounds_toArray, List.set_cons_zero, List.set_cons_succ]
           refine wpAnyH_done (by kernel_rfl) ?_ _
           clear hHeld s9 hf6 h1 h2 g2 d1 d2 n1 n2 HGN HG5
           have HS7 := Hid_mk (HSV.out.sc.last (l := G ++ YG) (kp_below HB6.out) (fun k e => .inr e) (own_app hown6) (fun b e e2 => by have := HL6.out b e2; have := (HSV.out.sc.rf.lt b e).2; omega) (fun b e e2 => by have := HL6.out b e; have := (HSV.out.sc.mkr.lab.lt b e2).2; omega) (fun b o e e2 => by have := HL6.out b e2; have := (HSV.out.sc.mkr.off b o e).2.1; omega))
           have HY7 : Hid (Blk (w6.setCell ⟨R + 2, 1, none⟩ (.slice ga6 (G.length + YG.length) gc6)) D 3 (k3 (.slice ya YF.length yc) (.slice za YG.length zc) (.bool true))) := (kp_set w6 (R + 2) 1 _).blk HS6.out.yb (by have := HS6.out.dR; omega)
           clear hown5 hgrow5 hloc5 hown6 hgrow6 hloc6 HS6 HS5 HSV HSN HSW HV HB5 HB6 HK5 HBN
           obtain ⟨X7, HX7⟩ : ∃ X, Hid (X = w6.setCell ⟨R + 2, 1, none⟩ (.slice ga6 (G.length + YG.length) gc6)) := ⟨_, rfl⟩
           rw [← HX7.out] at HS7 HY7 ⊢
           clear HX7
           have z0 : X7.cell? ⟨R + 2, 2, none⟩ = some (.bool true) := HS7.out.out.cell (i := 2) (by omega)
           have z1 : X7.cell? ⟨D, 2, none⟩ = some (.bool true) := HY7.out.cell (i := 2) (by omega)
           have z2 := HS7.out.out.frozen 2
           go_upto_region 13 with fail
           clear z0 z1 z2
           have HSTP : stepK 2 s2 ⟨F, G, true⟩ ⟨YF, YG, true⟩ = (⟨s2.lb, joinF s2.lb G YF s2.ar, s2.bad⟩, ⟨(F ++ YF), G ++ YG, true⟩) := by simp [stepK]
           have hsk := HSK.out
           have hnx := HNX.out
           rw [HSTP] at hsk hnx
           try dsimp only at hsk hnx
           have HLN : Hid (LI M R w (.slice (some ⟨bb, oo, none⟩) m mc) lv aa (k3 (.int .i64 2) (.int .u8 x1) (.slice (some ⟨rb, ro, none⟩) q rc)) (lookK ps n) 2 ks lo0 r (k + 1) _) := ⟨_, _, _, _, _, _, _, _, (Hid_mk (HS7.out.null true)), hsk.1, ⟨by have := HLE.out; show lo0 ≤ s2.lb.length; omega, hsk.2.2.1, hsk.2.2.2⟩, hnx⟩
           clear hsk hnx HSTP
           go_wp2
           go_roundw
           case rel => exact ⟨k + 1, by go_num, by omega, HLN⟩
           case measure => simp [intOf]; omega
          exact AllReadyH.nil
         exact AllReadyH.nil
        exact AllReadyH.nil
       exact AllReadyH.nil
      exact AllReadyH.nil
     ·subst hyl
      have y1 : X4.cell? ⟨D, 1, none⟩ = some (.slice za YG.length zc) := HSW.out.yb.cell (i := 1) (by omega)
      have o1 : X4.cell? ⟨R + 2, 1, none⟩ = some (.slice ga G.length gc) := HSW.out.sc.out.cell (i := 1) (by omega)
      have f1 := HSW.out.sc.out.frozen 1
      go_upto_region 27 with fail
      clear y1 o1 f1 y2
      have HS7 := Hid_mk (HSW.out.sc.last (l := YG) (kp_refl (fun _ => False) X4) (fun k e => e.elim) HSW.out.yg HSW.out.zf.symm HSW.out.zl HSW.out.za)
      have HY7 : Hid (Blk (X4.setCell ⟨R + 2, 1, none⟩ (.slice za YG.length zc)) D 3 (k3 (.slice ya YF.length yc) (.slice za YG.length zc) (.bool false))) := (kp_set X4 (R + 2) 1 _).blk HSW.out.yb (by have := HSW.out.dR; omega)
      clear HSW
      obtain ⟨X7, HX7⟩ : ∃ X, Hid (X = X4.setCell ⟨R + 2, 1, none⟩ (.slice za YG.length zc)) := ⟨_, rfl⟩
      rw [← HX7.out] at HS7 HY7 ⊢
      clear HX7
      have z0 : X7.cell? ⟨R + 2, 2, none⟩ = some (.bool true) := HS7.out.out.cell (i := 2) (by omega)
      have z1 : X7.cell? ⟨D, 2, none⟩ = some (.bool false) := HY7.out.cell (i := 2) (by omega)
      have z2 := HS7.out.out.frozen 2
      go_upto_region 13 with fail
      clear z0 z1 z2
      have HSTP : stepK 2 s2 ⟨F, G, true⟩ ⟨YF, YG, false⟩ = (⟨s2.lb, joinF s2.lb G YF s2.ar, s2.bad⟩, ⟨(F ++ YF), YG, false⟩) := by simp [stepK]
      have hsk := HSK.out
      have hnx := HNX.out
      rw [HSTP] at hsk hnx
      try dsimp only at hsk hnx
      have HLN : Hid (LI M R w (.slice (some ⟨bb, oo, none⟩) m mc) lv aa (k3 (.int .i64 2) (.int .u8 x1) (.slice (some ⟨rb, ro, none⟩) q rc)) (lookK ps n) 2 ks lo0 r (k + 1) _) := ⟨_, _, _, _, _, _, _, _, (Hid_mk (HS7.out.null false)), hsk.1, ⟨by have := HLE.out; show lo0 ≤ s2.lb.length; omega, hsk.2.2.1, hsk.2.2.2⟩, hnx⟩
      clear hsk hnx HSTP
      go_wp2
      go_roundw
      case rel => exact ⟨k + 1, by go_num, by omega, HLN⟩
      case measure => simp [intOf]; omega
    ·subst hnl
     go_upto_region 24 with fail
     have HSW := HSZ
     clear n2 HSZ
     obtain ⟨X4, HX4⟩ : ∃ X, Hid (X = w3) := ⟨_, rfl⟩
     rw [← HX4.out] at HSW ⊢
     clear HX4
     have y2 : X4.cell? ⟨D, 2, none⟩ = some (.bool ynl) := HSW.out.yb.cell (i := 2) (by omega)
     rcases Bool.eq_false_or_eq_true ynl with hyl | hyl
     ·subst hyl
      go_upto_region 25 with fail
      obtain ⟨V, HV⟩ : ∃ V, Hid (V = X4.drew) := ⟨_, rfl⟩
      have HBD0 : Hid (Below X4.heap.size X4 V) := by rw [HV.out]; exact (Below.refl _ _).drew
      have HSV := Hid_mk (HSW.out.belowY HBD0.out)
      clear y2 HBD0
      have d1 : V.cell? ⟨R + 2, 1, none⟩ = some (.slice ga G.length gc) := HSV.out.sc.out.cell (i := 1) (by omega)
      have d2 : V.cell? ⟨D, 1, none⟩ = some (.slice za YG.length zc) := HSV.out.yb.cell (i := 1) (by omega)
      have HBN : Hid (Below V.heap.size V (V.alloc (.cells #[] 3))) := below1 V _
      have n1 : (V.alloc (.cells #[] 3)).cell? ⟨R + 2, 1, none⟩ = some (.slice ga G.length gc) := cell_below d1 HBN.out (lt_of_cell d1)
      have n2 : (V.alloc (.cells #[] 3)).cell? ⟨D, 1, none⟩ = some (.slice za YG.length zc) := cell_below d2 HBN.out (lt_of_cell d2)
      have HNW : Hid ((V.alloc (.cells #[] 3)).ownsRow (R + 3) 3 1 (.slice (some ⟨V.heap.size, 0, none⟩) 0 0) ([] : List Int).length (rowCells [])) := by
       show World.ownsRow _ _ _ _ _ _ []
       have := World.ownsRow_made V (base := R + 3) (e := 3) (size := 1) #[] 0 HSV.out.sc.sz (Nat.zero_le _) rfl
       simpa using this
      have HSN := Hid_mk (HSV.out.belowY HBN.out)
      have HGN := own_src HSN.out.sc.rg
      refine wp_region_held_drew (S := fun v => v.cell? ⟨D, 1, none⟩ = some (.slice za YG.length zc)) (by kernel_rfl) (by rw [← HV.out]; exact d2) (fun hHeld => ?_)
      rw [← HV.out]
      refine wpAnyH_take (i := 1) (oi := { dst := some 112, op := Op.fieldAddr 104 (.tmp 6) 1, type := 0, pos := "l07_nfa.go:117", after := #[], guard := none }) (v := ?_) rfl (by kernel_rfl) (by kernel_rfl) (by kernel_rfl) (fun _ _ _ h => h) (Or.inl ⟨by kernel_rfl, ?_⟩) (by assumption) ?_
      rotate_left
      ·intro w hSw; (try dsimp only at hSw); go_simp; try with_reducible rfl
      simp only [Act.put, List.setIfInBounds_toArray, List.set_cons_zero, List.set_cons_succ]
      refine wpAnyH_take (i := 4) (oi := { dst := some 115, op := Op.fieldAddr 104 (.tmp 9) 1, type := 0, pos := "l07_nfa.go:117", after := #[], guard := none }) (v := ?_) rfl (by kernel_rfl) (by kernel_rfl) (by kernel_rfl) (fun _ _ _ h => h) (Or.inl ⟨by kernel_rfl, ?_⟩) (by assumption) ?_
      rotate_left
      ·intro w hSw; (try dsimp only at hSw); go_simp; try with_reducible rfl
      simp only [Act.put, List.setIfInBounds_toArray, List.set_cons_zero, List.set_cons_succ]
      refine wpAnyH_take (i := 5) (oi := { dst := some 116, op := Op.load 36 (.tmp 115), type := 36, pos := "l07_nfa.go:117", after := #[{ on := 4, ground := .data }], guard := none }) (v := ?_) rfl (by kernel_rfl) (by kernel_rfl) (by kernel_rfl) (fun _ _ _ h => h) (Or.inl ⟨by kernel_rfl, ?_⟩) (by assumption) ?_
      rotate_left
      ·intro w hSw; (try dsimp only at hSw); go_simp; try with_reducible rfl
      simp only [Act.put, List.setIfInBounds_toArray, List.set_cons_zero, List.set_cons_succ]
      refine wpAnyH_ready (rs := [0, 2]) (by kernel_rfl) (by simp) ?_
      refine AllReadyH.cons (o := { dst := some 111, op := Op.buildSlice 36 0 #[], type := 36, pos := "l07_nfa.go:117", after := #[], guard := none }) rfl (fun K hK => ?_) ?_
      ·go_simp
       refine hK.out _ _ n2 (fun hHeld => ?_)
       clear hK K
       try simp only [Act.put, List.setIfInBounds_toArray, List.set_cons_zero, List.set_cons_succ]
       refine wpAnyH_ready (rs := [2]) (by kernel_rfl) (by simp) ?_
       refine AllReadyH.cons (o := { dst := some 113, op := Op.load 36 (.tmp 112), type := 36, pos := "l07_nfa.go:117", after := #[{ on := 1, ground := .data }], guard := none }) rfl (fun K hK => ?_) ?_
       ·go_simp
        refine hK.out _ _ n2 (fun hHeld => ?_)
        clear hK K
        try simp only [Act.put, List.setIfInBounds_toArray, List.set_cons_zero, List.set_cons_succ]
        refine wpAnyH_ready (rs := [3]) (by kernel_rfl) (by simp) ?_
        refine AllReadyH.cons (o := { dst := some 114, op := Op.call { callee := Callee.builtin Builtin.append, args := #[.tmp 111, .tmp 113], argTypes := #[36, 36] }, type := 36, pos := "l07_nfa.go:117", after := #[{ on := 0, ground := .data }, { on := 2, ground := .data }], guard := none }) rfl (fun K hK => ?_) ?_
        ·refine step_append_row2 _ rfl (.tmp 111) (.tmp 113) 36 rfl (R + 3) 3 i3 (.int .i64 0) 1 8 Tryz.underlying36 hi3 hz30 hz31 hz32 rfl (by decide) (.slice (some ⟨V.heap.size, 0, none⟩) 0 0) ([] : List Int).length (rowCells []) rfl HNW.out ga G.length gc (rowCells G) rfl HGN.1 (rowCells_len _) HGN.2 (rowCells_one _) (by unfold maxLen; have := HLE.out; simp; omega) (by have := HLE.out; simp; omega) HSN.out.sc.sz ?_
         intro v5 w5 hown5 hgrow5 hloc5
         obtain ⟨ga5, gc5, rfl, _⟩ := own_shape hown5
         have HK5 : Hid (KeptP (fun c => c = V.heap.size) (V.alloc (.cells #[] 3)) w5) := (kp_grown hgrow5).mono (fun c e => by simp [Value.ownBlock] at e; omega)
         have HB5 : Hid (Below V.heap.size V w5) := HBN.out.trans (HK5.out.to_below (by simp) (fun k e => by have e2 : k = V.heap.size := e; omega))
         have HO5 : Hid (w5.ownsRow (R + 3) 3 1 (.slice ga5 G.length gc5) G.length (rowCells G)) := by have h := hown5; simp only [List.length_nil, Nat.zero_add, rowCells, List.map_nil, List.nil_append] at h; exact h
         have HL5 : Hid (∀ b, (Value.slice ga5 G.length gc5).ownBlock = some b → V.heap.size ≤ b) := fun b e => by
          rcases hloc5 with h | ⟨g, h, h2⟩
          ·have e1 : (Value.slice ga5 G.length gc5).ownBlock = (Value.slice ga5 (([] : List Int).length + G.length) gc5).ownBlock := by cases ga5 <;> rfl
           rw [e1, h] at e; simp [Value.ownBlock] at e; omega
          ·have e1 : (Value.slice ga5 G.length gc5).ownBlock = (Value.slice ga5 (([] : List Int).length + G.length) gc5).ownBlock := by cases ga5 <;> rfl
           rw [e1, h] at e; simp at e; simp at h2; omega
         have HS5 := Hid_mk (HSV.out.belowY HB5.out)
         have HG5 := own_src HS5.out.yg
         have g2 : w5.cell? ⟨D, 1, none⟩ = some (.slice za YG.length zc) := HS5.out.yb.cell (i := 1) (by omega)
         simp only [List.length_nil, Nat.zero_add]
         refine hK.out _ _ g2 (fun hHeld => ?_)
         clear hK K
         try simp only [Act.put, List.setIfInBounds_toArray, List.set_cons_zero, List.set_cons_succ]
         refine wpAnyH_ready (rs := [6]) (by kernel_rfl) (by simp) ?_
         refine AllReadyH.cons (o := { dst := some 117, op := Op.call { callee := Callee.builtin Builtin.append, args := #[.tmp 114, .tmp 116], argTypes := #[36, 36] }, type := 36, pos := "l07_nfa.go:117", after := #[{ on := 3, ground := .data }, { on := 5, ground := .data }, { on := 3, ground := .chain }], guard := none }) rfl (fun K hK => ?_) ?_
         ·refine step_append_row2 _ rfl (.tmp 114) (.tmp 116) 36 rfl (R + 3) 3 i3 (.int .i64 0) 1 8 Tryz.underlying36 hi3 hz30 hz31 hz32 rfl (by decide) (.slice ga5 G.length gc5) G.length (rowCells G) rfl HO5.out za YG.length zc (rowCells YG) rfl HG5.1 (rowCells_len _) HG5.2 (rowCells_one _) (by unfold maxLen; have := HLE.out; omega) (by have := HLE.out; omega) HS5.out.sc.sz ?_
          intro v6 w6 hown6 hgrow6 hloc6
          obtain ⟨ga6, gc6, rfl, _⟩ := own_shape hown6
          have HB6 : Hid (Below V.heap.size V w6) := HB5.out.trans ((kp_grown hgrow6).to_below HB5.out.size (fun k e => HL5.out k e))
          have HL6 : Hid (∀ b, (Value.slice ga6 (G.length + YG.length) gc6).ownBlock = some b → V.heap.size ≤ b) := fun b e => by
           rcases hloc6 with h | ⟨g, h, h2⟩
           ·rw [h] at e; exact HL5.out b e
           ·rw [h] at e; simp at e; have := HB5.out.size; omega
          have HS6 := Hid_mk (HSV.out.belowY HB6.out)
          have h2 : w6.cell? ⟨D, 1, none⟩ = some (.slice za YG.length zc) := HS6.out.yb.cell (i := 1) (by omega)
          have h1 : w6.cell? ⟨R + 2, 1, none⟩ = some (.slice ga G.length gc) := HS6.out.sc.out.cell (i := 1) (by omega)
          have hf6 := HS6.out.sc.out.frozen 1
          have hne : D ≠ R + 2 := by have := HS6.out.dR; omega
          refine hK.out _ _ h2 (fun hHeld => ?_)
          clear hK K
          try simp only [Act.put, List.setIfInBounds_toArray, List.set_cons_zero, List.set_cons_succ]
          refine wpAnyH_take (i := 7) (oi := { dst := some 118, op := Op.fieldAddr 104 (.tmp 6) 1, type := 0, pos := "l07_nfa.go:117", after := #[{ on := 0, ground := .phase }, { on := 1, ground := .phase }, { on := 2, ground := .phase }, { on := 3, ground := .phase }, { on := 4, ground := .phase }, { on := 5, ground := .phase }, { on := 6, ground := .phase }], guard := none }) (v := ?_) rfl (by kernel_rfl) (by kernel_rfl) (by kernel_rfl) (fun _ _ _ h => h) (Or.inl ⟨by kernel_rfl, ?_⟩) (by assumption) ?_
          rotate_left
          ·intro w hSw; (try dsimp only at hSw); go_simp; try with_reducible rfl
          simp only [Act.put, List.setIfInBounds_toArray, List.set_cons_zero, List.set_cons_succ]
          refine wpAnyH_ready (rs := [8]) (by kernel_rfl) (by simp) ?_
          refine AllReadyH.cons (o := { dst := none, op := Op.store 36 (.tmp 118) (.tmp 117), type := 0, pos := "l07_nfa.go:117", after := #[{ on := 7, ground := .data }, { on := 6, ground := .data }, { on := 6, ground := .chain }, { on := 0, ground := .phase }, { on := 1, ground := .phase }, { on := 2, ground := .phase }, { on := 3, ground := .phase }, { on := 4, ground := .phase }, { on := 5, ground := .phase }, { on := 6, ground := .phase }], guard := none }) rfl (fun K hK => ?_) ?_
          ·have s9 := fun (u : Value) => cell_set (c := R + 2) (j := 1) h2 u hne
           clear hne
           go_simp
           refine hK.out _ _ (s9 _) (fun hHeld => ?_)
           clear hK K
           try simp only [Act.put, List.setIfInBounds_toArray, List.set_cons_zero, List.set_cons_succ]
           refine wpAnyH_done (by kernel_rfl) ?_ _
           clear hHeld s9 hf6 h1 h2 g2 d1 d2 n1 n2 HGN HG5
           have HS7 := Hid_mk (HSV.out.sc.last (l := G ++ YG) (kp_below HB6.out) (fun k e => .inr e) (own_app hown6) (fun b e e2 => by have := HL6.out b e2; have := (HSV.out.sc.rf.lt b e).2; omega) (fun b e e2 => by have := HL6.out b e; have := (HSV.out.sc.mkr.lab.lt b e2).2; omega) (fun b o e e2 => by have := HL6.out b e2; have := (HSV.out.sc.mkr.off b o e).2.1; omega))
           have HY7 : Hid (Blk (w6.setCell ⟨R + 2, 1, none⟩ (.slice ga6 (G.length + YG.length) gc6)) D 3 (k3 (.slice ya YF.length yc) (.slice za YG.length zc) (.bool true))) := (kp_set w6 (R + 2) 1 _).blk HS6.out.yb (by have := HS6.out.dR; omega)
           clear hown5 hgrow5 hloc5 hown6 hgrow6 hloc6 HS6 HS5 HSV HSN HSW HV HB5 HB6 HK5 HBN
           obtain ⟨X7, HX7⟩ : ∃ X, Hid (X = w6.setCell ⟨R + 2, 1, none⟩ (.slice ga6 (G.length + YG.length) gc6)) := ⟨_, rfl⟩
           rw [← HX7.out] at HS7 HY7 ⊢
           clear HX7
           have z0 : X7.cell? ⟨R + 2, 2, none⟩ = some (.bool false) := HS7.out.out.cell (i := 2) (by omega)
           have z1 : X7.cell? ⟨D, 2, none⟩ = some (.bool true) := HY7.out.cell (i := 2) (by omega)
           have z2 := HS7.out.out.frozen 2
           go_upto_region 13 with fail
           clear z0 z1 z2
           have HSTP : stepK 2 s2 ⟨F, G, false⟩ ⟨YF, YG, true⟩ = (⟨s2.lb, joinF s2.lb G YF s2.ar, s2.bad⟩, ⟨F, G ++ YG, false⟩) := by simp [stepK]
           have hsk := HSK.out
           have hnx := HNX.out
           rw [HSTP] at hsk hnx
           try dsimp only at hsk hnx
           have HLN : Hid (LI M R w (.slice (some ⟨bb, oo, none⟩) m mc) lv aa (k3 (.int .i64 2) (.int .u8 x1) (.slice (some ⟨rb, ro, none⟩) q rc)) (lookK ps n) 2 ks lo0 r (k + 1) _) := ⟨_, _, _, _, _, _, _, _, (Hid_mk (HS7.out.null false)), hsk.1, ⟨by have := HLE.out; show lo0 ≤ s2.lb.length; omega, hsk.2.2.1, hsk.2.2.2⟩, hnx⟩
           clear hsk hnx HSTP
           go_wp2
           go_roundw
           case rel => exact ⟨k + 1, by go_num, by omega, HLN⟩
           case measure => simp [intOf]; omega
          exact AllReadyH.nil
         exact AllReadyH.nil
        exact AllReadyH.nil
       exact AllReadyH.nil
      refine AllReadyH.cons (o := { dst := some 113, op := Op.load 36 (.tmp 112), type := 36, pos := "l07_nfa.go:117", after := #[{ on := 1, ground := .data }], guard := none }) rfl (fun K hK => ?_) ?_
      ·go_simp
       refine hK.out _ _ d2 (fun hHeld => ?_)
       clear hK K
       try simp only [Act.put, List.setIfInBounds_toArray, List.set_cons_zero, List.set_cons_succ]
       refine wpAnyH_ready (rs := [0]) (by kernel_rfl) (by simp) ?_
       refine AllReadyH.cons (o := { dst := some 111, op := Op.buildSlice 36 0 #[], type := 36, pos := "l07_nfa.go:117", after := #[], guard := none }) rfl (fun K hK => ?_) ?_
       ·go_simp
        refine hK.out _ _ n2 (fun hHeld => ?_)
        clear hK K
        try simp only [Act.put, List.setIfInBounds_toArray, List.set_cons_zero, List.set_cons_succ]
        refine wpAnyH_ready (rs := [3]) (by kernel_rfl) (by simp) ?_
        refine AllReadyH.cons (o := { dst := some 114, op := Op.call { callee := Callee.builtin Builtin.append, args := #[.tmp 111, .tmp 113], argTypes := #[36, 36] }, type := 36, pos := "l07_nfa.go:117", after := #[{ on := 0, ground := .data }, { on := 2, ground := .data }], guard := none }) rfl (fun K hK => ?_) ?_
        ·refine step_append_row2 _ rfl (.tmp 111) (.tmp 113) 36 rfl (R + 3) 3 i3 (.int .i64 0) 1 8 Tryz.underlying36 hi3 hz30 hz31 hz32 rfl (by decide) (.slice (some ⟨V.heap.size, 0, none⟩) 0 0) ([] : List Int).length (rowCells []) rfl HNW.out ga G.length gc (rowCells G) rfl HGN.1 (rowCells_len _) HGN.2 (rowCells_one _) (by unfold maxLen; have := HLE.out; simp; omega) (by have := HLE.out; simp; omega) HSN.out.sc.sz ?_
         intro v5 w5 hown5 hgrow5 hloc5
         obtain ⟨ga5, gc5, rfl, _⟩ := own_shape hown5
         have HK5 : Hid (KeptP (fun c => c = V.heap.size) (V.alloc (.cells #[] 3)) w5) := (kp_grown hgrow5).mono (fun c e => by simp [Value.ownBlock] at e; omega)
         have HB5 : Hid (Below V.heap.size V w5) := HBN.out.trans (HK5.out.to_below (by simp) (fun k e => by have e2 : k = V.heap.size := e; omega))
         have HO5 : Hid (w5.ownsRow (R + 3) 3 1 (.slice ga5 G.length gc5) G.length (rowCells G)) := by have h := hown5; simp only [List.length_nil, Nat.zero_add, rowCells, List.map_nil, List.nil_append] at h; exact h
         have HL5 : Hid (∀ b, (Value.slice ga5 G.length gc5).ownBlock = some b → V.heap.size ≤ b) := fun b e => by
          rcases hloc5 with h | ⟨g, h, h2⟩
          ·have e1 : (Value.slice ga5 G.length gc5).ownBlock = (Value.slice ga5 (([] : List Int).length + G.length) gc5).ownBlock := by cases ga5 <;> rfl
           rw [e1, h] at e; simp [Value.ownBlock] at e; omega
          ·have e1 : (Value.slice ga5 G.length gc5).ownBlock = (Value.slice ga5 (([] : List Int).length + G.length) gc5).ownBlock := by cases ga5 <;> rfl
           rw [e1, h] at e; simp at e; simp at h2; omega
         have HS5 := Hid_mk (HSV.out.belowY HB5.out)
         have HG5 := own_src HS5.out.yg
         have g2 : w5.cell? ⟨D, 1, none⟩ = some (.slice za YG.length zc) := HS5.out.yb.cell (i := 1) (by omega)
         simp only [List.length_nil, Nat.zero_add]
         refine hK.out _ _ g2 (fun hHeld => ?_)
         clear hK K
         try simp only [Act.put, List.setIfInBounds_toArray, List.set_cons_zero, List.set_cons_succ]
         refine wpAnyH_ready (rs := [6]) (by kernel_rfl) (by simp) ?_
         refine AllReadyH.cons (o := { dst := some 117, op := Op.call { callee := Callee.builtin Builtin.append, args := #[.tmp 114, .tmp 116], argTypes := #[36, 36] }, type := 36, pos := "l07_nfa.go:117", after := #[{ on := 3, ground := .data }, { on := 5, ground := .data }, { on := 3, ground := .chain }], guard := none }) rfl (fun K hK => ?_) ?_
         ·refine step_append_row2 _ rfl (.tmp 114) (.tmp 116) 36 rfl (R + 3) 3 i3 (.int .i64 0) 1 8 Tryz.underlying36 hi3 hz30 hz31 hz32 rfl (by decide) (.slice ga5 G.length gc5) G.length (rowCells G) rfl HO5.out za YG.length zc (rowCells YG) rfl HG5.1 (rowCells_len _) HG5.2 (rowCells_one _) (by unfold maxLen; have := HLE.out; omega) (by have := HLE.out; omega) HS5.out.sc.sz ?_
          intro v6 w6 hown6 hgrow6 hloc6
          obtain ⟨ga6, gc6, rfl, _⟩ := own_shape hown6
          have HB6 : Hid (Below V.heap.size V w6) := HB5.out.trans ((kp_grown hgrow6).to_below HB5.out.size (fun k e => HL5.out k e))
          have HL6 : Hid (∀ b, (Value.slice ga6 (G.length + YG.length) gc6).ownBlock = some b → V.heap.size ≤ b) := fun b e => by
           rcases hloc6 with h | ⟨g, h, h2⟩
           ·rw [h] at e; exact HL5.out b e
           ·rw [h] at e; simp at e; have := HB5.out.size; omega
          have HS6 := Hid_mk (HSV.out.belowY HB6.out)
          have h2 : w6.cell? ⟨D, 1, none⟩ = some (.slice za YG.length zc) := HS6.out.yb.cell (i := 1) (by omega)
          have h1 : w6.cell? ⟨R + 2, 1, none⟩ = some (.slice ga G.length gc) := HS6.out.sc.out.cell (i := 1) (by omega)
          have hf6 := HS6.out.sc.out.frozen 1
          have hne : D ≠ R + 2 := by have := HS6.out.dR; omega
          refine hK.out _ _ h2 (fun hHeld => ?_)
          clear hK K
          try simp only [Act.put, List.setIfInBounds_toArray, List.set_cons_zero, List.set_cons_succ]
          refine wpAnyH_take (i := 7) (oi := { dst := some 118, op := Op.fieldAddr 104 (.tmp 6) 1, type := 0, pos := "l07_nfa.go:117", after := #[{ on := 0, ground := .phase }, { on := 1, ground := .phase }, { on := 2, ground := .phase }, { on := 3, ground := .phase }, { on := 4, ground := .phase }, { on := 5, ground := .phase }, { on := 6, ground := .phase }], guard := none }) (v := ?_) rfl (by kernel_rfl) (by kernel_rfl) (by kernel_rfl) (fun _ _ _ h => h) (Or.inl ⟨by kernel_rfl, ?_⟩) (by assumption) ?_
          rotate_left
          ·intro w hSw; (try dsimp only at hSw); go_simp; try with_reducible rfl
          simp only [Act.put, List.setIfInBounds_toArray, List.set_cons_zero, List.set_cons_succ]
          refine wpAnyH_ready (rs := [8]) (by kernel_rfl) (by simp) ?_
          refine AllReadyH.cons (o := { dst := none, op := Op.store 36 (.tmp 118) (.tmp 117), type := 0, pos := "l07_nfa.go:117", after := #[{ on := 7, ground := .data }, { on := 6, ground := .data }, { on := 6, ground := .chain }, { on := 0, ground := .phase }, { on := 1, ground := .phase }, { on := 2, ground := .phase }, { on := 3, ground := .phase }, { on := 4, ground := .phase }, { on := 5, ground := .phase }, { on := 6, ground := .phase }], guard := none }) rfl (fun K hK => ?_) ?_
          ·have s9 := fun (u : Value) => cell_set (c := R + 2) (j := 1) h2 u hne
           clear hne
           go_simp
           refine hK.out _ _ (s9 _) (fun hHeld => ?_)
           clear hK K
           try simp only [Act.put, List.setIfInBounds_toArray, List.set_cons_zero, List.set_cons_succ]
           refine wpAnyH_done (by kernel_rfl) ?_ _
           clear hHeld s9 hf6 h1 h2 g2 d1 d2 n1 n2 HGN HG5
           have HS7 := Hid_mk (HSV.out.sc.last (l := G ++ YG) (kp_below HB6.out) (fun k e => .inr e) (own_app hown6) (fun b e e2 => by have := HL6.out b e2; have := (HSV.out.sc.rf.lt b e).2; omega) (fun b e e2 => by have := HL6.out b e; have := (HSV.out.sc.mkr.lab.lt b e2).2; omega) (fun b o e e2 => by have := HL6.out b e2; have := (HSV.out.sc.mkr.off b o e).2.1; omega))
           have HY7 : Hid (Blk (w6.setCell ⟨R + 2, 1, none⟩ (.slice ga6 (G.length + YG.length) gc6)) D 3 (k3 (.slice ya YF.length yc) (.slice za YG.length zc) (.bool true))) := (kp_set w6 (R + 2) 1 _).blk HS6.out.yb (by have := HS6.out.dR; omega)
           clear hown5 hgrow5 hloc5 hown6 hgrow6 hloc6 HS6 HS5 HSV HSN HSW HV HB5 HB6 HK5 HBN
           obtain ⟨X7, HX7⟩ : ∃ X, Hid (X = w6.setCell ⟨R + 2, 1, none⟩ (.slice ga6 (G.length + YG.length) gc6)) := ⟨_, rfl⟩
           rw [← HX7.out] at HS7 HY7 ⊢
           clear HX7
           have z0 : X7.cell? ⟨R + 2, 2, none⟩ = some (.bool false) := HS7.out.out.cell (i := 2) (by omega)
           have z1 : X7.cell? ⟨D, 2, none⟩ = some (.bool true) := HY7.out.cell (i := 2) (by omega)
           have z2 := HS7.out.out.frozen 2
           go_upto_region 13 with fail
           clear z0 z1 z2
           have HSTP : stepK 2 s2 ⟨F, G, false⟩ ⟨YF, YG, true⟩ = (⟨s2.lb, joinF s2.lb G YF s2.ar, s2.bad⟩, ⟨F, G ++ YG, false⟩) := by simp [stepK]
           have hsk := HSK.out
           have hnx := HNX.out
           rw [HSTP] at hsk hnx
           try dsimp only at hsk hnx
           have HLN : Hid (LI M R w (.slice (some ⟨bb, oo, none⟩) m mc) lv aa (k3 (.int .i64 2) (.int .u8 x1) (.slice (some ⟨rb, ro, none⟩) q rc)) (lookK ps n) 2 ks lo0 r (k + 1) _) := ⟨_, _, _, _, _, _, _, _, (Hid_mk (HS7.out.null false)), hsk.1, ⟨by have := HLE.out; show lo0 ≤ s2.lb.length; omega, hsk.2.2.1, hsk.2.2.2⟩, hnx⟩
           clear hsk hnx HSTP
           go_wp2
           go_roundw
           case rel => exact ⟨k + 1, by go_num, by omega, HLN⟩
           case measure => simp [intOf]; omega
          exact AllReadyH.nil
         exact AllReadyH.nil
        exact AllReadyH.nil
       exact AllReadyH.nil
      exact AllReadyH.nil
     ·subst hyl
      have y1 : X4.cell? ⟨D, 1, none⟩ = some (.slice za YG.length zc) := HSW.out.yb.cell (i := 1) (by omega)
      have o1 : X4.cell? ⟨R + 2, 1, none⟩ = some (.slice ga G.length gc) := HSW.out.sc.out.cell (i := 1) (by omega)
      have f1 := HSW.out.sc.out.frozen 1
      go_upto_region 27 with fail
      clear y1 o1 f1 y2
      have HS7 := Hid_mk (HSW.out.sc.last (l := YG) (kp_refl (fun _ => False) X4) (fun k e => e.elim) HSW.out.yg HSW.out.zf.symm HSW.out.zl HSW.out.za)
      have HY7 : Hid (Blk (X4.setCell ⟨R + 2, 1, none⟩ (.slice za YG.length zc)) D 3 (k3 (.slice ya YF.length yc) (.slice za YG.length zc) (.bool false))) := (kp_set X4 (R + 2) 1 _).blk HSW.out.yb (by have := HSW.out.dR; omega)
      clear HSW
      obtain ⟨X7, HX7⟩ : ∃ X, Hid (X = X4.setCell ⟨R + 2, 1, none⟩ (.slice za YG.length zc)) := ⟨_, rfl⟩
      rw [← HX7.out] at HS7 HY7 ⊢
      clear HX7
      have z0 : X7.cell? ⟨R + 2, 2, none⟩ = some (.bool false) := HS7.out.out.cell (i := 2) (by omega)
      have z1 : X7.cell? ⟨D, 2, none⟩ = some (.bool false) := HY7.out.cell (i := 2) (by omega)
      have z2 := HS7.out.out.frozen 2
      go_upto_region 13 with fail
      clear z0 z1 z2
      have HSTP : stepK 2 s2 ⟨F, G, false⟩ ⟨YF, YG, false⟩ = (⟨s2.lb, joinF s2.lb G YF s2.ar, s2.bad⟩, ⟨F, YG, false⟩) := by simp [stepK]
      have hsk := HSK.out
      have hnx := HNX.out
      rw [HSTP] at hsk hnx
      try dsimp only at hsk hnx
      have HLN : Hid (LI M R w (.slice (some ⟨bb, oo, none⟩) m mc) lv aa (k3 (.int .i64 2) (.int .u8 x1) (.slice (some ⟨rb, ro, none⟩) q rc)) (lookK ps n) 2 ks lo0 r (k + 1) _) := ⟨_, _, _, _, _, _, _, _, (Hid_mk (HS7.out.null false)), hsk.1, ⟨by have := HLE.out; show lo0 ≤ s2.lb.length; omega, hsk.2.2.1, hsk.2.2.2⟩, hnx⟩
      clear hsk hnx HSTP
      go_wp2
      go_roundw
      case rel => exact ⟨k + 1, by go_num, by omega, HLN⟩
      case measure => simp [intOf]; omega
  ·have hlt1 : ¬ (k : Int) < (q : Int) := by omega
   have HE : Hid (r = (s1, ⟨F, G, nl⟩)) := kidsK_end HKE.out (.inl (by rw [HQL.out]; omega))
   clear x2
   have e0 : wr.cell? ⟨R + 2, 0, none⟩ = some (.slice fa F.length fc) := HSC.out.out.cell (i := 0) (by omega)
   have e1 : wr.cell? ⟨R + 2, 1, none⟩ = some (.slice ga G.length gc) := HSC.out.out.cell (i := 1) (by omega)
   have e2 : wr.cell? ⟨R + 2, 2, none⟩ = some (.bool nl) := HSC.out.out.cell (i := 2) (by omega)
   have b1 := HSC.out.res.set 0 (by omega) (.slice fa F.length fc)
   have b2 := b1.set 1 (by omega) (.slice ga G.length gc)
   have q0 : wr.cell? ⟨R, 0, none⟩ = some (.slice none 0 0) := HSC.out.res.cell (i := 0) (by omega)
   have q1 : (wr.setCell ⟨R, 0, none⟩ (.slice fa F.length fc)).cell? ⟨R, 1, none⟩ = some (.slice none 0 0) := b1.cell (i := 1) (by omega)
   have q2 : ((wr.setCell ⟨R, 0, none⟩ (.slice fa F.length fc)).setCell ⟨R, 1, none⟩ (.slice ga G.length gc)).cell? ⟨R, 2, none⟩ = some (.bool false) := b2.cell (i := 2) (by omega)
   have q3 := HSC.out.res.frozen 0
   have q4 := b1.frozen 1
   have q5 := b2.frozen 2
   have x2 : wr.cell? ⟨R + 1, 2, none⟩ = some (.slice ra q rc) := HSC.out.x.cell (i := 2) (by omega)
   clear b1 b2
   go_wp2_with fail
   obtain rfl : FF = Tryz.f58 := HFF.out
   refine bodyPost_ret (res_look (k := 4) (t := 104) (b := R) Tryz.results58 rfl (load_look (k3_put HSC.out.res _ _ _))) rfl ?_
   rw [HE.out]
   exact HSC.out.fin
end Go.Proofs.YtbepmeipjdpipaaGreat
