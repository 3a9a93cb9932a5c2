import Derived.Test.YtbepmeipjdpipaaGreatJo11
namespace Go.Proofs.YtbepmeipjdpipaaGreat
open Go.RowKit
set_option maxHeartbeats 2000000 in
set_option maxRecDepth 100000 in
theorem look_alt (lo hi M z n : Nat) (b : Option Addr) (m mc : Nat) (ps : List Pc) (lv : Value) (s : MkS) (aa : Option Addr) (an ac : Nat) (w : World) (ha : PathIn lo hi w b ps) (hh : hi ≤ M) (hn : ps.length = m) (hz : z < m) (hzn : z < n + 1) (hop : (pat ps z).1 = 3) (hok : ∀ i, i < ps.length → formOk (pat ps i) = true ∧ kidsOk i (pat ps i).2.2 = true) (hq : (pat ps z).2.2.length ≤ 1048576) (hmk : Mk M w (.slice b m mc) lv s aa an ac) (hs : MkOk s) (hb : s.bad = false)
  (ih : ∀ k, k < z → ∀ (s' : MkS) (lv' : Value) (aa' : Option Addr) (an' ac' : Nat) (w' : World), PathIn lo hi w' b ps → Mk M w' (.slice b m mc) lv' s' aa' an' ac' → MkOk s' → s'.bad = false → Calls Tryz.prog 58 #[.pointer (some ⟨M, 0, none⟩), .int .i64 (k : Int)] w' (LookPost M w' (.slice b m mc) lv' aa' (lookK ps n k s'))) :
  Calls Tryz.prog 58 #[.pointer (some ⟨M, 0, none⟩), .int .i64 (z : Int)] w (LookPost M w (.slice b m mc) lv aa (lookK ps (n + 1) z s)) := by
 have HA : Hid (PathIn lo hi w b ps) := ha
 have HOK : Hid (∀ i, i < ps.length → formOk (pat ps i) = true ∧ kidsOk i (pat ps i).2.2 = true) := hok
 have HIH : Hid (∀ k, k < z → ∀ (s' : MkS) (lv' : Value) (aa' : Option Addr) (an' ac' : Nat) (w' : World), PathIn lo hi w' b ps → Mk M w' (.slice b m mc) lv' s' aa' an' ac' → MkOk s' → s'.bad = false → Calls Tryz.prog 58 #[.pointer (some ⟨M, 0, none⟩), .int .i64 (k : Int)] w' (LookPost M w' (.slice b m mc) lv' aa' (lookK ps n k s'))) := ih
 have HN : Hid (ps.length = m ∧ z < m ∧ hi ≤ M ∧ z < n + 1) := ⟨hn, hz, hh, hzn⟩
 have hkz := (hok z (by omega)).2
 obtain ⟨i3, hi3, hz30, hz31, hz32⟩ := info_parts Tryz.info3
 obtain ⟨bb, oo, rfl, _, hbh, p0, p1, ra, rc, p2, hrow⟩ := ha.piece (k := z) (by rw [hn]; exact hz)
 obtain ⟨r, HRR⟩ : ∃ r, Hid (r = lookK ps (n + 1) z s) := ⟨_, rfl⟩
 rw [← HRR.out]
 obtain ⟨x, HX⟩ : ∃ x, Hid (x = pat ps z) := ⟨_, rfl⟩
 have HRU : Hid (r = lookK ps (n + 1) z s) := HRR
 have hru := HRU.out
 unfold lookK at hru
 rw [← HX.out] at p0 p1 p2 hop hq hrow hru hkz
 obtain ⟨x0, x1, ks⟩ := x
 dsimp only at p0 p1 p2 hop hq hrow hru hkz
 subst hop
 rw [if_neg (by omega)] at hru
 have HKR : Hid (kidsK (lookK ps n) 3 ks s ⟨[], [], decide ((3 : Int) = 2)⟩ = r) := hru.symm
 clear hru HRU HRR HX
 obtain ⟨q, HQL⟩ : ∃ q, Hid (ks.length = q) := ⟨_, rfl⟩
 rw [HQL.out] at p2 hq
 have HKO : Hid (∀ j, j < q → ∃ t : Nat, ks.getD j 0 = (t : Int) ∧ t < z) := fun j hj => by
  have h1 := List.all_eq_true.1 hkz (ks.getD j 0) (by rw [List.getD, List.getElem?_eq_getElem (by rw [HQL.out]; exact hj)]; exact List.getElem_mem _)
  simp only [Bool.and_eq_true, decide_eq_true_eq] at h1
  exact ⟨(ks.getD j 0).toNat, by omega, by omega⟩
 obtain ⟨R, HR⟩ : ∃ R, Hid (R = w.heap.size) := ⟨_, rfl⟩
 obtain ⟨V, HV⟩ : ∃ W, Hid (W = ((w.alloc (.cells #[.slice none 0 0, .slice none 0 0, .bool false] 104)).alloc (.cells #[.int .i64 3, .int .u8 x1, .slice ra q rc] 127)).alloc (.cells #[.slice none 0 0, .slice none 0 0, .bool false] 104)) := ⟨_, rfl⟩
 have HBV : Hid (Below w.heap.size w V) := by rw [HV.out]; exact below3 w _ _ _
 have HSV : Hid (V.heap.size = R + 3) := by rw [HV.out, HR.out]; show _ = _; simp
 have HRB : Hid (Blk V R 3 (k3 (.slice none 0 0) (.slice none 0 0) (.bool false))) := by rw [HV.out]; exact ((blk_three w R HR.out _ _ _ _).alloc _).alloc _
 have HXB : Hid (Blk V (R + 1) 3 (k3 (.int .i64 3) (.int .u8 x1) (.slice ra q rc))) := by rw [HV.out]; exact (blk_three _ (R + 1) (by rw [HR.out]; simp) _ _ _ _).alloc _
 have HOB : Hid (Blk V (R + 2) 3 (k3 (.slice none 0 0) (.slice none 0 0) (.bool false))) := by rw [HV.out]; exact blk_three _ (R + 2) (by rw [HR.out]; simp) _ _ _ _
 have HM : Hid (M < R ∧ bb < M) := ⟨by rw [HR.out]; exact hmk.blk.lt, by omega⟩
 obtain ⟨lo0, HLO⟩ : ∃ n, Hid (n = s.lb.length) := ⟨_, rfl⟩
 have HL0 : Hid (∀ c, lv.ownBlock = some c → M + 1 ≤ c ∧ c < R) := fun c h => by have h1 := hmk.lab.lt c h; rw [HR.out]; exact h1
 have HSC0 : Hid (Sc M R w (.slice (some ⟨bb, oo, none⟩) m mc) lv aa (k3 (.int .i64 3) (.int .u8 x1) (.slice ra q rc)) V s ⟨[], [], false⟩ lv aa an ac (.slice none 0 0) (.slice none 0 0)) :=
  { mR := HM.out.1
    hR := HR.out
    l0 := fun c h => (HL0.out c h).2
    res := HRB.out
    x := HXB.out
    out := HOB.out
    mkr := hmk.kept (kp_below HBV.out) (by have := hmk.blk.lt; omega) (fun b e => by have := (hmk.lab.lt b e).2; omega) (fun b o e => by have := (hmk.off b o e).2.1; omega)
    rf := ⟨rfl, .inl ⟨rfl, rfl⟩⟩
    rg := ⟨rfl, .inl ⟨rfl, rfl⟩⟩
    fg := fun b e => by cases e
    fl := fun b e => by cases e
    gl := fun b e => by cases e
    af := fun b o e e2 => by cases e2
    ag := fun b o e e2 => by cases e2
    ax := fun b o e => .inl (by have := (hmk.off b o e).2.1; have := HR.out; omega)
    kp := KeptP.of_below HBV.out (fun _ h _ => h)
    nb := .inl rfl
    na := .inl rfl }
 have hz0 : (0 : Int) ≤ (z : Int) := by omega
 have hz1 : (z : Int) < (m : Int) := by omega
 have hm0 : w.cell? ⟨M, 0, none⟩ = some (.slice (some ⟨bb, oo, none⟩) m mc) := hmk.blk.cell (i := 0) (by omega)
 have g0 := cell_below p0 (below1 w (.cells #[.slice none 0 0, .slice none 0 0, .bool false] 104)) (by have := HM.out; have := HR.out; omega)
 have g1 := cell_below p1 (below1 w (.cells #[.slice none 0 0, .slice none 0 0, .bool false] 104)) (by have := HM.out; have := HR.out; omega)
 have g2 := cell_below p2 (below1 w (.cells #[.slice none 0 0, .slice none 0 0, .bool false] 104)) (by have := HM.out; have := HR.out; omega)
 have g3 := cell_below hm0 (below1 w (.cells #[.slice none 0 0, .slice none 0 0, .bool false] 104)) (by have := HM.out; have := HR.out; omega)
 have HRW : Hid (RowIn lo hi w ra ks) := hrow
 have HMS : Hid (MkOk s) := hs
 have HBD : Hid (s.bad = false) := hb
 clear ha hh hn hrow hmk p0 p1 p2 hm0 hbh hok ih hz hzn hkz hs hb
 go_enter Tryz.func58, Tryz.ntmps58
 obtain ⟨FF, HFF⟩ : ∃ F : Func, Hid (F = Tryz.f58) := ⟨_, rfl⟩
 rw [← HFF.out]
 go_upto_region 3 with fail
 rw [← HR.out]
 first | rw [← HV.out] | (rw [show _ = V from HV.out.symm])
 clear HV g0 g1 g2 g3
 have c0 : V.cell? ⟨R + 1, 0, none⟩ = some (.int .i64 3) := HXB.out.cell (i := 0) (by omega)
 go_upto_region 11 with fail
 clear c0
 obtain ⟨W, HW⟩ : ∃ W, Hid (W = V) := ⟨_, rfl⟩
 have HSC1 : Hid (Sc M R w (.slice (some ⟨bb, oo, none⟩) m mc) lv aa (k3 (.int .i64 3) (.int .u8 x1) (.slice ra q rc)) W s ⟨[], [], false⟩ lv aa an ac (.slice none 0 0) (.slice none 0 0)) := by rw [HW.out]; exact HSC0.out
 rw [← HW.out]
 clear HW HSC0 HRB HXB HOB HBV HSV
 go_upto_region 11 with fail
 have HLI : Hid (LI M R w (.slice (some ⟨bb, oo, none⟩) m mc) lv aa (k3 (.int .i64 3) (.int .u8 x1) (.slice ra q rc)) (lookK ps n) 3 ks lo0 r 0 W) := ⟨s, ⟨[], [], false⟩, lv, aa, an, ac, _, _, HSC1, HMS, ⟨by rw [HLO.out]; exact Nat.le_refl _, Sts.nil _ _, Sts.nil _ _⟩, HKR⟩
 clear HSC1 HMS HBD HKR
 go_wp2
 go_loopw [8] (fun i wr => ∃ k : Nat, i = .int .i64 (k : Int) ∧ k ≤ q ∧ Hid (LI M R w (.slice (some ⟨bb, oo, none⟩) m mc) lv aa (k3 (.int .i64 3) (.int .u8 x1) (.slice ra q rc)) (lookK ps n) 3 ks lo0 r k wr)) (fun i _ => q - (intOf i).toNat)
 case atStart => exact ⟨0, rfl, by omega, HLI⟩
 case round =>
  obtain ⟨k, rfl, hk, HI⟩ := hrel
  obtain ⟨s1, o1, lv1, aa1, an1, ac1, fv, gv, HSC, HMO, HST, HKE⟩ := HI.out
  obtain ⟨F, G, nl⟩ := o1
  obtain ⟨fa, fc, rfl, _⟩ := own_shape HSC.out.rf
  obtain ⟨ga, gc, rfl, _⟩ := own_shape HSC.out.rg
  obtain ⟨bd, HBD⟩ : ∃ b, Hid (b = s1.bad) := ⟨_, rfl⟩
  have x2 : wr.cell? ⟨R + 1, 2, none⟩ = some (.slice ra q rc) := HSC.out.x.cell (i := 2) (by omega)
  have m3 : wr.cell? ⟨M, 3, none⟩ = some (.bool bd) := by rw [HBD.out]; exact HSC.out.mkr.blk.cell (i := 3) (by omega)
  by_cases hlt : k < q
  ·have hlt1 : (k : Int) < (q : Int) := by omega
   have hlt0 : (0 : Int) ≤ (k : Int) := by omega
   rcases Bool.eq_false_or_eq_true bd with hbd | hbd
   ·subst hbd
    have HE : Hid (r = (s1, ⟨F, G, nl⟩)) := kidsK_end HKE.out (.inr HBD.out.symm)
    clear x2
    have e0 : wr.cell? ⟨R + 2, 0, none⟩ = some (.slice fa F.length fc) := HSC.out.out.cell (i := 0) (by omega)
    have e1 : wr.cell? ⟨R + 2, 1, none⟩ = some (.slice ga G.length gc) := HSC.out.out.cell (i := 1) (by omega)
    have e2 : wr.cell? ⟨R + 2, 2, none⟩ = some (.bool nl) := HSC.out.out.cell (i := 2) (by omega)
    have b1 := HSC.out.res.set 0 (by omega) (.slice fa F.length fc)
    have b2 := b1.set 1 (by omega) (.slice ga G.length gc)
    have q0 : wr.cell? ⟨R, 0, none⟩ = some (.slice none 0 0) := HSC.out.res.cell (i := 0) (by omega)
    have q1 : (wr.setCell ⟨R, 0, none⟩ (.slice fa F.length fc)).cell? ⟨R, 1, none⟩ = some (.slice none 0 0) := b1.cell (i := 1) (by omega)
    have q2 : ((wr.setCell ⟨R, 0, none⟩ (.slice fa F.length fc)).setCell ⟨R, 1, none⟩ (.slice ga G.length gc)).cell? ⟨R, 2, none⟩ = some (.bool false) := b2.cell (i := 2) (by omega)
    have q3 := HSC.out.res.frozen 0
    have q4 := b1.frozen 1
    have q5 := b2.frozen 2
    have x2 : wr.cell? ⟨R + 1, 2, none⟩ = some (.slice ra q rc) := HSC.out.x.cell (i := 2) (by omega)
    clear b1 b2
    go_wp2_with fail
    obtain rfl : FF = Tryz.f58 := HFF.out
    refine bodyPost_ret (res_look (k := 4) (t := 104) (b := R) Tryz.results58 rfl (load_look (k3_put HSC.out.res _ _ _))) rfl ?_
    rw [HE.out]
    exact HSC.out.fin
   ·subst hbd
    obtain ⟨t, ht, htz⟩ := HKO.out k hlt
    obtain ⟨rb, ro, rfl, hr⟩ := (HRW.out.kept HSC.out.kp (by have := HN.out; have := HM.out; have := HR.out; omega) (fun c h1 h2 e => by have h3 := HN.out; rcases e with e | e; omega; have := HL0.out c e; omega)).num (i := k) (by rw [HQL.out]; exact hlt)
    rw [ht] at hr
    obtain ⟨s2, HS2⟩ : ∃ s2, Hid (s2 = (lookK ps n t s1).1) := ⟨_, rfl⟩
    obtain ⟨y, HY⟩ : ∃ y, Hid (y = (lookK ps n t s1).2) := ⟨_, rfl⟩
    have HLK : Hid (LkOk s1 (cntK ps n t) (s2, y)) := by have h := lookK_ok ps HOK.out n t (by have := HN.out; omega) (by have := HN.out; omega) s1 HMO.out HBD.out.symm; rw [HS2.out, HY.out]; exact h
    have HNX : Hid (kidsK (lookK ps n) 3 (ks.drop (k + 1)) (stepK 3 s2 ⟨F, G, nl⟩ y).1 (stepK 3 s2 ⟨F, G, nl⟩ y).2 = r) := by have h := kidsK_next HKE.out (by rw [HQL.out]; exact hlt) HBD.out.symm; rw [ht, show ((t : Int)).toNat = t by omega, ← HS2.out, ← HY.out] at h; exact h
    have HSK : Hid (MkOk (stepK 3 s2 ⟨F, G, nl⟩ y).1 ∧ (stepK 3 s2 ⟨F, G, nl⟩ y).1.lb = s2.lb ∧ Sts lo0 s2.lb.length (stepK 3 s2 ⟨F, G, nl⟩ y).2.fi ∧ Sts lo0 s2.lb.length (stepK 3 s2 ⟨F, G, nl⟩ y).2.la) := stepK_ok HST.out.1 HST.out.2.1 HST.out.2.2 HLK.out
    have HCK : Hid (Calls Tryz.prog 58 #[.pointer (some ⟨M, 0, none⟩), .int .i64 (t : Int)] wr (LookPost M wr (.slice (some ⟨bb, oo, none⟩) m mc) lv1 aa1 (s2, y))) := by
     have h := HIH.out t htz s1 lv1 aa1 an1 ac1 wr (HA.out.kept HSC.out.kp (by have := HN.out; have := HM.out; have := HR.out; omega) (fun c h1 h2 e => by have h3 := HN.out; rcases e with e | e; omega; have := HL0.out c e; omega)) HSC.out.mkr HMO.out HBD.out.symm
     rw [HS2.out, HY.out]; exact h
    have HLE : Hid (lo0 ≤ s2.lb.length ∧ s2.lb.length ≤ 24 ∧ F.length ≤ 24 ∧ G.length ≤ 24 ∧ y.fi.length ≤ 24 ∧ y.la.length ≤ 24) := ⟨Nat.le_trans HST.out.1 HLK.out.grew.1, HLK.out.ok.len, HST.out.2.1.le24 HMO.out.len, HST.out.2.2.le24 HMO.out.len, HLK.out.fi.le24 HLK.out.ok.len, HLK.out.la.le24 HLK.out.ok.len⟩
    have HGP : Hid (∀ x, x ∈ G → ∃ t : Nat, 1 ≤ t ∧ t ≤ s2.lb.length ∧ x = (t : Int)) := (HST.out.2.2.wide (Nat.le_refl _) HLK.out.grew.1).pos
    have HYF : Hid (∀ x, x ∈ y.fi → ∃ t : Nat, 1 ≤ t ∧ t ≤ s2.lb.length ∧ x = (t : Int)) := HLK.out.fi.pos
    have HOK2 : Hid (MkOk s2) := HLK.out.ok
    clear HS2 HY HLK ht
    obtain ⟨YF, YG, ynl⟩ := y
    try dsimp only at HLE HYF
    go_upto_region 15 with (go_at_call 58; refine (HCK.out).mono ?_; rintro e w2 ⟨lv2, aa2, an2, ac2, fy, gy, rfl, HNO, HAY, HMK2, HRF, HRG, HYY, HK2, HNB⟩; obtain ⟨ya, yc, rfl, _⟩ := own_shape HRF.out.own; obtain ⟨za, zc, rfl, _⟩ := own_shape HRG.out.own)
    try dsimp only at HMK2 HRF HRG
    have HSY := Hid_mk (HSC.out.kid (y := ⟨YF, YG, ynl⟩) (T := 104) HNO.out HAY.out HMK2.out HRF.out HRG.out HYY.out HK2.out HNB.out)
    try dsimp only at HSY ⊢
    obtain ⟨D, HD⟩ : ∃ D, Hid (D = w2.heap.size) := ⟨_, rfl⟩
    rw [← HD.out] at HSY ⊢
    obtain ⟨X, HX⟩ : ∃ X, Hid (X = w2.alloc (.cells #[.slice ya YF.length yc, .slice za YG.length zc, .bool ynl] 104)) := ⟨_, rfl⟩
    rw [← HX.out] at HSY ⊢
    clear HX HD HNO HAY HMK2 HRF HRG HYY HK2 HNB HCK x2 m3 hr HSC HKE
    have x0 : X.cell? ⟨R + 1, 0, none⟩ = some (.int .i64 3) := HSY.out.sc.x.cell (i := 0) (by omega)
    have o0 : X.cell? ⟨R + 2, 0, none⟩ = some (.slice fa F.length fc) := HSY.out.sc.out.cell (i := 0) (by omega)
    have y0 : X.cell? ⟨D, 0, none⟩ = some (.slice ya YF.length yc) := HSY.out.yb.cell (i := 0) (by omega)
    have hsrc := own_src HSY.out.yf
    go_upto_region 30 with (at_builtin; refine wpList_append_row2 _ rfl (.tmp 132) (.tmp 134) 36 rfl (R + 3) 3 i3 (.int .i64 0) 1 8 Tryz.underlying36 hi3 hz30 hz31 hz32 rfl (by decide) _ F.length (rowCells F) rfl HSY.out.sc.rf ya YF.length yc (rowCells YF) rfl hsrc.1 (rowCells_len _) hsrc.2 (rowCells_one _) (by unfold maxLen; have := HLE.out; omega) (by have := HLE.out; omega) HSY.out.sc.sz ?_; intro v4 w4 hown hgrow hloc; obtain ⟨fa4, fc4, rfl, _⟩ := own_shape hown; have o4 : w4.cell? ⟨R + 2, 0, none⟩ = some (.slice fa F.length fc) := (kp_grown hgrow).cell o0 (by have := HSY.out.sc.sz; omega) (fun e => by have := (HSY.out.sc.rf.lt _ e).1; omega); have f4 := ((kp_grown hgrow).blk HSY.out.sc.out (fun e => by have := (HSY.out.sc.rf.lt _ e).1; omega)).frozen 0)
    have HSW := Hid_mk (HSY.out.first hgrow (own_app hown) hloc)
    clear o0 y0 HSY o4 f4 hown hgrow hloc hsrc x0
    obtain ⟨X4, HX4⟩ : ∃ X, Hid (X = w4.setCell ⟨R + 2, 0, none⟩ (.slice fa4 (F.length + YF.length) fc4)) := ⟨_, rfl⟩
    rw [← HX4.out] at HSW ⊢
    clear HX4
    have o1 : X4.cell? ⟨R + 2, 1, none⟩ = some (.slice ga G.length gc) := HSW.out.sc.out.cell (i := 1) (by omega)
    have y1 : X4.cell? ⟨D, 1, none⟩ = some (.slice za YG.length zc) := HSW.out.yb.cell (i := 1) (by omega)
    have hsrc := own_src HSW.out.yg
    go_upto_region 31 with (at_builtin; refine wpList_append_row2 _ rfl (.tmp 138) (.tmp 140) 36 rfl (R + 3) 3 i3 (.int .i64 0) 1 8 Tryz.underlying36 hi3 hz30 hz31 hz32 rfl (by decide) _ G.length (rowCells G) rfl HSW.out.sc.rg za YG.length zc (rowCells YG) rfl hsrc.1 (rowCells_len _) hsrc.2 (rowCells_one _) (by unfold maxLen; have := HLE.out; omega) (by have := HLE.out; omega) HSW.out.sc.sz ?_; intro v5 w5 hown hgrow hloc; obtain ⟨ga5, gc5, rfl, _⟩ := own_shape hown; have o5 : w5.cell? ⟨R + 2, 1, none⟩ = some (.slice ga G.length gc) := (kp_grown hgrow).cell o1 (by have := HSW.out.sc.sz; omega) (fun e => by have := (HSW.out.sc.rg.lt _ e).1; omega); have f5 := ((kp_grown hgrow).blk HSW.out.sc.out (fun e => by have := (HSW.out.sc.rg.lt _ e).1; omega)).frozen 1)
    have HLV : Hid (∀ b, (Value.slice ga5 (G.length + YG.length) gc5).ownBlock = some b → (Value.slice ga G.length gc).ownBlock = some b ∨ X4.heap.size ≤ b) := fun b e => by
     rcases hloc with h | ⟨g, h, h2⟩
     ·rw [h] at e; exact .inl e
     ·rw [h] at e; simp at e; exact .inr (by omega)
    have HS7 := Hid_mk (HSW.out.sc.last (l := G ++ YG) (kp_grown hgrow) (fun k e => .inl e) (own_app hown) (fun b e e2 => by rcases HLV.out b e2 with h | h; exact HSW.out.sc.fg b e h; have := (HSW.out.sc.rf.lt b e).2; omega) (fun b e e2 => by rcases HLV.out b e with h | h; exact HSW.out.sc.gl b h e2; have := (HSW.out.sc.mkr.lab.lt b e2).2; omega) (fun b o e e2 => by rcases HLV.out b e2 with h | h; exact HSW.out.sc.ag b o e h; have := (HSW.out.sc.mkr.off b o e).2.1; omega))
    have HY7 : Hid (Blk (w5.setCell ⟨R + 2, 1, none⟩ (.slice ga5 (G.length + YG.length) gc5)) D 3 (k3 (.slice ya YF.length yc) (.slice za YG.length zc) (.bool ynl))) := (kp_set w5 (R + 2) 1 _).blk ((kp_grown hgrow).blk HSW.out.yb HSW.out.dg) (by have := HSW.out.dR; omega)
    clear HSW o1 y1 o5 f5 hown hgrow hloc hsrc HLV
    obtain ⟨X7, HX7⟩ : ∃ X, Hid (X = w5.setCell ⟨R + 2, 1, none⟩ (.slice ga5 (G.length + YG.length) gc5)) := ⟨_, rfl⟩
    rw [← HX7.out] at HS7 HY7 ⊢
    clear HX7
    have z0 : X7.cell? ⟨R + 2, 2, none⟩ = some (.bool nl) := HS7.out.out.cell (i := 2) (by omega)
    have z1 : X7.cell? ⟨D, 2, none⟩ = some (.bool ynl) := HY7.out.cell (i := 2) (by omega)
    have z2 := HS7.out.out.frozen 2
    rcases Bool.eq_false_or_eq_true nl with hnl | hnl
    ·subst hnl
     go_upto_region 13 with fail
     clear z0 z1 z2
     have HSTP : stepK 3 s2 ⟨F, G, true⟩ ⟨YF, YG, ynl⟩ = (s2, ⟨F ++ YF, G ++ YG, true⟩) := by simp [stepK]
     have hsk := HSK.out
     have hnx := HNX.out
     rw [HSTP] at hsk hnx
     try dsimp only at hsk hnx
     have HLN : Hid (LI M R w (.slice (some ⟨bb, oo, none⟩) m mc) lv aa (k3 (.int .i64 3) (.int .u8 x1) (.slice (some ⟨rb, ro, none⟩) q rc)) (lookK ps n) 3 ks lo0 r (k + 1) _) := ⟨_, _, _, _, _, _, _, _, (Hid_mk (HS7.out.null true)), hsk.1, ⟨by have := HLE.out; show lo0 ≤ s2.lb.length; omega, hsk.2.2.1, hsk.2.2.2⟩, hnx⟩
     clear hsk hnx HSTP
     go_wp2
     go_roundw
     case rel => exact ⟨k + 1, by go_num, by omega, HLN⟩
     case measure => simp [intOf]; omega
    ·subst hnl
     rcases Bool.eq_false_or_eq_true ynl with hyl | hyl
     ·subst hyl
      go_upto_region 13 with fail
      clear z0 z1 z2
      have HSTP : stepK 3 s2 ⟨F, G, false⟩ ⟨YF, YG, true⟩ = (s2, ⟨F ++ YF, G ++ YG, true⟩) := by simp [stepK]
      have hsk := HSK.out
      have hnx := HNX.out
      rw [HSTP] at hsk hnx
      try dsimp only at hsk hnx
      have HLN : Hid (LI M R w (.slice (some ⟨bb, oo, none⟩) m mc) lv aa (k3 (.int .i64 3) (.int .u8 x1) (.slice (some ⟨rb, ro, none⟩) q rc)) (lookK ps n) 3 ks lo0 r (k + 1) _) := ⟨_, _, _, _, _, _, _, _, (Hid_mk (HS7.out.null true)), hsk.1, ⟨by have := HLE.out; show lo0 ≤ s2.lb.length; omega, hsk.2.2.1, hsk.2.2.2⟩, hnx⟩
      clear hsk hnx HSTP
      go_wp2
      go_roundw
      case rel => exact ⟨k + 1, by go_num, by omega, HLN⟩
      case measure => simp [intOf]; omega
     ·subst hyl
      go_upto_region 13 with fail
      clear z0 z1 z2
      have HSTP : stepK 3 s2 ⟨F, G, false⟩ ⟨YF, YG, false⟩ = (s2, ⟨F ++ YF, G ++ YG, false⟩) := by simp [stepK]
      have hsk := HSK.out
      have hnx := HNX.out
      rw [HSTP] at hsk hnx
      try dsimp only at hsk hnx
      have HLN : Hid (LI M R w (.slice (some ⟨bb, oo, none⟩) m mc) lv aa (k3 (.int .i64 3) (.int .u8 x1) (.slice (some ⟨rb, ro, none⟩) q rc)) (lookK ps n) 3 ks lo0 r (k + 1) _) := ⟨_, _, _, _, _, _, _, _, (Hid_mk (HS7.out.null false)), hsk.1, ⟨by have := HLE.out; show lo0 ≤ s2.lb.length; omega, hsk.2.2.1, hsk.2.2.2⟩, hnx⟩
      clear hsk hnx HSTP
      go_wp2
      go_roundw
      case rel => exact ⟨k + 1, by go_num, by omega, HLN⟩
      case measure => simp [intOf]; omega
  ·have hlt1 : ¬ (k : Int) < (q : Int) := by omega
   have HE : Hid (r = (s1, ⟨F, G, nl⟩)) := kidsK_end HKE.out (.inl (by rw [HQL.out]; omega))
   clear x2
   have e0 : wr.cell? ⟨R + 2, 0, none⟩ = some (.slice fa F.length fc) := HSC.out.out.cell (i := 0) (by omega)
   have e1 : wr.cell? ⟨R + 2, 1, none⟩ = some (.slice ga G.length gc) := HSC.out.out.cell (i := 1) (by omega)
   have e2 : wr.cell? ⟨R + 2, 2, none⟩ = some (.bool nl) := HSC.out.out.cell (i := 2) (by omega)
   have b1 := HSC.out.res.set 0 (by omega) (.slice fa F.length fc)
   have b2 := b1.set 1 (by omega) (.slice ga G.length gc)
   have q0 : wr.cell? ⟨R, 0, none⟩ = some (.slice none 0 0) := HSC.out.res.cell (i := 0) (by omega)
   have q1 : (wr.setCell ⟨R, 0, none⟩ (.slice fa F.length fc)).cell? ⟨R, 1, none⟩ = some (.slice none 0 0) := b1.cell (i := 1) (by omega)
   have q2 : ((wr.setCell ⟨R, 0, none⟩ (.slice fa F.length fc)).setCell ⟨R, 1, none⟩ (.slice ga G.length gc)).cell? ⟨R, 2, none⟩ = some (.bool false) := b2.cell (i := 2) (by omega)
   have q3 := HSC.out.res.frozen 0
   have q4 := b1.frozen 1
   have q5 := b2.frozen 2
   have x2 : wr.cell? ⟨R + 1, 2, none⟩ = some (.slice ra q rc) := HSC.out.x.cell (i := 2) (by omega)
   clear b1 b2
   go_wp2_with fail
   obtain rfl : FF = Tryz.f58 := HFF.out
   refine bodyPost_ret (res_look (k := 4) (t := 104) (b := R) Tryz.results58 rfl (load_look (k3_put HSC.out.res _ _ _))) rfl ?_
   rw [HE.out]
   exact HSC.out.fin
end Go.Proofs.YtbepmeipjdpipaaGreat

namespace Go.Proofs.YtbepmeipjdpipaaGreat
open Go.RowKit
set_option maxHeartbeats 2000000 in
set_option maxRecDepth 100000 in
theorem look_one4 (lo hi M z n : Nat) (b : Option Addr) (m mc : Nat) (ps : List Pc) (lv : Value) (s : MkS) (aa : Option Addr) (an ac : Nat) (w : World) (ha : PathIn lo hi w b ps) (hh : hi ≤ M) (hn : ps.length = m) (hz : z < m) (hzn : z < n + 1) (hop : (pat ps z).1 = 4) (hok : ∀ i, i < ps.length → formOk (pat ps i) = true ∧ kidsOk i (pat ps i).2.2 = true) (hq : (pat ps z).2.2.length ≤ 1048576) (hmk : Mk M w (.slice b m mc) lv s aa an ac) (hs : MkOk s) (hb : s.bad = false)
  (ih : ∀ k, k < z → ∀ (s' : MkS) (lv' : Value) (aa' : Option Addr) (an' ac' : Nat) (w' : World), PathIn lo hi w' b ps → Mk M w' (.slice b m mc) lv' s' aa' an' ac' → MkOk s' → s'.bad = false → Calls Tryz.prog 58 #[.pointer (some ⟨M, 0, none⟩), .int .i64 (k : Int)] w' (LookPost M w' (.slice b m mc) lv' aa' (lookK ps n k s'))) :
  Calls Tryz.prog 58 #[.pointer (some ⟨M, 0, none⟩), .int .i64 (z : Int)] w (LookPost M w (.slice b m mc) lv aa (lookK ps (n + 1) z s)) := by
 have HA : Hid (PathIn lo hi w b ps) := ha
 have HOK : Hid (∀ i, i < ps.length → formOk (pat ps i) = true ∧ kidsOk i (pat ps i).2.2 = true) := hok
 have HIH : Hid (∀ k, k < z → ∀ (s' : MkS) (lv' : Value) (aa' : Option Addr) (an' ac' : Nat) (w' : World), PathIn lo hi w' b ps → Mk M w' (.slice b m mc) lv' s' aa' an' ac' → MkOk s' → s'.bad = false → Calls Tryz.prog 58 #[.pointer (some ⟨M, 0, none⟩), .int .i64 (k : Int)] w' (LookPost M w' (.slice b m mc) lv' aa' (lookK ps n k s'))) := ih
 have HN : Hid (ps.length = m ∧ z < m ∧ hi ≤ M ∧ z < n + 1) := ⟨hn, hz, hh, hzn⟩
 have hkz := (hok z (by omega)).2
 obtain ⟨i3, hi3, hz30, hz31, hz32⟩ := info_parts Tryz.info3
 obtain ⟨bb, oo, rfl, _, hbh, p0, p1, ra, rc, p2, hrow⟩ := ha.piece (k := z) (by rw [hn]; exact hz)
 obtain ⟨r, HRR⟩ : ∃ r, Hid (r = lookK ps (n + 1) z s) := ⟨_, rfl⟩
 rw [← HRR.out]
 obtain ⟨x, HX⟩ : ∃ x, Hid (x = pat ps z) := ⟨_, rfl⟩
 have HRU : Hid (r = lookK ps (n + 1) z s) := HRR
 have hru := HRU.out
 unfold lookK at hru
 rw [← HX.out] at p0 p1 p2 hop hq hrow hru hkz
 obtain ⟨x0, x1, ks⟩ := x
 dsimp only at p0 p1 p2 hop hq hrow hru hkz
 subst hop
 rw [if_neg (by omega)] at hru
 have HKR : Hid (kidsK (lookK ps n) 4 ks s ⟨[], [], decide ((4 : Int) = 2)⟩ = r) := hru.symm
 clear hru HRU HRR HX
 obtain ⟨q, HQL⟩ : ∃ q, Hid (ks.length = q) := ⟨_, rfl⟩
 rw [HQL.out] at p2 hq
 have HKO : Hid (∀ j, j < q → ∃ t : Nat, ks.getD j 0 = (t : Int) ∧ t < z) := fun j hj => by
  have h1 := List.all_eq_true.1 hkz (ks.getD j 0) (by rw [List.getD, List.getElem?_eq_getElem (by rw [HQL.out]; exact hj)]; exact List.getElem_mem _)
  simp only [Bool.and_eq_true, decide_eq_true_eq] at h1
  exact ⟨(ks.getD j 0).toNat, by omega, by omega⟩
 obtain ⟨R, HR⟩ : ∃ R, Hid (R = w.heap.size) := ⟨_, rfl⟩
 obtain ⟨V, HV⟩ : ∃ W, Hid (W = ((w.alloc (.cells #[.slice none 0 0, .slice none 0 0, .bool false] 104)).alloc (.cells #[.int .i64 4, .int .u8 x1, .slice ra q rc] 127)).alloc (.cells #[.slice none 0 0, .slice none 0 0, .bool false] 104)) := ⟨_, rfl⟩
 have HBV : Hid (Below w.heap.size w V) := by rw [HV.out]; exact below3 w _ _ _
 have HSV : Hid (V.heap.size = R + 3) := by rw [HV.out, HR.out]; show _ = _; simp
 have HRB : Hid (Blk V R 3 (k3 (.slice none 0 0) (.slice none 0 0) (.bool false))) := by rw [HV.out]; exact ((blk_three w R HR.out _ _ _ _).alloc _).alloc _
 have HXB : Hid (Blk V (R + 1) 3 (k3 (.int .i64 4) (.int .u8 x1) (.slice ra q rc))) := by rw [HV.out]; exact (blk_three _ (R + 1) (by rw [HR.out]; simp) _ _ _ _).alloc _
 have HOB : Hid (Blk V (R + 2) 3 (k3 (.slice none 0 0) (.slice none 0 0) (.bool false))) := by rw [HV.out]; exact blk_three _ (R + 2) (by rw [HR.out]; simp) _ _ _ _
 have HM : Hid (M < R ∧ bb < M) := ⟨by rw [HR.out]; exact hmk.blk.lt, by omega⟩
 obtain ⟨lo0, HLO⟩ : ∃ n, Hid (n = s.lb.length) := ⟨_, rfl⟩
 have HL0 : Hid (∀ c, lv.ownBlock = some c → M + 1 ≤ c ∧ c < R) := fun c h => by have h1 := hmk.lab.lt c h; rw [HR.out]; exact h1
 have HSC0 : Hid (Sc M R w (.slice (some ⟨bb, oo, none⟩) m mc) lv aa (k3 (.int .i64 4) (.int .u8 x1) (.slice ra q rc)) V s ⟨[], [], false⟩ lv aa an ac (.slice none 0 0) (.slice none 0 0)) :=
  { mR := HM.out.1
    hR := HR.out
    l0 := fun c h => (HL0.out c h).2
    res := HRB.out
    x := HXB.out
    out := HOB.out
    mkr := hmk.kept (kp_below HBV.out) (by have := hmk.blk.lt; omega) (fun b e => by have := (hmk.lab.lt b e).2; omega) (fun b o e => by have := (hmk.off b o e).2.1; omega)
    rf := ⟨rfl, .inl ⟨rfl, rfl⟩⟩
    rg := ⟨rfl, .inl ⟨rfl, rfl⟩⟩
    fg := fun b e => by cases e
    fl := fun b e => by cases e
    gl := fun b e => by cases e
    af := fun b o e e2 => by cases e2
    ag := fun b o e e2 => by cases e2
    ax := fun b o e => .inl (by have := (hmk.off b o e).2.1; have := HR.out; omega)
    kp := KeptP.of_below HBV.out (fun _ h _ => h)
    nb := .inl rfl
    na := .inl rfl }
 have hz0 : (0 : Int) ≤ (z : Int) := by omega
 have hz1 : (z : Int) < (m : Int) := by omega
 have hm0 : w.cell? ⟨M, 0, none⟩ = some (.slice (some ⟨bb, oo, none⟩) m mc) := hmk.blk.cell (i := 0) (by omega)
 have g0 := cell_below p0 (below1 w (.cells #[.slice none 0 0, .slice none 0 0, .bool false] 104)) (by have := HM.out; have := HR.out; omega)
 have g1 := cell_below p1 (below1 w (.cells #[.slice none 0 0, .slice none 0 0, .bool false] 104)) (by have := HM.out; have := HR.out; omega)
 have g2 := cell_below p2 (below1 w (.cells #[.slice none 0 0, .slice none 0 0, .bool false] 104)) (by have := HM.out; have := HR.out; omega)
 have g3 := cell_below hm0 (below1 w (.cells #[.slice none 0 0, .slice none 0 0, .bool false] 104)) (by have := HM.out; have := HR.out; omega)
 have HRW : Hid (RowIn lo hi w ra ks) := hrow
 have HMS : Hid (MkOk s) := hs
 have HBD : Hid (s.bad = false) := hb
 clear ha hh hn hrow hmk p0 p1 p2 hm0 hbh hok ih hz hzn hkz hs hb
 go_enter Tryz.func58, Tryz.ntmps58
 obtain ⟨FF, HFF⟩ : ∃ F : Func, Hid (F = Tryz.f58) := ⟨_, rfl⟩
 rw [← HFF.out]
 go_upto_region 3 with fail
 rw [← HR.out]
 first | rw [← HV.out] | (rw [show _ = V from HV.out.symm])
 clear HV g0 g1 g2 g3
 have c0 : V.cell? ⟨R + 1, 0, none⟩ = some (.int .i64 4) := HXB.out.cell (i := 0) (by omega)
 go_upto_region 11 with fail
 clear c0
 obtain ⟨W, HW⟩ : ∃ W, Hid (W = V) := ⟨_, rfl⟩
 have HSC1 : Hid (Sc M R w (.slice (some ⟨bb, oo, none⟩) m mc) lv aa (k3 (.int .i64 4) (.int .u8 x1) (.slice ra q rc)) W s ⟨[], [], false⟩ lv aa an ac (.slice none 0 0) (.slice none 0 0)) := by rw [HW.out]; exact HSC0.out
 rw [← HW.out]
 clear HW HSC0 HRB HXB HOB HBV HSV
 go_upto_region 11 with fail
 have HLI : Hid (LI M R w (.slice (some ⟨bb, oo, none⟩) m mc) lv aa (k3 (.int .i64 4) (.int .u8 x1) (.slice ra q rc)) (lookK ps n) 4 ks lo0 r 0 W) := ⟨s, ⟨[], [], false⟩, lv, aa, an, ac, _, _, HSC1, HMS, ⟨by rw [HLO.out]; exact Nat.le_refl _, Sts.nil _ _, Sts.nil _ _⟩, HKR⟩
 clear HSC1 HMS HBD HKR
 go_wp2
 go_loopw [8] (fun i wr => ∃ k : Nat, i = .int .i64 (k : Int) ∧ k ≤ q ∧ Hid (LI M R w (.slice (some ⟨bb, oo, none⟩) m mc) lv aa (k3 (.int .i64 4) (.int .u8 x1) (.slice ra q rc)) (lookK ps n) 4 ks lo0 r k wr)) (fun i _ => q - (intOf i).toNat)
 case atStart => exact ⟨0, rfl, by omega, HLI⟩
 case round =>
  obtain ⟨k, rfl, hk, HI⟩ := hrel
  obtain ⟨s1, o1, lv1, aa1, an1, ac1, fv, gv, HSC, HMO, HST, HKE⟩ := HI.out
  obtain ⟨F, G, nl⟩ := o1
  obtain ⟨fa, fc, rfl, _⟩ := own_shape HSC.out.rf
  obtain ⟨ga, gc, rfl, _⟩ := own_shape HSC.out.rg
  obtain ⟨bd, HBD⟩ : ∃ b, Hid (b = s1.bad) := ⟨_, rfl⟩
  have x2 : wr.cell? ⟨R + 1, 2, none⟩ = some (.slice ra q rc) := HSC.out.x.cell (i := 2) (by omega)
  have m3 : wr.cell? ⟨M, 3, none⟩ = some (.bool bd) := by rw [HBD.out]; exact HSC.out.mkr.blk.cell (i := 3) (by omega)
  by_cases hlt : k < q
  ·have hlt1 : (k : Int) < (q : Int) := by omega
   have hlt0 : (0 : Int) ≤ (k : Int) := by omega
   rcases Bool.eq_false_or_eq_true bd with hbd | hbd
   ·subst hbd
    have HE : Hid (r = (s1, ⟨F, G, nl⟩)) := kidsK_end HKE.out (.inr HBD.out.symm)
    clear x2
    have e0 : wr.cell? ⟨R + 2, 0, none⟩ = some (.slice fa F.length fc) := HSC.out.out.cell (i := 0) (by omega)
    have e1 : wr.cell? ⟨R + 2, 1, none⟩ = some (.slice ga G.length gc) := HSC.out.out.cell (i := 1) (by omega)
    have e2 : wr.cell? ⟨R + 2, 2, none⟩ = some (.bool nl) := HSC.out.out.cell (i := 2) (by omega)
    have b1 := HSC.out.res.set 0 (by omega) (.slice fa F.length fc)
    have b2 := b1.set 1 (by omega) (.slice ga G.length gc)
    have q0 : wr.cell? ⟨R, 0, none⟩ = some (.slice none 0 0) := HSC.out.res.cell (i := 0) (by omega)
    have q1 : (wr.setCell ⟨R, 0, none⟩ (.slice fa F.length fc)).cell? ⟨R, 1, none⟩ = some (.slice none 0 0) := b1.cell (i := 1) (by omega)
    have q2 : ((wr.setCell ⟨R, 0, none⟩ (.slice fa F.length fc)).setCell ⟨R, 1, none⟩ (.slice ga G.length gc)).cell? ⟨R, 2, none⟩ = some (.bool false) := b2.cell (i := 2) (by omega)
    have q3 := HSC.out.res.frozen 0
    have q4 := b1.frozen 1
    have q5 := b2.frozen 2
    have x2 : wr.cell? ⟨R + 1, 2, none⟩ = some (.slice ra q rc) := HSC.out.x.cell (i := 2) (by omega)
    clear b1 b2
    go_wp2_with fail
    obtain rfl : FF = Tryz.f58 := HFF.out
    refine bodyPost_ret (res_look (k := 4) (t := 104) (b := R) Tryz.results58 rfl (load_look (k3_put HSC.out.res _ _ _))) rfl ?_
    rw [HE.out]
    exact HSC.out.fin
   ·subst hbd
    obtain ⟨t, ht, htz⟩ := HKO.out k hlt
    obtain ⟨rb, ro, rfl, hr⟩ := (HRW.out.kept HSC.out.kp (by have := HN.out; have := HM.out; have := HR.out; omega) (fun c h1 h2 e => by have h3 := HN.out; rcases e with e | e; omega; have := HL0.out c e; omega)).num (i := k) (by rw [HQL.out]; exact hlt)
    rw [ht] at hr
    obtain ⟨s2, HS2⟩ : ∃ s2, Hid (s2 = (lookK ps n t s1).1) := ⟨_, rfl⟩
    obtain ⟨y, HY⟩ : ∃ y, Hid (y = (lookK ps n t s1).2) := ⟨_, rfl⟩
    have HLK : Hid (LkOk s1 (cntK ps n t) (s2, y)) := by have h := lookK_ok ps HOK.out n t (by have := HN.out; omega) (by have := HN.out; omega) s1 HMO.out HBD.out.symm; rw [HS2.out, HY.out]; exact h
    have HNX : Hid (kidsK (lookK ps n) 4 (ks.drop (k + 1)) (stepK 4 s2 ⟨F, G, nl⟩ y).1 (stepK 4 s2 ⟨F, G, nl⟩ y).2 = r) := by have h := kidsK_next HKE.out (by rw [HQL.out]; exact hlt) HBD.out.symm; rw [ht, show ((t : Int)).toNat = t by omega, ← HS2.out, ← HY.out] at h; exact h
    have HSK : Hid (MkOk (stepK 4 s2 ⟨F, G, nl⟩ y).1 ∧ (stepK 4 s2 ⟨F, G, nl⟩ y).1.lb = s2.lb ∧ Sts lo0 s2.lb.length (stepK 4 s2 ⟨F, G, nl⟩ y).2.fi ∧ Sts lo0 s2.lb.length (stepK 4 s2 ⟨F, G, nl⟩ y).2.la) := stepK_ok HST.out.1 HST.out.2.1 HST.out.2.2 HLK.out
    have HCK : Hid (Calls Tryz.prog 58 #[.pointer (some ⟨M, 0, none⟩), .int .i64 (t : Int)] wr (LookPost M wr (.slice (some ⟨bb, oo, none⟩) m mc) lv1 aa1 (s2, y))) := by
     have h := HIH.out t htz s1 lv1 aa1 an1 ac1 wr (HA.out.kept HSC.out.kp (by have := HN.out; have := HM.out; have := HR.out; omega) (fun c h1 h2 e => by have h3 := HN.out; rcases e with e | e; omega; have := HL0.out c e; omega)) HSC.out.mkr HMO.out HBD.out.symm
     rw [HS2.out, HY.out]; exact h
    have HLE : Hid (lo0 ≤ s2.lb.length ∧ s2.lb.length ≤ 24 ∧ F.length ≤ 24 ∧ G.length ≤ 24 ∧ y.fi.length ≤ 24 ∧ y.la.length ≤ 24) := ⟨Nat.le_trans HST.out.1 HLK.out.grew.1, HLK.out.ok.len, HST.out.2.1.le24 HMO.out.len, HST.out.2.2.le24 HMO.out.len, HLK.out.fi.le24 HLK.out.ok.len, HLK.out.la.le24 HLK.out.ok.len⟩
    have HGP : Hid (∀ x, x ∈ G → ∃ t : Nat, 1 ≤ t ∧ t ≤ s2.lb.length ∧ x = (t : Int)) := (HST.out.2.2.wide (Nat.le_refl _) HLK.out.grew.1).pos
    have HYF : Hid (∀ x, x ∈ y.fi → ∃ t : Nat, 1 ≤ t ∧ t ≤ s2.lb.length ∧ x = (t : Int)) := HLK.out.fi.pos
    have HOK2 : Hid (MkOk s2) := HLK.out.ok
    clear HS2 HY HLK ht
    obtain ⟨YF, YG, ynl⟩ := y
    try dsimp only at HLE HYF
    go_upto_region 15 with (go_at_call 58; refine (HCK.out).mono ?_; rintro e w2 ⟨lv2, aa2, an2, ac2, fy, gy, rfl, HNO, HAY, HMK2, HRF, HRG, HYY, HK2, HNB⟩; obtain ⟨ya, yc, rfl, _⟩ := own_shape HRF.out.own; obtain ⟨za, zc, rfl, _⟩ := own_shape HRG.out.own)
    try dsimp only at HMK2 HRF HRG
    have HSY := Hid_mk (HSC.out.kid (y := ⟨YF, YG, ynl⟩) (T := 104) HNO.out HAY.out HMK2.out HRF.out HRG.out HYY.out HK2.out HNB.out)
    try dsimp only at HSY ⊢
    obtain ⟨D, HD⟩ : ∃ D, Hid (D = w2.heap.size) := ⟨_, rfl⟩
    rw [← HD.out] at HSY ⊢
    obtain ⟨X, HX⟩ : ∃ X, Hid (X = w2.alloc (.cells #[.slice ya YF.length yc, .slice za YG.length zc, .bool ynl] 104)) := ⟨_, rfl⟩
    rw [← HX.out] at HSY ⊢
    clear HX HD HNO HAY HMK2 HRF HRG HYY HK2 HNB HCK x2 m3 hr HSC HKE
    have x0 : X.cell? ⟨R + 1, 0, none⟩ = some (.int .i64 4) := HSY.out.sc.x.cell (i := 0) (by omega)
    have y0 : X.cell? ⟨D, 0, none⟩ = some (.slice ya YF.length yc) := HSY.out.yb.cell (i := 0) (by omega)
    have y1 : X.cell? ⟨D, 1, none⟩ = some (.slice za YG.length zc) := HSY.out.yb.cell (i := 1) (by omega)
    have y2 : X.cell? ⟨D, 2, none⟩ = some (.bool ynl) := HSY.out.yb.cell (i := 2) (by omega)
    have b1 := HSY.out.sc.out.set 0 (by omega) (.slice ya YF.length yc)
    have b2 := b1.set 1 (by omega) (.slice za YG.length zc)
    have q0 : X.cell? ⟨R + 2, 0, none⟩ = some (.slice fa F.length fc) := HSY.out.sc.out.cell (i := 0) (by omega)
    have q1 : (X.setCell ⟨R + 2, 0, none⟩ (.slice ya YF.length yc)).cell? ⟨R + 2, 1, none⟩ = some (.slice ga G.length gc) := b1.cell (i := 1) (by omega)
    have q2 : ((X.setCell ⟨R + 2, 0, none⟩ (.slice ya YF.length yc)).setCell ⟨R + 2, 1, none⟩ (.slice za YG.length zc)).cell? ⟨R + 2, 2, none⟩ = some (.bool nl) := b2.cell (i := 2) (by omega)
    have q3 := HSY.out.sc.out.frozen 0
    have q4 := b1.frozen 1
    have q5 := b2.frozen 2
    clear b1 b2
    go_upto_region 17 with fail
    clear y0 y1 y2 q0 q1 q2 q3 q4 q5 x0
    have HTK := HSY.out.take
    have HS4 := Hid_mk HTK.1
    have HY4 := Hid_mk HTK.2
    have HDR : Hid (R + 3 ≤ D) := HSY.out.dR
    clear HTK HSY
    obtain ⟨X4, HX4⟩ : ∃ X', Hid (X' = X.setCells (R + 2) 0 [.slice ya YF.length yc, .slice za YG.length zc, .bool ynl]) := ⟨_, rfl⟩
    try dsimp only at HS4 HY4
    rw [← HX4.out] at HS4 HY4
    rw [show ((X.setCell ⟨R + 2, 0, none⟩ (.slice ya YF.length yc)).setCell ⟨R + 2, 1, none⟩ (.slice za YG.length zc)).setCell ⟨R + 2, 2, none⟩ (.bool ynl) = X4 from HX4.out.symm]
    clear HX4
    have x0 : X4.cell? ⟨R + 1, 0, none⟩ = some (.int .i64 4) := HS4.out.x.cell (i := 0) (by omega)
    have y0 : X4.cell? ⟨D, 0, none⟩ = some (.slice ya YF.length yc) := HY4.out.cell (i := 0) (by omega)
    have y1 : X4.cell? ⟨D, 1, none⟩ = some (.slice za YG.length zc) := HY4.out.cell (i := 1) (by omega)
    go_upto_region 19 with (go_at_call 59; refine (join_mk2 M (R + 3) _ lv2 s2 aa2 an2 ac2 _ _ YG YF X4 HS4.out.mkr HOK2.out (by have := HM.out; omega) HS4.out.rg HS4.out.rf HYF.out (by have := HLE.out; omega) (by have := HLE.out; omega)).mono ?_; rintro e w5 ⟨aa3, an3, ac3, rfl, HM3, HK3, HN3⟩)
    have HS7 := Hid_mk (HS4.out.join HM3.out HK3.out HN3.out)
    have HY7 := Hid_mk (HK3.out.blk HY4.out (by have := HM.out; have := HDR.out; omega))
    clear x0 y0 y1 HS4 HY4 HM3 HK3 HN3
    obtain ⟨X7, HX7⟩ : ∃ X', Hid (X' = w5) := ⟨_, rfl⟩
    rw [← HX7.out] at HS7 HY7 ⊢
    clear HX7
    have x0 : X7.cell? ⟨R + 1, 0, none⟩ = some (.int .i64 4) := HS7.out.x.cell (i := 0) (by omega)
    have z0 : X7.cell? ⟨R + 2, 2, none⟩ = some (.bool ynl) := HS7.out.out.cell (i := 2) (by omega)
    have z1 : X7.cell? ⟨D, 2, none⟩ = some (.bool ynl) := HY7.out.cell (i := 2) (by omega)
    have z2 := HS7.out.out.frozen 2
    rcases Bool.eq_false_or_eq_true ynl with hyl | hyl
    ·subst hyl
     go_upto_region 13 with fail
     clear z0 z1 z2 x0
     have HSTP : stepK 4 s2 ⟨F, G, nl⟩ ⟨YF, YG, true⟩ = (⟨s2.lb, joinF s2.lb YG YF s2.ar, s2.bad⟩, ⟨YF, YG, true⟩) := by simp [stepK]
     have hsk := HSK.out
     have hnx := HNX.out
     rw [HSTP] at hsk hnx
     try dsimp only at hsk hnx
     have HLN : Hid (LI M R w (.slice (some ⟨bb, oo, none⟩) m mc) lv aa (k3 (.int .i64 4) (.int .u8 x1) (.slice (some ⟨rb, ro, none⟩) q rc)) (lookK ps n) 4 ks lo0 r (k + 1) _) := ⟨_, _, _, _, _, _, _, _, (Hid_mk (HS7.out.null true)), hsk.1, ⟨by have := HLE.out; show lo0 ≤ s2.lb.length; omega, hsk.2.2.1, hsk.2.2.2⟩, hnx⟩
     clear hsk hnx HSTP
     go_wp2
     go_roundw
     case rel => exact ⟨k + 1, by go_num, by omega, HLN⟩
     case measure => simp [intOf]; omega
    ·subst hyl
     go_upto_region 13 with fail
     clear z0 z1 z2 x0
     have HSTP : stepK 4 s2 ⟨F, G, nl⟩ ⟨YF, YG, false⟩ = (⟨s2.lb, joinF s2.lb YG YF s2.ar, s2.bad⟩, ⟨YF, YG, true⟩) := by simp [stepK]
     have hsk := HSK.out
     have hnx := HNX.out
     rw [HSTP] at hsk hnx
     try dsimp only at hsk hnx
     have HLN : Hid (LI M R w (.slice (some ⟨bb, oo, none⟩) m mc) lv aa (k3 (.int .i64 4) (.int .u8 x1) (.slice (some ⟨rb, ro, none⟩) q rc)) (lookK ps n) 4 ks lo0 r (k + 1) _) := ⟨_, _, _, _, _, _, _, _, (Hid_mk (HS7.out.null true)), hsk.1, ⟨by have := HLE.out; show lo0 ≤ s2.lb.length; omega, hsk.2.2.1, hsk.2.2.2⟩, hnx⟩
     clear hsk hnx HSTP
     go_wp2
     go_roundw
     case rel => exact ⟨k + 1, by go_num, by omega, HLN⟩
     case measure => simp [intOf]; omega
  ·have hlt1 : ¬ (k : Int) < (q : Int) := by omega
   have HE : Hid (r = (s1, ⟨F, G, nl⟩)) := kidsK_end HKE.out (.inl (by rw [HQL.out]; omega))
   clear x2
   have e0 : wr.cell? ⟨R + 2, 0, none⟩ = some (.slice fa F.length fc) := HSC.out.out.cell (i := 0) (by omega)
   have e1 : wr.cell? ⟨R + 2, 1, none⟩ = some (.slice ga G.length gc) := HSC.out.out.cell (i := 1) (by omega)
   have e2 : wr.cell? ⟨R + 2, 2, none⟩ = some (.bool nl) := HSC.out.out.cell (i := 2) (by omega)
   have b1 := HSC.out.res.set 0 (by omega) (.slice fa F.length fc)
   have b2 := b1.set 1 (by omega) (.slice ga G.length gc)
   have q0 : wr.cell? ⟨R, 0, none⟩ = some (.slice none 0 0) := HSC.out.res.cell (i := 0) (by omega)
   have q1 : (wr.setCell ⟨R, 0, none⟩ (.slice fa F.length fc)).cell? ⟨R, 1, none⟩ = some (.slice none 0 0) := b1.cell (i := 1) (by omega)
   have q2 : ((wr.setCell ⟨R, 0, none⟩ (.slice fa F.length fc)).setCell ⟨R, 1, none⟩ (.slice ga G.length gc)).cell? ⟨R, 2, none⟩ = some (.bool false) := b2.cell (i := 2) (by omega)
   have q3 := HSC.out.res.frozen 0
   have q4 := b1.frozen 1
   have q5 := b2.frozen 2
   have x2 : wr.cell? ⟨R + 1, 2, none⟩ = some (.slice ra q rc) := HSC.out.x.cell (i := 2) (by omega)
   clear b1 b2
   go_wp2_with fail
   obtain rfl : FF = Tryz.f58 := HFF.out
   refine bodyPost_ret (res_look (k := 4) (t := 104) (b := R) Tryz.results58 rfl (load_look (k3_put HSC.out.res _ _ _))) rfl ?_
   rw [HE.out]
   exact HSC.out.fin
end Go.Proofs.YtbepmeipjdpipaaGreat

namespace Go.Proofs.YtbepmeipjdpipaaGreat
open Go.RowKit
set_option maxHeartbeats 2000000 in
set_option maxRecDepth 100000 in
theorem look_one5 (lo hi M z n : Nat) (b : Option Addr) (m mc : Nat) (ps : List Pc) (lv : Value) (s : MkS) (aa : Option Addr) (an ac : Nat) (w : World) (ha : PathIn lo hi w b ps) (hh : hi ≤ M) (hn : ps.length = m) (hz : z < m) (hzn : z < n + 1) (hop : (pat ps z).1 = 5) (hok : ∀ i, i < ps.length → formOk (pat ps i) = true ∧ kidsOk i (pat ps i).2.2 = true) (hq : (pat ps z).2.2.length ≤ 1048576) (hmk : Mk M w (.slice b m mc) lv s aa an ac) (hs : MkOk s) (hb : s.bad = false)
  (ih : ∀ k, k < z → ∀ (s' : MkS) (lv' : Value) (aa' : Option Addr) (an' ac' : Nat) (w' : World), PathIn lo hi w' b ps → Mk M w' (.slice b m mc) lv' s' aa' an' ac' → MkOk s' → s'.bad = false → Calls Tryz.prog 58 #[.pointer (some ⟨M, 0, none⟩), .int .i64 (k : Int)] w' (LookPost M w' (.slice b m mc) lv' aa' (lookK ps n k s'))) :
  Calls Tryz.prog 58 #[.pointer (some ⟨M, 0, none⟩), .int .i64 (z : Int)] w (LookPost M w (.slice b m mc) lv aa (lookK ps (n + 1) z s)) := by
 have HA : Hid (PathIn lo hi w b ps) := ha
 have HOK : Hid (∀ i, i < ps.length → formOk (pat ps i) = true ∧ kidsOk i (pat ps i).2.2 = true) := hok
 have HIH : Hid (∀ k, k < z → ∀ (s' : MkS) (lv' : Value) (aa' : Option Addr) (an' ac' : Nat) (w' : World), PathIn lo hi w' b ps → Mk M w' (.slice b m mc) lv' s' aa' an' ac' → MkOk s' → s'.bad = false → Calls Tryz.prog 58 #[.pointer (some ⟨M, 0, none⟩), .int .i64 (k : Int)] w' (LookPost M w' (.slice b m mc) lv' aa' (lookK ps n k s'))) := ih
 have HN : Hid (ps.length = m ∧ z < m ∧ hi ≤ M ∧ z < n + 1) := ⟨hn, hz, hh, hzn⟩
 have hkz := (hok z (by omega)).2
 obtain ⟨i3, hi3, hz30, hz31, hz32⟩ := info_parts Tryz.info3
 obtain ⟨bb, oo, rfl, _, hbh, p0, p1, ra, rc, p2, hrow⟩ := ha.piece (k := z) (by rw [hn]; exact hz)
 obtain ⟨r, HRR⟩ : ∃ r, Hid (r = lookK ps (n + 1) z s) := ⟨_, rfl⟩
 rw [← HRR.out]
 obtain ⟨x, HX⟩ : ∃ x, Hid (x = pat ps z) := ⟨_, rfl⟩
 have HRU : Hid (r = lookK ps (n + 1) z s) := HRR
 have hru := HRU.out
 unfold lookK at hru
 rw [← HX.out] at p0 p1 p2 hop hq hrow hru hkz
 obtain ⟨x0, x1, ks⟩ := x
 dsimp only at p0 p1 p2 hop hq hrow hru hkz
 subst hop
 rw [if_neg (by omega)] at hru
 have HKR : Hid (kidsK (lookK ps n) 5 ks s ⟨[], [], decide ((5 : Int) = 2)⟩ = r) := hru.symm
 clear hru HRU HRR HX
 obtain ⟨q, HQL⟩ : ∃ q, Hid (ks.length = q) := ⟨_, rfl⟩
 rw [HQL.out] at p2 hq
 have HKO : Hid (∀ j, j < q → ∃ t : Nat, ks.getD j 0 = (t : Int) ∧ t < z) := fun j hj => by
  have h1 := List.all_eq_true.1 hkz (ks.getD j 0) (by rw [List.getD, List.getElem?_eq_getElem (by rw [HQL.out]; exact hj)]; exact List.getElem_mem _)
  simp only [Bool.and_eq_true, decide_eq_true_eq] at h1
  exact ⟨(ks.getD j 0).toNat, by omega, by omega⟩
 obtain ⟨R, HR⟩ : ∃ R, Hid (R = w.heap.size) := ⟨_, rfl⟩
 obtain ⟨V, HV⟩ : ∃ W, Hid (W = ((w.alloc (.cells #[.slice none 0 0, .slice none 0 0, .bool false] 104)).alloc (.cells #[.int .i64 5, .int .u8 x1, .slice ra q rc] 127)).alloc (.cells #[.slice none 0 0, .slice none 0 0, .bool false] 104)) := ⟨_, rfl⟩
 have HBV : Hid (Below w.heap.size w V) := by rw [HV.out]; exact below3 w _ _ _
 have HSV : Hid (V.heap.size = R + 3) := by rw [HV.out, HR.out]; show _ = _; simp
 have HRB : Hid (Blk V R 3 (k3 (.slice none 0 0) (.slice none 0 0) (.bool false))) := by rw [HV.out]; exact ((blk_three w R HR.out _ _ _ _).alloc _).alloc _
 have HXB : Hid (Blk V (R + 1) 3 (k3 (.int .i64 5) (.int .u8 x1) (.slice ra q rc))) := by rw [HV.out]; exact (blk_three _ (R + 1) (by rw [HR.out]; simp) _ _ _ _).alloc _
 have HOB : Hid (Blk V (R + 2) 3 (k3 (.slice none 0 0) (.slice none 0 0) (.bool false))) := by rw [HV.out]; exact blk_three _ (R + 2) (by rw [HR.out]; simp) _ _ _ _
 have HM : Hid (M < R ∧ bb < M) := ⟨by rw [HR.out]; exact hmk.blk.lt, by omega⟩
 obtain ⟨lo0, HLO⟩ : ∃ n, Hid (n = s.lb.length) := ⟨_, rfl⟩
 have HL0 : Hid (∀ c, lv.ownBlock = some c → M + 1 ≤ c ∧ c < R) := fun c h => by have h1 := hmk.lab.lt c h; rw [HR.out]; exact h1
 have HSC0 : Hid (Sc M R w (.slice (some ⟨bb, oo, none⟩) m mc) lv aa (k3 (.int .i64 5) (.int .u8 x1) (.slice ra q rc)) V s ⟨[], [], false⟩ lv aa an ac (.slice none 0 0) (.slice none 0 0)) :=
  { mR := HM.out.1
    hR := HR.out
    l0 := fun c h => (HL0.out c h).2
    res := HRB.out
    x := HXB.out
    out := HOB.out
    mkr := hmk.kept (kp_below HBV.out) (by have := hmk.blk.lt; omega) (fun b e => by have := (hmk.lab.lt b e).2; omega) (fun b o e => by have := (hmk.off b o e).2.1; omega)
    rf := ⟨rfl, .inl ⟨rfl, rfl⟩⟩
    rg := ⟨rfl, .inl ⟨rfl, rfl⟩⟩
    fg := fun b e => by cases e
    fl := fun b e => by cases e
    gl := fun b e => by cases e
    af := fun b o e e2 => by cases e2
    ag := fun b o e e2 => by cases e2
    ax := fun b o e => .inl (by have := (hmk.off b o e).2.1; have := HR.out; omega)
    kp := KeptP.of_below HBV.out (fun _ h _ => h)
    nb := .inl rfl
    na := .inl rfl }
 have hz0 : (0 : Int) ≤ (z : Int) := by omega
 have hz1 : (z : Int) < (m : Int) := by omega
 have hm0 : w.cell? ⟨M, 0, none⟩ = some (.slice (some ⟨bb, oo, none⟩) m mc) := hmk.blk.cell (i := 0) (by omega)
 have g0 := cell_below p0 (below1 w (.cells #[.slice none 0 0, .slice none 0 0, .bool false] 104)) (by have := HM.out; have := HR.out; omega)
 have g1 := cell_below p1 (below1 w (.cells #[.slice none 0 0, .slice none 0 0, .bool false] 104)) (by have := HM.out; have := HR.out; omega)
 have g2 := cell_below p2 (below1 w (.cells #[.slice none 0 0, .slice none 0 0, .bool false] 104)) (by have := HM.out; have := HR.out; omega)
 have g3 := cell_below hm0 (below1 w (.cells #[.slice none 0 0, .slice none 0 0, .bool false] 104)) (by have := HM.out; have := HR.out; omega)
 have HRW : Hid (RowIn lo hi w ra ks) := hrow
 have HMS : Hid (MkOk s) := hs
 have HBD : Hid (s.bad = false) := hb
 clear ha hh hn hrow hmk p0 p1 p2 hm0 hbh hok ih hz hzn hkz hs hb
 go_enter Tryz.func58, Tryz.ntmps58
 obtain ⟨FF, HFF⟩ : ∃ F : Func, Hid (F = Tryz.f58) := ⟨_, rfl⟩
 rw [← HFF.out]
 go_upto_region 3 with fail
 rw [← HR.out]
 first | rw [← HV.out] | (rw [show _ = V from HV.out.symm])
 clear HV g0 g1 g2 g3
 have c0 : V.cell? ⟨R + 1, 0, none⟩ = some (.int .i64 5) := HXB.out.cell (i := 0) (by omega)
 go_upto_region 11 with fail
 clear c0
 obtain ⟨W, HW⟩ : ∃ W, Hid (W = V) := ⟨_, rfl⟩
 have HSC1 : Hid (Sc M R w (.slice (some ⟨bb, oo, none⟩) m mc) lv aa (k3 (.int .i64 5) (.int .u8 x1) (.slice ra q rc)) W s ⟨[], [], false⟩ lv aa an ac (.slice none 0 0) (.slice none 0 0)) := by rw [HW.out]; exact HSC0.out
 rw [← HW.out]
 clear HW HSC0 HRB HXB HOB HBV HSV
 go_upto_region 11 with fail
 have HLI : Hid (LI M R w (.slice (some ⟨bb, oo, none⟩) m mc) lv aa (k3 (.int .i64 5) (.int .u8 x1) (.slice ra q rc)) (lookK ps n) 5 ks lo0 r 0 W) := ⟨s, ⟨[], [], false⟩, lv, aa, an, ac, _, _, HSC1, HMS, ⟨by rw [HLO.out]; exact Nat.le_refl _, Sts.nil _ _, Sts.nil _ _⟩, HKR⟩
 clear HSC1 HMS HBD HKR
 go_wp2
 go_loopw [8] (fun i wr => ∃ k : Nat, i = .int .i64 (k : Int) ∧ k ≤ q ∧ Hid (LI M R w (.slice (some ⟨bb, oo, none⟩) m mc) lv aa (k3 (.int .i64 5) (.int .u8 x1) (.slice ra q rc)) (lookK ps n) 5 ks lo0 r k wr)) (fun i _ => q - (intOf i).toNat)
 case atStart => exact ⟨0, rfl, by omega, HLI⟩
 case round =>
  obtain ⟨k, rfl, hk, HI⟩ := hrel
  obtain ⟨s1, o1, lv1, aa1, an1, ac1, fv, gv, HSC, HMO, HST, HKE⟩ := HI.out
  obtain ⟨F, G, nl⟩ := o1
  obtain ⟨fa, fc, rfl, _⟩ := own_shape HSC.out.rf
  obtain ⟨ga, gc, rfl, _⟩ := own_shape HSC.out.rg
  obtain ⟨bd, HBD⟩ : ∃ b, Hid (b = s1.bad) := ⟨_, rfl⟩
  have x2 : wr.cell? ⟨R + 1, 2, none⟩ = some (.slice ra q rc) := HSC.out.x.cell (i := 2) (by omega)
  have m3 : wr.cell? ⟨M, 3, none⟩ = some (.bool bd) := by rw [HBD.out]; exact HSC.out.mkr.blk.cell (i := 3) (by omega)
  by_cases hlt : k < q
  ·have hlt1 : (k : Int) < (q : Int) := by omega
   have hlt0 : (0 : Int) ≤ (k : Int) := by omega
   rcases Bool.eq_false_or_eq_true bd with hbd | hbd
   ·subst hbd
    have HE : Hid (r = (s1, ⟨F, G, nl⟩)) := kidsK_end HKE.out (.inr HBD.out.symm)
    clear x2
    have e0 : wr.cell? ⟨R + 2, 0, none⟩ = some (.slice fa F.length fc) := HSC.out.out.cell (i := 0) (by omega)
    have e1 : wr.cell? ⟨R + 2, 1, none⟩ = some (.slice ga G.length gc) := HSC.out.out.cell (i := 1) (by omega)
    have e2 : wr.cell? ⟨R + 2, 2, none⟩ = some (.bool nl) := HSC.out.out.cell (i := 2) (by omega)
    have b1 := HSC.out.res.set 0 (by omega) (.slice fa F.length fc)
    have b2 := b1.set 1 (by omega) (.slice ga G.length gc)
    have q0 : wr.cell? ⟨R, 0, none⟩ = some (.slice none 0 0) := HSC.out.res.cell (i := 0) (by omega)
    have q1 : (wr.setCell ⟨R, 0, none⟩ (.slice fa F.length fc)).cell? ⟨R, 1, none⟩ = some (.slice none 0 0) := b1.cell (i := 1) (by omega)
    have q2 : ((wr.setCell ⟨R, 0, none⟩ (.slice fa F.length fc)).setCell ⟨R, 1, none⟩ (.slice ga G.length gc)).cell? ⟨R, 2, none⟩ = some (.bool false) := b2.cell (i := 2) (by omega)
    have q3 := HSC.out.res.frozen 0
    have q4 := b1.frozen 1
    have q5 := b2.frozen 2
    have x2 : wr.cell? ⟨R + 1, 2, none⟩ = some (.slice ra q rc) := HSC.out.x.cell (i := 2) (by omega)
    clear b1 b2
    go_wp2_with fail
    obtain rfl : FF = Tryz.f58 := HFF.out
    refine bodyPost_ret (res_look (k := 4) (t := 104) (b := R) Tryz.results58 rfl (load_look (k3_put HSC.out.res _ _ _))) rfl ?_
    rw [HE.out]
    exact HSC.out.fin
   ·subst hbd
    obtain ⟨t, ht, htz⟩ := HKO.out k hlt
    obtain ⟨rb, ro, rfl, hr⟩ := (HRW.out.kept HSC.out.kp (by have := HN.out; have := HM.out; have := HR.out; omega) (fun c h1 h2 e => by have h3 := HN.out; rcases e with e | e; omega; have := HL0.out c e; omega)).num (i := k) (by rw [HQL.out]; exact hlt)
    rw [ht] at hr
    obtain ⟨s2, HS2⟩ : ∃ s2, Hid (s2 = (lookK ps n t s1).1) := ⟨_, rfl⟩
    obtain ⟨y, HY⟩ : ∃ y, Hid (y = (lookK ps n t s1).2) := ⟨_, rfl⟩
    have HLK : Hid (LkOk s1 (cntK ps n t) (s2, y)) := by have h := lookK_ok ps HOK.out n t (by have := HN.out; omega) (by have := HN.out; omega) s1 HMO.out HBD.out.symm; rw [HS2.out, HY.out]; exact h
    have HNX : Hid (kidsK (lookK ps n) 5 (ks.drop (k + 1)) (stepK 5 s2 ⟨F, G, nl⟩ y).1 (stepK 5 s2 ⟨F, G, nl⟩ y).2 = r) := by have h := kidsK_next HKE.out (by rw [HQL.out]; exact hlt) HBD.out.symm; rw [ht, show ((t : Int)).toNat = t by omega, ← HS2.out, ← HY.out] at h; exact h
    have HSK : Hid (MkOk (stepK 5 s2 ⟨F, G, nl⟩ y).1 ∧ (stepK 5 s2 ⟨F, G, nl⟩ y).1.lb = s2.lb ∧ Sts lo0 s2.lb.length (stepK 5 s2 ⟨F, G, nl⟩ y).2.fi ∧ Sts lo0 s2.lb.length (stepK 5 s2 ⟨F, G, nl⟩ y).2.la) := stepK_ok HST.out.1 HST.out.2.1 HST.out.2.2 HLK.out
    have HCK : Hid (Calls Tryz.prog 58 #[.pointer (some ⟨M, 0, none⟩), .int .i64 (t : Int)] wr (LookPost M wr (.slice (some ⟨bb, oo, none⟩) m mc) lv1 aa1 (s2, y))) := by
     have h := HIH.out t htz s1 lv1 aa1 an1 ac1 wr (HA.out.kept HSC.out.kp (by have := HN.out; have := HM.out; have := HR.out; omega) (fun c h1 h2 e => by have h3 := HN.out; rcases e with e | e; omega; have := HL0.out c e; omega)) HSC.out.mkr HMO.out HBD.out.symm
     rw [HS2.out, HY.out]; exact h
    have HLE : Hid (lo0 ≤ s2.lb.length ∧ s2.lb.length ≤ 24 ∧ F.length ≤ 24 ∧ G.length ≤ 24 ∧ y.fi.length ≤ 24 ∧ y.la.length ≤ 24) := ⟨Nat.le_trans HST.out.1 HLK.out.grew.1, HLK.out.ok.len, HST.out.2.1.le24 HMO.out.len, HST.out.2.2.le24 HMO.out.len, HLK.out.fi.le24 HLK.out.ok.len, HLK.out.la.le24 HLK.out.ok.len⟩
    have HGP : Hid (∀ x, x ∈ G → ∃ t : Nat, 1 ≤ t ∧ t ≤ s2.lb.length ∧ x = (t : Int)) := (HST.out.2.2.wide (Nat.le_refl _) HLK.out.grew.1).pos
    have HYF : Hid (∀ x, x ∈ y.fi → ∃ t : Nat, 1 ≤ t ∧ t ≤ s2.lb.length ∧ x = (t : Int)) := HLK.out.fi.pos
    have HOK2 : Hid (MkOk s2) := HLK.out.ok
    clear HS2 HY HLK ht
    obtain ⟨YF, YG, ynl⟩ := y
    try dsimp only at HLE HYF
    go_upto_region 15 with (go_at_call 58; refine (HCK.out).mono ?_; rintro e w2 ⟨lv2, aa2, an2, ac2, fy, gy, rfl, HNO, HAY, HMK2, HRF, HRG, HYY, HK2, HNB⟩; obtain ⟨ya, yc, rfl, _⟩ := own_shape HRF.out.own; obtain ⟨za, zc, rfl, _⟩ := own_shape HRG.out.own)
    try dsimp only at HMK2 HRF HRG
    have HSY := Hid_mk (HSC.out.kid (y := ⟨YF, YG, ynl⟩) (T := 104) HNO.out HAY.out HMK2.out HRF.out HRG.out HYY.out HK2.out HNB.out)
    try dsimp only at HSY ⊢
    obtain ⟨D, HD⟩ : ∃ D, Hid (D = w2.heap.size) := ⟨_, rfl⟩
    rw [← HD.out] at HSY ⊢
    obtain ⟨X, HX⟩ : ∃ X, Hid (X = w2.alloc (.cells #[.slice ya YF.length yc, .slice za YG.length zc, .bool ynl] 104)) := ⟨_, rfl⟩
    rw [← HX.out] at HSY ⊢
    clear HX HD HNO HAY HMK2 HRF HRG HYY HK2 HNB HCK x2 m3 hr HSC HKE
    have x0 : X.cell? ⟨R + 1, 0, none⟩ = some (.int .i64 5) := HSY.out.sc.x.cell (i := 0) (by omega)
    have y0 : X.cell? ⟨D, 0, none⟩ = some (.slice ya YF.length yc) := HSY.out.yb.cell (i := 0) (by omega)
    have y1 : X.cell? ⟨D, 1, none⟩ = some (.slice za YG.length zc) := HSY.out.yb.cell (i := 1) (by omega)
    have y2 : X.cell? ⟨D, 2, none⟩ = some (.bool ynl) := HSY.out.yb.cell (i := 2) (by omega)
    have b1 := HSY.out.sc.out.set 0 (by omega) (.slice ya YF.length yc)
    have b2 := b1.set 1 (by omega) (.slice za YG.length zc)
    have q0 : X.cell? ⟨R + 2, 0, none⟩ = some (.slice fa F.length fc) := HSY.out.sc.out.cell (i := 0) (by omega)
    have q1 : (X.setCell ⟨R + 2, 0, none⟩ (.slice ya YF.length yc)).cell? ⟨R + 2, 1, none⟩ = some (.slice ga G.length gc) := b1.cell (i := 1) (by omega)
    have q2 : ((X.setCell ⟨R + 2, 0, none⟩ (.slice ya YF.length yc)).setCell ⟨R + 2, 1, none⟩ (.slice za YG.length zc)).cell? ⟨R + 2, 2, none⟩ = some (.bool nl) := b2.cell (i := 2) (by omega)
    have q3 := HSY.out.sc.out.frozen 0
    have q4 := b1.frozen 1
    have q5 := b2.frozen 2
    clear b1 b2
    go_upto_region 17 with fail
    clear y0 y1 y2 q0 q1 q2 q3 q4 q5 x0
    have HTK := HSY.out.take
    have HS4 := Hid_mk HTK.1
    have HY4 := Hid_mk HTK.2
    have HDR : Hid (R + 3 ≤ D) := HSY.out.dR
    clear HTK HSY
    obtain ⟨X4, HX4⟩ : ∃ X', Hid (X' = X.setCells (R + 2) 0 [.slice ya YF.length yc, .slice za YG.length zc, .bool ynl]) := ⟨_, rfl⟩
    try dsimp only at HS4 HY4
    rw [← HX4.out] at HS4 HY4
    rw [show ((X.setCell ⟨R + 2, 0, none⟩ (.slice ya YF.length yc)).setCell ⟨R + 2, 1, none⟩ (.slice za YG.length zc)).setCell ⟨R + 2, 2, none⟩ (.bool ynl) = X4 from HX4.out.symm]
    clear HX4
    have x0 : X4.cell? ⟨R + 1, 0, none⟩ = some (.int .i64 5) := HS4.out.x.cell (i := 0) (by omega)
    have y0 : X4.cell? ⟨D, 0, none⟩ = some (.slice ya YF.length yc) := HY4.out.cell (i := 0) (by omega)
    have y1 : X4.cell? ⟨D, 1, none⟩ = some (.slice za YG.length zc) := HY4.out.cell (i := 1) (by omega)
    go_upto_region 19 with (go_at_call 59; refine (join_mk2 M (R + 3) _ lv2 s2 aa2 an2 ac2 _ _ YG YF X4 HS4.out.mkr HOK2.out (by have := HM.out; omega) HS4.out.rg HS4.out.rf HYF.out (by have := HLE.out; omega) (by have := HLE.out; omega)).mono ?_; rintro e w5 ⟨aa3, an3, ac3, rfl, HM3, HK3, HN3⟩)
    have HS7 := Hid_mk (HS4.out.join HM3.out HK3.out HN3.out)
    have HY7 := Hid_mk (HK3.out.blk HY4.out (by have := HM.out; have := HDR.out; omega))
    clear x0 y0 y1 HS4 HY4 HM3 HK3 HN3
    obtain ⟨X7, HX7⟩ : ∃ X', Hid (X' = w5) := ⟨_, rfl⟩
    rw [← HX7.out] at HS7 HY7 ⊢
    clear HX7
    have x0 : X7.cell? ⟨R + 1, 0, none⟩ = some (.int .i64 5) := HS7.out.x.cell (i := 0) (by omega)
    have z0 : X7.cell? ⟨R + 2, 2, none⟩ = some (.bool ynl) := HS7.out.out.cell (i := 2) (by omega)
    have z1 : X7.cell? ⟨D, 2, none⟩ = some (.bool ynl) := HY7.out.cell (i := 2) (by omega)
    have z2 := HS7.out.out.frozen 2
    rcases Bool.eq_false_or_eq_true ynl with hyl | hyl
    ·subst hyl
     go_upto_region 13 with fail
     clear z0 z1 z2 x0
     have HSTP : stepK 5 s2 ⟨F, G, nl⟩ ⟨YF, YG, true⟩ = (⟨s2.lb, joinF s2.lb YG YF s2.ar, s2.bad⟩, ⟨YF, YG, true⟩) := by simp [stepK]
     have hsk := HSK.out
     have hnx := HNX.out
     rw [HSTP] at hsk hnx
     try dsimp only at hsk hnx
     have HLN : Hid (LI M R w (.slice (some ⟨bb, oo, none⟩) m mc) lv aa (k3 (.int .i64 5) (.int .u8 x1) (.slice (some ⟨rb, ro, none⟩) q rc)) (lookK ps n) 5 ks lo0 r (k + 1) _) := ⟨_, _, _, _, _, _, _, _, (Hid_mk (HS7.out.null true)), hsk.1, ⟨by have := HLE.out; show lo0 ≤ s2.lb.length; omega, hsk.2.2.1, hsk.2.2.2⟩, hnx⟩
     clear hsk hnx HSTP
     go_wp2
     go_roundw
     case rel => exact ⟨k + 1, by go_num, by omega, HLN⟩
     case measure => simp [intOf]; omega
    ·subst hyl
     go_upto_region 13 with fail
     clear z0 z1 z2 x0
     have HSTP : stepK 5 s2 ⟨F, G, nl⟩ ⟨YF, YG, false⟩ = (⟨s2.lb, joinF s2.lb YG YF s2.ar, s2.bad⟩, ⟨YF, YG, false⟩) := by simp [stepK]
     have hsk := HSK.out
     have hnx := HNX.out
     rw [HSTP] at hsk hnx
     try dsimp only at hsk hnx
     have HLN : Hid (LI M R w (.slice (some ⟨bb, oo, none⟩) m mc) lv aa (k3 (.int .i64 5) (.int .u8 x1) (.slice (some ⟨rb, ro, none⟩) q rc)) (lookK ps n) 5 ks lo0 r (k + 1) _) := ⟨_, _, _, _, _, _, _, _, (Hid_mk (HS7.out.null false)), hsk.1, ⟨by have := HLE.out; show lo0 ≤ s2.lb.length; omega, hsk.2.2.1, hsk.2.2.2⟩, hnx⟩
     clear hsk hnx HSTP
     go_wp2
     go_roundw
     case rel => exact ⟨k + 1, by go_num, by omega, HLN⟩
     case measure => simp [intOf]; omega
  ·have hlt1 : ¬ (k : Int) < (q : Int) := by omega
   have HE : Hid (r = (s1, ⟨F, G, nl⟩)) := kidsK_end HKE.out (.inl (by rw [HQL.out]; omega))
   clear x2
   have e0 : wr.cell? ⟨R + 2, 0, none⟩ = some (.slice fa F.length fc) := HSC.out.out.cell (i := 0) (by omega)
   have e1 : wr.cell? ⟨R + 2, 1, none⟩ = some (.slice ga G.length gc) := HSC.out.out.cell (i := 1) (by omega)
   have e2 : wr.cell? ⟨R + 2, 2, none⟩ = some (.bool nl) := HSC.out.out.cell (i := 2) (by omega)
   have b1 := HSC.out.res.set 0 (by omega) (.slice fa F.length fc)
   have b2 := b1.set 1 (by omega) (.slice ga G.length gc)
   have q0 : wr.cell? ⟨R, 0, none⟩ = some (.slice none 0 0) := HSC.out.res.cell (i := 0) (by omega)
   have q1 : (wr.setCell ⟨R, 0, none⟩ (.slice fa F.length fc)).cell? ⟨R, 1, none⟩ = some (.slice none 0 0) := b1.cell (i := 1) (by omega)
   have q2 : ((wr.setCell ⟨R, 0, none⟩ (.slice fa F.length fc)).setCell ⟨R, 1, none⟩ (.slice ga G.length gc)).cell? ⟨R, 2, none⟩ = some (.bool false) := b2.cell (i := 2) (by omega)
   have q3 := HSC.out.res.frozen 0
   have q4 := b1.frozen 1
   have q5 := b2.frozen 2
   have x2 : wr.cell? ⟨R + 1, 2, none⟩ = some (.slice ra q rc) := HSC.out.x.cell (i := 2) (by omega)
   clear b1 b2
   go_wp2_with fail
   obtain rfl : FF = Tryz.f58 := HFF.out
   refine bodyPost_ret (res_look (k := 4) (t := 104) (b := R) Tryz.results58 rfl (load_look (k3_put HSC.out.res _ _ _))) rfl ?_
   rw [HE.out]
   exact HSC.out.fin
end Go.Proofs.YtbepmeipjdpipaaGreat
