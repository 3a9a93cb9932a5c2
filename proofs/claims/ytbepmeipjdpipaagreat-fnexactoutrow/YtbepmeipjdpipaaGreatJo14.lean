import Derived.Test.YtbepmeipjdpipaaGreatJo11
import Derived.Test.YtbepmeipjdpipaaGreatJo01
import Derived.Test.YtbepmeipjdpipaaGreatJo04
import Derived.Test.YtbepmeipjdpipaaGreatJo02
import Derived.Deep.MidRow
import Derived.Deep.DeepCutAuto
import Derived.Deep.CutBlock
namespace Go.Proofs.YtbepmeipjdpipaaGreat
open Go.RowKit
set_option maxHeartbeats 2000000 in
set_option maxRecDepth 100000 in
theorem look_one6 (lo hi M z n : Nat) (b : Option Addr) (m mc : Nat) (ps : List Pc) (lv : Value) (s : MkS) (aa : Option Addr) (an ac : Nat) (w : World) (ha : PathIn lo hi w b ps) (hh : hi ≤ M) (hn : ps.length = m) (hz : z < m) (hzn : z < n + 1) (hop : (pat ps z).1 = 6) (hok : ∀ i, i < ps.length → formOk (pat ps i) = true ∧ kidsOk i (pat ps i).2.2 = true) (hq : (pat ps z).2.2.length ≤ 1048576) (hmk : Mk M w (.slice b m mc) lv s aa an ac) (hs : MkOk s) (hb : s.bad = false)
  (ih : ∀ k, k < z → ∀ (s' : MkS) (lv' : Value) (aa' : Option Addr) (an' ac' : Nat) (w' : World), PathIn lo hi w' b ps → Mk M w' (.slice b m mc) lv' s' aa' an' ac' → MkOk s' → s'.bad = false → Calls Tryz.prog 58 #[.pointer (some ⟨M, 0, none⟩), .int .i64 (k : Int)] w' (LookPost M w' (.slice b m mc) lv' aa' (lookK ps n k s'))) :
  Calls Tryz.prog 58 #[.pointer (some ⟨M, 0, none⟩), .int .i64 (z : Int)] w (LookPost M w (.slice b m mc) lv aa (lookK ps (n + 1) z s)) := by
 have HA : Hid (PathIn lo hi w b ps) := ha
 have HOK : Hid (∀ i, i < ps.length → formOk (pat ps i) = true ∧ kidsOk i (pat ps i).2.2 = true) := hok
 have HIH : Hid (∀ k, k < z → ∀ (s' : MkS) (lv' : Value) (aa' : Option Addr) (an' ac' : Nat) (w' : World), PathIn lo hi w' b ps → Mk M w' (.slice b m mc) lv' s' aa' an' ac' → MkOk s' → s'.bad = false → Calls Tryz.prog 58 #[.pointer (some ⟨M, 0, none⟩), .int .i64 (k : Int)] w' (LookPost M w' (.slice b m mc) lv' aa' (lookK ps n k s'))) := ih
 have HN : Hid (ps.length = m ∧ z < m ∧ hi ≤ M ∧ z < n + 1) := ⟨hn, hz, hh, hzn⟩
 have hkz := (hok z (by omega)).2
 obtain ⟨i3, hi3, hz30, hz31, hz32⟩ := info_parts Tryz.info3
 obtain ⟨bb, oo, rfl, _, hbh, p0, p1, ra, rc, p2, hrow⟩ := ha.piece (k := z) (by rw [hn]; exact hz)
 obtain ⟨r, HRR⟩ : ∃ r, Hid (r = lookK ps (n + 1) z s) := ⟨_, rfl⟩
 rw [← HRR.out]
 obtain ⟨x, HX⟩ : ∃ x, Hid (x = pat ps z) := ⟨_, rfl⟩
 have HRU : Hid (r = lookK ps (n + 1) z s) := HRR
 have hru := HRU.out
 unfold lookK at hru
 rw [← HX.out] at p0 p1 p2 hop hq hrow hru hkz
 obtain ⟨x0, x1, ks⟩ := x
 dsimp only at p0 p1 p2 hop hq hrow hru hkz
 subst hop
 rw [if_neg (by omega)] at hru
 have HKR : Hid (kidsK (lookK ps n) 6 ks s ⟨[], [], decide ((6 : Int) = 2)⟩ = r) := hru.symm
 clear hru HRU HRR HX
 obtain ⟨q, HQL⟩ : ∃ q, Hid (ks.length = q) := ⟨_, rfl⟩
 rw [HQL.out] at p2 hq
 have HKO : Hid (∀ j, j < q → ∃ t : Nat, ks.getD j 0 = (t : Int) ∧ t < z) := fun j hj => by
  have h1 := List.all_eq_true.1 hkz (ks.getD j 0) (by rw [List.getD, List.getElem?_eq_getElem (by rw [HQL.out]; exact hj)]; exact List.getElem_mem _)
  simp only [Bool.and_eq_true, decide_eq_true_eq] at h1
  exact ⟨(ks.getD j 0).toNat, by omega, by omega⟩
 obtain ⟨R, HR⟩ : ∃ R, Hid (R = w.heap.size) := ⟨_, rfl⟩
 obtain ⟨V, HV⟩ : ∃ W, Hid (W = ((w.alloc (.cells #[.slice none 0 0, .slice none 0 0, .bool false] 104)).alloc (.cells #[.int .i64 6, .int .u8 x1, .slice ra q rc] 127)).alloc (.cells #[.slice none 0 0, .slice none 0 0, .bool false] 104)) := ⟨_, rfl⟩
 have HBV : Hid (Below w.heap.size w V) := by rw [HV.out]; exact below3 w _ _ _
 have HSV : Hid (V.heap.size = R + 3) := by rw [HV.out, HR.out]; show _ = _; simp
 have HRB : Hid (Blk V R 3 (k3 (.slice none 0 0) (.slice none 0 0) (.bool false))) := by rw [HV.out]; exact ((blk_three w R HR.out _ _ _ _).alloc _).alloc _
 have HXB : Hid (Blk V (R + 1) 3 (k3 (.int .i64 6) (.int .u8 x1) (.slice ra q rc))) := by rw [HV.out]; exact (blk_three _ (R + 1) (by rw [HR.out]; simp) _ _ _ _).alloc _
 have HOB : Hid (Blk V (R + 2) 3 (k3 (.slice none 0 0) (.slice none 0 0) (.bool false))) := by rw [HV.out]; exact blk_three _ (R + 2) (by rw [HR.out]; simp) _ _ _ _
 have HM : Hid (M < R ∧ bb < M) := ⟨by rw [HR.out]; exact hmk.blk.lt, by omega⟩
 obtain ⟨lo0, HLO⟩ : ∃ n, Hid (n = s.lb.length) := ⟨_, rfl⟩
 have HL0 : Hid (∀ c, lv.ownBlock = some c → M + 1 ≤ c ∧ c < R) := fun c h => by have h1 := hmk.lab.lt c h; rw [HR.out]; exact h1
 have HSC0 : Hid (Sc M R w (.slice (some ⟨bb, oo, none⟩) m mc) lv aa (k3 (.int .i64 6) (.int .u8 x1) (.slice ra q rc)) V s ⟨[], [], false⟩ lv aa an ac (.slice none 0 0) (.slice none 0 0)) :=
  { mR := HM.out.1
    hR := HR.out
    l0 := fun c h => (HL0.out c h).2
    res := HRB.out
    x := HXB.out
    out := HOB.out
    mkr := hmk.kept (kp_below HBV.out) (by have := hmk.blk.lt; omega) (fun b e => by have := (hmk.lab.lt b e).2; omega) (fun b o e => by have := (hmk.off b o e).2.1; omega)
    rf := ⟨rfl, .inl ⟨rfl, rfl⟩⟩
    rg := ⟨rfl, .inl ⟨rfl, rfl⟩⟩
    fg := fun b e => by cases e
    fl := fun b e => by cases e
    gl := fun b e => by cases e
    af := fun b o e e2 => by cases e2
    ag := fun b o e e2 => by cases e2
    ax := fun b o e => .inl (by have := (hmk.off b o e).2.1; have := HR.out; omega)
    kp := KeptP.of_below HBV.out (fun _ h _ => h)
    nb := .inl rfl
    na := .inl rfl }
 have hz0 : (0 : Int) ≤ (z : Int) := by omega
 have hz1 : (z : Int) < (m : Int) := by omega
 have hm0 : w.cell? ⟨M, 0, none⟩ = some (.slice (some ⟨bb, oo, none⟩) m mc) := hmk.blk.cell (i := 0) (by omega)
 have g0 := cell_below p0 (below1 w (.cells #[.slice none 0 0, .slice none 0 0, .bool false] 104)) (by have := HM.out; have := HR.out; omega)
 have g1 := cell_below p1 (below1 w (.cells #[.slice none 0 0, .slice none 0 0, .bool false] 104)) (by have := HM.out; have := HR.out; omega)
 have g2 := cell_below p2 (below1 w (.cells #[.slice none 0 0, .slice none 0 0, .bool false] 104)) (by have := HM.out; have := HR.out; omega)
 have g3 := cell_below hm0 (below1 w (.cells #[.slice none 0 0, .slice none 0 0, .bool false] 104)) (by have := HM.out; have := HR.out; omega)
 have HRW : Hid (RowIn lo hi w ra ks) := hrow
 have HMS : Hid (MkOk s) := hs
 have HBD : Hid (s.bad = false) := hb
 clear ha hh hn hrow hmk p0 p1 p2 hm0 hbh hok ih hz hzn hkz hs hb
 go_enter Tryz.func58, Tryz.ntmps58
 obtain ⟨FF, HFF⟩ : ∃ F : Func, Hid (F = Tryz.f58) := ⟨_, rfl⟩
 rw [← HFF.out]
 go_upto_region 3 with fail
 rw [← HR.out]
 first | rw [← HV.out] | (rw [show _ = V from HV.out.symm])
 clear HV g0 g1 g2 g3
 have c0 : V.cell? ⟨R + 1, 0, none⟩ = some (.int .i64 6) := HXB.out.cell (i := 0) (by omega)
 go_upto_region 11 with fail
 clear c0
 obtain ⟨W, HW⟩ : ∃ W, Hid (W = V) := ⟨_, rfl⟩
 have HSC1 : Hid (Sc M R w (.slice (some ⟨bb, oo, none⟩) m mc) lv aa (k3 (.int .i64 6) (.int .u8 x1) (.slice ra q rc)) W s ⟨[], [], false⟩ lv aa an ac (.slice none 0 0) (.slice none 0 0)) := by rw [HW.out]; exact HSC0.out
 rw [← HW.out]
 clear HW HSC0 HRB HXB HOB HBV HSV
 go_upto_region 11 with fail
 have HLI : Hid (LI M R w (.slice (some ⟨bb, oo, none⟩) m mc) lv aa (k3 (.int .i64 6) (.int .u8 x1) (.slice ra q rc)) (lookK ps n) 6 ks lo0 r 0 W) := ⟨s, ⟨[], [], false⟩, lv, aa, an, ac, _, _, HSC1, HMS, ⟨by rw [HLO.out]; exact Nat.le_refl _, Sts.nil _ _, Sts.nil _ _⟩, HKR⟩
 clear HSC1 HMS HBD HKR
 go_wp2
 go_loopw [8] (fun i wr => ∃ k : Nat, i = .int .i64 (k : Int) ∧ k ≤ q ∧ Hid (LI M R w (.slice (some ⟨bb, oo, none⟩) m mc) lv aa (k3 (.int .i64 6) (.int .u8 x1) (.slice ra q rc)) (lookK ps n) 6 ks lo0 r k wr)) (fun i _ => q - (intOf i).toNat)
 case atStart => exact ⟨0, rfl, by omega, HLI⟩
 case round =>
  obtain ⟨k, rfl, hk, HI⟩ := hrel
  obtain ⟨s1, o1, lv1, aa1, an1, ac1, fv, gv, HSC, HMO, HST, HKE⟩ := HI.out
  obtain ⟨F, G, nl⟩ := o1
  obtain ⟨fa, fc, rfl, _⟩ := own_shape HSC.out.rf
  obtain ⟨ga, gc, rfl, _⟩ := own_shape HSC.out.rg
  obtain ⟨bd, HBD⟩ : ∃ b, Hid (b = s1.bad) := ⟨_, rfl⟩
  have x2 : wr.cell? ⟨R + 1, 2, none⟩ = some (.slice ra q rc) := HSC.out.x.cell (i := 2) (by omega)
  have m3 : wr.cell? ⟨M, 3, none⟩ = some (.bool bd) := by rw [HBD.out]; exact HSC.out.mkr.blk.cell (i := 3) (by omega)
  by_cases hlt : k < q
  ·have hlt1 : (k : Int) < (q : Int) := by omega
   have hlt0 : (0 : Int) ≤ (k : Int) := by omega
   rcases Bool.eq_false_or_eq_true bd with hbd | hbd
   ·subst hbd
    have HE : Hid (r = (s1, ⟨F, G, nl⟩)) := kidsK_end HKE.out (.inr HBD.out.symm)
    clear x2
    have e0 : wr.cell? ⟨R + 2, 0, none⟩ = some (.slice fa F.length fc) := HSC.out.out.cell (i := 0) (by omega)
    have e1 : wr.cell? ⟨R + 2, 1, none⟩ = some (.slice ga G.length gc) := HSC.out.out.cell (i := 1) (by omega)
    have e2 : wr.cell? ⟨R + 2, 2, none⟩ = some (.bool nl) := HSC.out.out.cell (i := 2) (by omega)
    have b1 := HSC.out.res.set 0 (by omega) (.slice fa F.length fc)
    have b2 := b1.set 1 (by omega) (.slice ga G.length gc)
    have q0 : wr.cell? ⟨R, 0, none⟩ = some (.slice none 0 0) := HSC.out.res.cell (i := 0) (by omega)
    have q1 : (wr.setCell ⟨R, 0, none⟩ (.slice fa F.length fc)).cell? ⟨R, 1, none⟩ = some (.slice none 0 0) := b1.cell (i := 1) (by omega)
    have q2 : ((wr.setCell ⟨R, 0, none⟩ (.slice fa F.length fc)).setCell ⟨R, 1, none⟩ (.slice ga G.length gc)).cell? ⟨R, 2, none⟩ = some (.bool false) := b2.cell (i := 2) (by omega)
    have q3 := HSC.out.res.frozen 0
    have q4 := b1.frozen 1
    have q5 := b2.frozen 2
    have x2 : wr.cell? ⟨R + 1, 2, none⟩ = some (.slice ra q rc) := HSC.out.x.cell (i := 2) (by omega)
    clear b1 b2
    go_wp2_with fail
    obtain rfl : FF = Tryz.f58 := HFF.out
    refine bodyPost_ret (res_look (k := 4) (t := 104) (b := R) Tryz.results58 rfl (load_look (k3_put HSC.out.res _ _ _))) rfl ?_
    rw [HE.out]
    exact HSC.out.fin
   ·subst hbd
    obtain ⟨t, ht, htz⟩ := HKO.out k hlt
    obtain ⟨rb, ro, rfl, hr⟩ := (HRW.out.kept HSC.out.kp (by have := HN.out; have := HM.out; have := HR.out; omega) (fun c h1 h2 e => by have h3 := HN.out; rcases e with e | e; omega; have := HL0.out c e; omega)).num (i := k) (by rw [HQL.out]; exact hlt)
    rw [ht] at hr
    obtain ⟨s2, HS2⟩ : ∃ s2, Hid (s2 = (lookK ps n t s1).1) := ⟨_, rfl⟩
    obtain ⟨y, HY⟩ : ∃ y, Hid (y = (lookK ps n t s1).2) := ⟨_, rfl⟩
    have HLK : Hid (LkOk s1 (cntK ps n t) (s2, y)) := by have h := lookK_ok ps HOK.out n t (by have := HN.out; omega) (by have := HN.out; omega) s1 HMO.out HBD.out.symm; rw [HS2.out, HY.out]; exact h
    have HNX : Hid (kidsK (lookK ps n) 6 (ks.drop (k + 1)) (stepK 6 s2 ⟨F, G, nl⟩ y).1 (stepK 6 s2 ⟨F, G, nl⟩ y).2 = r) := by have h := kidsK_next HKE.out (by rw [HQL.out]; exact hlt) HBD.out.symm; rw [ht, show ((t : Int)).toNat = t by omega, ← HS2.out, ← HY.out] at h; exact h
    have HSK : Hid (MkOk (stepK 6 s2 ⟨F, G, nl⟩ y).1 ∧ (stepK 6 s2 ⟨F, G, nl⟩ y).1.lb = s2.lb ∧ Sts lo0 s2.lb.length (stepK 6 s2 ⟨F, G, nl⟩ y).2.fi ∧ Sts lo0 s2.lb.length (stepK 6 s2 ⟨F, G, nl⟩ y).2.la) := stepK_ok HST.out.1 HST.out.2.1 HST.out.2.2 HLK.out
    have HCK : Hid (Calls Tryz.prog 58 #[.pointer (some ⟨M, 0, none⟩), .int .i64 (t : Int)] wr (LookPost M wr (.slice (some ⟨bb, oo, none⟩) m mc) lv1 aa1 (s2, y))) := by
     have h := HIH.out t htz s1 lv1 aa1 an1 ac1 wr (HA.out.kept HSC.out.kp (by have := HN.out; have := HM.out; have := HR.out; omega) (fun c h1 h2 e => by have h3 := HN.out; rcases e with e | e; omega; have := HL0.out c e; omega)) HSC.out.mkr HMO.out HBD.out.symm
     rw [HS2.out, HY.out]; exact h
    have HLE : Hid (lo0 ≤ s2.lb.length ∧ s2.lb.length ≤ 24 ∧ F.length ≤ 24 ∧ G.length ≤ 24 ∧ y.fi.length ≤ 24 ∧ y.la.length ≤ 24) := ⟨Nat.le_trans HST.out.1 HLK.out.grew.1, HLK.out.ok.len, HST.out.2.1.le24 HMO.out.len, HST.out.2.2.le24 HMO.out.len, HLK.out.fi.le24 HLK.out.ok.len, HLK.out.la.le24 HLK.out.ok.len⟩
    have HGP : Hid (∀ x, x ∈ G → ∃ t : Nat, 1 ≤ t ∧ t ≤ s2.lb.length ∧ x = (t : Int)) := (HST.out.2.2.wide (Nat.le_refl _) HLK.out.grew.1).pos
    have HYF : Hid (∀ x, x ∈ y.fi → ∃ t : Nat, 1 ≤ t ∧ t ≤ s2.lb.length ∧ x = (t : Int)) := HLK.out.fi.pos
    have HOK2 : Hid (MkOk s2) := HLK.out.ok
    clear HS2 HY HLK ht
    obtain ⟨YF, YG, ynl⟩ := y
    try dsimp only at HLE HYF
    go_upto_region 15 with (go_at_call 58; refine (HCK.out).mono ?_; rintro e w2 ⟨lv2, aa2, an2, ac2, fy, gy, rfl, HNO, HAY, HMK2, HRF, HRG, HYY, HK2, HNB⟩; obtain ⟨ya, yc, rfl, _⟩ := own_shape HRF.out.own; obtain ⟨za, zc, rfl, _⟩ := own_shape HRG.out.own)
    try dsimp only at HMK2 HRF HRG
    have HSY := Hid_mk (HSC.out.kid (y := ⟨YF, YG, ynl⟩) (T := 104) HNO.out HAY.out HMK2.out HRF.out HRG.out HYY.out HK2.out HNB.out)
    try dsimp only at HSY ⊢
    obtain ⟨D, HD⟩ : ∃ D, Hid (D = w2.heap.size) := ⟨_, rfl⟩
    rw [← HD.out] at HSY ⊢
    obtain ⟨X, HX⟩ : ∃ X, Hid (X = w2.alloc (.cells #[.slice ya YF.length yc, .slice za YG.length zc, .bool ynl] 104)) := ⟨_, rfl⟩
    rw [← HX.out] at HSY ⊢
    clear HX HD HNO HAY HMK2 HRF HRG HYY HK2 HNB HCK x2 m3 hr HSC HKE
    have x0 : X.cell? ⟨R + 1, 0, none⟩ = some (.int .i64 6) := HSY.out.sc.x.cell (i := 0) (by omega)
    have y0 : X.cell? ⟨D, 0, none⟩ = some (.slice ya YF.length yc) := HSY.out.yb.cell (i := 0) (by omega)
    have y1 : X.cell? ⟨D, 1, none⟩ = some (.slice za YG.length zc) := HSY.out.yb.cell (i := 1) (by omega)
    have y2 : X.cell? ⟨D, 2, none⟩ = some (.bool ynl) := HSY.out.yb.cell (i := 2) (by omega)
    have b1 := HSY.out.sc.out.set 0 (by omega) (.slice ya YF.length yc)
    have b2 := b1.set 1 (by omega) (.slice za YG.length zc)
    have q0 : X.cell? ⟨R + 2, 0, none⟩ = some (.slice fa F.length fc) := HSY.out.sc.out.cell (i := 0) (by omega)
    have q1 : (X.setCell ⟨R + 2, 0, none⟩ (.slice ya YF.length yc)).cell? ⟨R + 2, 1, none⟩ = some (.slice ga G.length gc) := b1.cell (i := 1) (by omega)
    have q2 : ((X.setCell ⟨R + 2, 0, none⟩ (.slice ya YF.length yc)).setCell ⟨R + 2, 1, none⟩ (.slice za YG.length zc)).cell? ⟨R + 2, 2, none⟩ = some (.bool nl) := b2.cell (i := 2) (by omega)
    have q3 := HSY.out.sc.out.frozen 0
    have q4 := b1.frozen 1
    have q5 := b2.frozen 2
    clear b1 b2
    go_upto_region 17 with fail
    clear y0 y1 y2 q0 q1 q2 q3 q4 q5 x0
    have HTK := HSY.out.take
    have HS4 := Hid_mk HTK.1
    have HY4 := Hid_mk HTK.2
    have HDR : Hid (R + 3 ≤ D) := HSY.out.dR
    clear HTK HSY
    obtain ⟨X4, HX4⟩ : ∃ X', Hid (X' = X.setCells (R + 2) 0 [.slice ya YF.length yc, .slice za YG.length zc, .bool ynl]) := ⟨_, rfl⟩
    try dsimp only at HS4 HY4
    rw [← HX4.out] at HS4 HY4
    rw [show ((X.setCell ⟨R + 2, 0, none⟩ (.slice ya YF.length yc)).setCell ⟨R + 2, 1, none⟩ (.slice za YG.length zc)).setCell ⟨R + 2, 2, none⟩ (.bool ynl) = X4 from HX4.out.symm]
    clear HX4
    have x0 : X4.cell? ⟨R + 1, 0, none⟩ = some (.int .i64 6) := HS4.out.x.cell (i := 0) (by omega)
    go_upto_region 19 with fail
    have HS7 := HS4
    have HY7 := HY4
    clear x0
    obtain ⟨X7, HX7⟩ : ∃ X', Hid (X' = X4) := ⟨_, rfl⟩
    rw [← HX7.out] at HS7 HY7 ⊢
    clear HX7 HS4 HY4
    have x0 : X7.cell? ⟨R + 1, 0, none⟩ = some (.int .i64 6) := HS7.out.x.cell (i := 0) (by omega)
    have z0 : X7.cell? ⟨R + 2, 2, none⟩ = some (.bool ynl) := HS7.out.out.cell (i := 2) (by omega)
    have z1 : X7.cell? ⟨D, 2, none⟩ = some (.bool ynl) := HY7.out.cell (i := 2) (by omega)
    have z2 := HS7.out.out.frozen 2
    rcases Bool.eq_false_or_eq_true ynl with hyl | hyl
    ·subst hyl
     go_upto_region 13 with fail
     clear z0 z1 z2 x0
     have HSTP : stepK 6 s2 ⟨F, G, nl⟩ ⟨YF, YG, true⟩ = (s2, ⟨YF, YG, true⟩) := by simp [stepK]
     have hsk := HSK.out
     have hnx := HNX.out
     rw [HSTP] at hsk hnx
     try dsimp only at hsk hnx
     have HLN : Hid (LI M R w (.slice (some ⟨bb, oo, none⟩) m mc) lv aa (k3 (.int .i64 6) (.int .u8 x1) (.slice (some ⟨rb, ro, none⟩) q rc)) (lookK ps n) 6 ks lo0 r (k + 1) _) := ⟨_, _, _, _, _, _, _, _, (Hid_mk (HS7.out.null true)), hsk.1, ⟨by have := HLE.out; show lo0 ≤ s2.lb.length; omega, hsk.2.2.1, hsk.2.2.2⟩, hnx⟩
     clear hsk hnx HSTP
     go_wp2
     go_roundw
     case rel => exact ⟨k + 1, by go_num, by omega, HLN⟩
     case measure => simp [intOf]; omega
    ·subst hyl
     go_upto_region 13 with fail
     clear z0 z1 z2 x0
     have HSTP : stepK 6 s2 ⟨F, G, nl⟩ ⟨YF, YG, false⟩ = (s2, ⟨YF, YG, true⟩) := by simp [stepK]
     have hsk := HSK.out
     have hnx := HNX.out
     rw [HSTP] at hsk hnx
     try dsimp only at hsk hnx
     have HLN : Hid (LI M R w (.slice (some ⟨bb, oo, none⟩) m mc) lv aa (k3 (.int .i64 6) (.int .u8 x1) (.slice (some ⟨rb, ro, none⟩) q rc)) (lookK ps n) 6 ks lo0 r (k + 1) _) := ⟨_, _, _, _, _, _, _, _, (Hid_mk (HS7.out.null true)), hsk.1, ⟨by have := HLE.out; show lo0 ≤ s2.lb.length; omega, hsk.2.2.1, hsk.2.2.2⟩, hnx⟩
     clear hsk hnx HSTP
     go_wp2
     go_roundw
     case rel => exact ⟨k + 1, by go_num, by omega, HLN⟩
     case measure => simp [intOf]; omega
  ·have hlt1 : ¬ (k : Int) < (q : Int) := by omega
   have HE : Hid (r = (s1, ⟨F, G, nl⟩)) := kidsK_end HKE.out (.inl (by rw [HQL.out]; omega))
   clear x2
   have e0 : wr.cell? ⟨R + 2, 0, none⟩ = some (.slice fa F.length fc) := HSC.out.out.cell (i := 0) (by omega)
   have e1 : wr.cell? ⟨R + 2, 1, none⟩ = some (.slice ga G.length gc) := HSC.out.out.cell (i := 1) (by omega)
   have e2 : wr.cell? ⟨R + 2, 2, none⟩ = some (.bool nl) := HSC.out.out.cell (i := 2) (by omega)
   have b1 := HSC.out.res.set 0 (by omega) (.slice fa F.length fc)
   have b2 := b1.set 1 (by omega) (.slice ga G.length gc)
   have q0 : wr.cell? ⟨R, 0, none⟩ = some (.slice none 0 0) := HSC.out.res.cell (i := 0) (by omega)
   have q1 : (wr.setCell ⟨R, 0, none⟩ (.slice fa F.length fc)).cell? ⟨R, 1, none⟩ = some (.slice none 0 0) := b1.cell (i := 1) (by omega)
   have q2 : ((wr.setCell ⟨R, 0, none⟩ (.slice fa F.length fc)).setCell ⟨R, 1, none⟩ (.slice ga G.length gc)).cell? ⟨R, 2, none⟩ = some (.bool false) := b2.cell (i := 2) (by omega)
   have q3 := HSC.out.res.frozen 0
   have q4 := b1.frozen 1
   have q5 := b2.frozen 2
   have x2 : wr.cell? ⟨R + 1, 2, none⟩ = some (.slice ra q rc) := HSC.out.x.cell (i := 2) (by omega)
   clear b1 b2
   go_wp2_with fail
   obtain rfl : FF = Tryz.f58 := HFF.out
   refine bodyPost_ret (res_look (k := 4) (t := 104) (b := R) Tryz.results58 rfl (load_look (k3_put HSC.out.res _ _ _))) rfl ?_
   rw [HE.out]
   exact HSC.out.fin
end Go.Proofs.YtbepmeipjdpipaaGreat

namespace Go.Proofs.YtbepmeipjdpipaaGreat
open Go.RowKit
theorem size_setCells (b : Nat) : ∀ (vs : List Value) (o : Nat) (w : World), (w.setCells b o vs).heap.size = w.heap.size
 | [], _, _ => rfl
 | v :: r, o, w => by rw [World.setCells, size_setCells b r]; simp
theorem block_setCells {b c : Nat} (h : c ≠ b) : ∀ (vs : List Value) (o : Nat) (w : World), (w.setCells b o vs).heap[c]? = w.heap[c]?
 | [], _, _ => rfl
 | v :: r, o, w => by rw [World.setCells, block_setCells h r, Below.heap_setCell w ⟨b, o, none⟩ v c (by simpa using h)]
theorem Below.setCells {B b : Nat} (hb : B ≤ b) : ∀ (vs : List Value) (o : Nat) {w w1 : World}, Below B w w1 → Below B w (w1.setCells b o vs)
 | [], _, _, _, h => h
 | v :: r, o, _, _, h => Below.setCells hb r (o + 1) (h.setCell hb v)
theorem KeptP.setCells {p : Nat → Prop} {g : Nat} (hg : p g) {w : World} : ∀ (vs : List Value) (o : Nat) {w1 : World}, KeptP p w w1 → KeptP p w (w1.setCells g o vs)
 | [], _, _, h => h
 | v :: r, o, _, h => KeptP.setCells hg r (o + 1) (h.setCell hg v)
theorem Blk.setRange {b n : Nat} : ∀ (vs : List Value) (o : Nat) {w : World} {f : Nat → Value}, Blk w b n f → o + vs.length ≤ n → Blk (w.setCells b o vs) b n (fun i => if o ≤ i ∧ i < o + vs.length then vs.getD (i - o) (.int .i64 0) else f i)
 | [], o, w, f, h, _ => h.congr fun i hi => by simp; intro h1 h2; omega
 | v :: r, o, w, f, h, hl => by
  simp only [List.length_cons] at hl
  have h2 := Blk.setRange r (o + 1) (h.set o (by omega) v) (by omega)
  refine h2.congr fun i hi => ?_
  by_cases e : i = o
  ·subst e
   rw [if_neg (by omega), if_pos rfl, if_pos (by simp only [List.length_cons]; omega)]
   simp
  ·by_cases e2 : o + 1 ≤ i ∧ i < o + 1 + r.length
   ·rw [if_pos e2, if_pos (by simp only [List.length_cons]; omega)]
    obtain ⟨d, rfl⟩ : ∃ d, i = o + 1 + d := ⟨i - (o + 1), by omega⟩
    rw [show o + 1 + d - (o + 1) = d by omega, show o + 1 + d - o = d + 1 by omega]
    simp
   ·rw [if_neg e2, if_neg e, if_neg (by simp only [List.length_cons]; omega)]
theorem results_row {P : Program} {F : Func} {tmps : Array Value} {w : World} {k t b : Nat} {v : Value} (hr : F.results = #[.cell k t]) (hk : tmps[k]? = some (.pointer (some ⟨b, 0, none⟩))) (hl : (loadVar t ⟨b, 0, none⟩).run P w = .ok v w) : (results F tmps).run P w = .ok v w := by
 have e : (#[ResultVar.cell k t] : Array ResultVar) = [ResultVar.cell k t].toArray := rfl
 simp [results, hr, hk, asAddr, hl]
theorem results_row2 {P : Program} {F : Func} {tmps : Array Value} {w : World} {k m t b : Nat} {v u : Value} (hr : F.results = #[.cell k t, .tmp m]) (hk : tmps[k]? = some (.pointer (some ⟨b, 0, none⟩))) (hm : tmps[m]? = some u) (hl : (loadVar t ⟨b, 0, none⟩).run P w = .ok v w) : (results F tmps).run P w = .ok (.tuple #[v, u]) w := by
 have hm' : tmps[m]?.getD undef = u := by rw [hm]; rfl
 simp [results, hr, hk, asAddr, hl, hm]
end Go.Proofs.YtbepmeipjdpipaaGreat

namespace Go.Proofs.YtbepmeipjdpipaaGreat
open Go.RowKit
def bcells (n : Nat) (f : Nat → Bool) : List Value := (List.range n).map fun i => .bool (f i)
abbrev sv (f : Nat → Bool) : Value := .agg (bcells 24 f).toArray
def BBlk (w : World) (b n : Nat) (f : Nat → Bool) : Prop := Blk w b n (fun i => .bool (f i))
theorem bcells_len (n : Nat) (f : Nat → Bool) : (bcells n f).length = n := by simp [bcells]
theorem bcells_size (n : Nat) (f : Nat → Bool) : (bcells n f).toArray.size = n := by simp [bcells]
theorem bcells_one (n : Nat) (f : Nat → Bool) : (bcells n f).toArray.all (·.oneCell') = true := by simp [bcells, Value.oneCell']
theorem bcells_congr {n : Nat} {f g : Nat → Bool} (h : ∀ i, i < n → f i = g i) : bcells n f = bcells n g := List.map_congr_left fun i hi => by rw [h i (List.mem_range.1 hi)]
theorem BBlk.range {w : World} {b n : Nat} {f : Nat → Bool} (h : BBlk w b n f) (o m : Nat) (hm : o + m ≤ n) : w.rangeAt b o (bcells m fun i => f (o + i)) := by
 intro j v hv
 have hj : j < m := by have := (List.getElem?_eq_some_iff.1 hv).1; rwa [bcells_len] at this
 simp [bcells, hj] at hv
 subst hv
 exact Blk.cell h (by omega)
theorem BBlk.all {w : World} {b n : Nat} {f : Nat → Bool} (h : BBlk w b n f) : w.rangeAt b 0 (bcells n f) := by
 have := h.range 0 n (by omega)
 simpa using this
theorem BBlk.there {w : World} {b n : Nat} {f : Nat → Bool} (h : BBlk w b n f) (o m : Nat) (hm : o + m ≤ n) : w.there b o m := by
 intro j hj
 exact ⟨by rw [Blk.cell h (by omega)]; rfl, Blk.frozen h _⟩
theorem BBlk.new (w : World) (b : Nat) (hb : b = w.heap.size) (n : Nat) (f : Nat → Bool) (T : TypeId) : BBlk (w.alloc (.cells (bcells n f).toArray T)) b n f := by
 have := blk_new w (bcells n f).toArray T (fun i => .bool (f i)) (fun i hi => by rw [bcells_size] at hi; simp [bcells, hi])
 rw [bcells_size] at this
 rw [hb]; exact this
theorem BBlk.of {w w' : World} {b n : Nat} {f : Nat → Bool} (h : BBlk w b n f) (e : w'.heap[b]? = w.heap[b]?) : BBlk w' b n f := Blk.of_block h e
theorem BBlk.lt {w : World} {b n : Nat} {f : Nat → Bool} (h : BBlk w b n f) : b < w.heap.size := Blk.lt h
theorem BBlk.congr {w : World} {b n : Nat} {f g : Nat → Bool} (h : BBlk w b n f) (e : ∀ i, i < n → f i = g i) : BBlk w b n g := Blk.congr h fun i hi => by rw [e i hi]
theorem BBlk.get {w : World} {b n k : Nat} {f : Nat → Bool} (h : BBlk w b n f) (hk : k < n) : w.cell? ⟨b, k, none⟩ = some (.bool (f k)) := Blk.cell h hk
theorem BBlk.put {w : World} {b n : Nat} {f : Nat → Bool} (h : BBlk w b n f) (g : Nat → Bool) : BBlk (w.setCells b 0 (bcells n g)) b n g := by
 refine (Blk.setRange (bcells n g) 0 h (by rw [bcells_len]; omega)).congr fun i hi => ?_
 rw [if_pos ⟨Nat.zero_le _, by rw [bcells_len]; omega⟩]
 simp [bcells, List.getD, hi]
theorem BBlk.set1 {w : World} {b n k : Nat} {f : Nat → Bool} (h : BBlk w b n f) (hk : k < n) (x : Bool) : BBlk (w.setCell ⟨b, k, none⟩ (.bool x)) b n (fun i => if i = k then x else f i) :=
 (Blk.set h k hk _).congr fun i hi => by by_cases e : i = k <;> simp [e]
theorem wpList_here' {P : Program} {ops : Array Oper} {rest : List Oper} {op : Oper} {a : Act} {w : World} {Q : Exit → Act → World → Prop} (h : wpList P ops Q (op :: rest) a w) : wpList P ops Q (op :: rest) a w := h
def noB : Nat → Bool := fun _ => false
theorem info_set : (Tryz.prog.info? 116).map (·.size) = some 24 := by kernel_rfl
theorem load_set {w : World} {b : Nat} {f : Nat → Bool} (h : BBlk w b 24 f) : (loadVar 116 ⟨b, 0, none⟩).run Tryz.prog w = .ok (sv f) w :=
 run_loadVar_mid w b 0 116 (bcells 24 f) _ h.all Tryz.underlying116 rfl (by rw [bcells_len]; exact info_set)
theorem BBlk.zero (w : World) (b : Nat) (hb : b = w.heap.size) (T : TypeId) : BBlk (w.alloc (.cells #[.bool false, .bool false, .bool false, .bool false, .bool false, .bool false, .bool false, .bool false, .bool false, .bool false, .bool false, .bool false, .bool false, .bool false, .bool false, .bool false, .bool false, .bool false, .bool false, .bool false, .bool false, .bool false, .bool false, .bool false] T)) b 24 noB := BBlk.new w b hb 24 noB T
theorem index_set (f : Nat → Bool) {k : Nat} (hk : k < 24) (w : World) : (Instr.index 116 (.agg (bcells 24 f).toArray) (.int .i64 (k : Int))).run Tryz.prog w = .ok (.bool (f k)) w := by
 have e : (bcells 24 f)[k]'(by rw [bcells_len]; exact hk) = .bool (f k) := by simp [bcells]
 simp [Instr.index, go_sem, hk, bcells_len, e]
def oneS : Nat → Bool := fun i => decide (i = 0)
set_option maxHeartbeats 2000000 in
set_option maxRecDepth 100000 in
theorem orS_any (f g : Nat → Bool) (w : World) : Calls Tryz.prog 91 #[sv f, sv g] w fun e w' => e = .returned (sv fun i => f i || g i) ∧ Hid (Below w.heap.size w w') := by
 obtain ⟨cf, HCF⟩ : ∃ cf, Hid (cf = (bcells 24 f).toArray) := ⟨_, rfl⟩
 obtain ⟨cg, HCG⟩ : ∃ cf, Hid (cf = (bcells 24 g).toArray) := ⟨_, rfl⟩
 have hf : cf.size = 24 := by rw [HCF.out]; simp [bcells]
 have hg : cg.size = 24 := by rw [HCG.out]; simp [bcells]
 unfold sv
 rw [← HCF.out, ← HCG.out]
 obtain ⟨B, HB⟩ : ∃ B, Hid (B = w.heap.size) := ⟨_, rfl⟩
 obtain ⟨W, HW⟩ : ∃ W, Hid (W = ((w.alloc (.cells cf 116)).alloc (.cells cg 116)).alloc (.cells #[.bool false, .bool false, .bool false, .bool false, .bool false, .bool false, .bool false, .bool false, .bool false, .bool false, .bool false, .bool false, .bool false, .bool false, .bool false, .bool false, .bool false, .bool false, .bool false, .bool false, .bool false, .bool false, .bool false, .bool false] 116)) := ⟨_, rfl⟩
 have HBW : Hid (Below w.heap.size w W) := by rw [HW.out]; exact below3 w _ _ _
 have HX : Hid (BBlk W B 24 f) := by rw [HW.out, HCF.out]; exact Blk.alloc (Blk.alloc (BBlk.new w B HB.out 24 f _) _) _
 have HY : Hid (BBlk W (B + 1) 24 g) := by rw [HW.out, HCG.out]; exact Blk.alloc (BBlk.new _ (B + 1) (by rw [HB.out]; simp) 24 g _) _
 have HZ : Hid (BBlk W (B + 1 + 1) 24 noB) := by rw [HW.out]; exact BBlk.zero _ (B + 1 + 1) (by rw [HB.out]; simp) _
 go_enter Tryz.func91, Tryz.ntmps91
 obtain ⟨FF, HFF⟩ : ∃ F : Func, Hid (F = Tryz.f91) := ⟨_, rfl⟩
 rw [← HFF.out]
 go_upto_region 1 with fail
 rw [← HB.out, ← HW.out]
 clear HW
 go_wp2_with (with_reducible refine wpList_here' ?_; refine wpList_load_mid rfl 116 _ rfl (B + 1) 0 rfl (bcells 24 g) _ HY.out.all Tryz.underlying116 rfl (by rw [bcells_len]; exact info_set) ?_)
 rw [← HCG.out]
 go_loopw [8] (fun i wr => ∃ k : Nat, i = .int .i64 k ∧ k ≤ 24 ∧ Hid (BBlk wr B 24 (fun j => if j < k then f j || g j else f j)) ∧ Hid (KeptP (fun c => c = B) W wr)) (fun i _ => 24 - (intOf i).toNat)
 case atStart => exact ⟨0, rfl, by omega, HX.out.congr (fun i _ => by simp), KeptP.refl _ _⟩
 case round =>
  obtain ⟨k, rfl, hk, HXR, HL⟩ := hrel
  by_cases hlt : k < 24
  ·have hlt1 : (k : Int) < 24 := by omega
   have hlt0 : (0 : Int) ≤ (k : Int) := by omega
   obtain ⟨y, HYY⟩ : ∃ y, Hid (y = g k) := ⟨_, rfl⟩
   have hix : ∀ w, (Instr.index 116 (.agg cg) (.int .i64 (k : Int))).run Tryz.prog w = .ok (.bool y) w := fun w => by rw [HCG.out, HYY.out]; exact index_set g hlt w
   obtain ⟨x, HXX⟩ : ∃ x, Hid (x = f k) := ⟨_, rfl⟩
   have c0 := HXR.out.get hlt
   rw [if_neg (by omega), ← HXX.out] at c0
   have fz := Blk.frozen HXR.out k
   have HST : Hid (∀ i, i < 24 → (if i < k + 1 then f i || g i else f i) = if i = k then (x || y) else if i < k then f i || g i else f i) := by
    intro i _
    by_cases e : i = k
    ·subst e; simp [HXX.out, HYY.out]
    ·by_cases h2 : i < k
     ·simp [e, h2, show i < k + 1 by omega]
     ·simp [e, h2, show ¬ i < k + 1 by omega]
   have HNEXT : Hid (∀ u, u = (x || y) → ∃ k' : Nat, Value.int .i64 ((k : Int) + 1) = .int .i64 k' ∧ k' ≤ 24 ∧ Hid (BBlk (wr.setCell ⟨B, k, none⟩ (.bool u)) B 24 (fun j => if j < k' then f j || g j else f j)) ∧ Hid (KeptP (fun c => c = B) W (wr.setCell ⟨B, k, none⟩ (.bool u)))) := by
    rintro u rfl
    exact ⟨k + 1, by go_num, by omega, (HXR.out.set1 hlt _).congr (fun i hi => (HST.out i hi).symm), HL.out.setCell rfl _⟩
   rcases Bool.eq_false_or_eq_true x with hx | hx
   all_goals
    subst hx
    go_wp2
    go_roundw
    case rel => exact HNEXT.out _ (by simp)
    case measure => simp [intOf]; omega
  ·obtain rfl : k = 24 := by omega
   obtain ⟨R, HRR⟩ : ∃ R : Nat → Bool, Hid (R = fun i => f i || g i) := ⟨_, rfl⟩
   have HXE : Hid (BBlk wr B 24 R) := HXR.out.congr fun i hi => by rw [HRR.out]; simp [hi]
   have HZR : Hid (BBlk wr (B + 1 + 1) 24 noB) := HL.out.blk HZ.out (by omega)
   have HBE : Hid (Below w.heap.size w wr) := HBW.out.trans (HL.out.to_below HBW.out.size (fun b hb => by have := HB.out; omega))
   go_wp2_with (with_reducible refine wpList_here' ?_; first | (refine wpList_load_mid rfl 116 _ rfl B 0 rfl (bcells 24 R) _ HXE.out.all Tryz.underlying116 rfl (by rw [bcells_len]; exact info_set) ?_) | (refine wpList_store_mid rfl 116 _ _ rfl (B + 1 + 1) 0 (bcells 24 R).toArray rfl rfl (by rw [bcells_size]; exact HZR.out.there 0 24 (by omega)) (by rw [bcells_size]; exact info_set) (bcells_one _ _) ?_; dsimp only [Act.put]))
   obtain rfl : FF = Tryz.f91 := HFF.out
   refine bodyPost_ret (results_row (k := 4) (t := 116) (b := B + 1 + 1) Tryz.results91 rfl (load_set (HZR.out.put R))) rfl ?_
   exact ⟨by rw [HRR.out], Below.setCells (by have := HB.out; omega) _ _ HBE.out⟩
end Go.Proofs.YtbepmeipjdpipaaGreat
