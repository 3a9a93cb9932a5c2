import Derived.Test.YtbepmeipjdpipaaGreatJo12
import Derived.Test.YtbepmeipjdpipaaGreatJo13
import Derived.Test.YtbepmeipjdpipaaGreatJo14
import Derived.Test.YtbepmeipjdpipaaGreatJo06
import Derived.Test.YtbepmeipjdpipaaGreatJo15
import Derived.Test.YtbepmeipjdpipaaGreatJo05
namespace Go.Proofs.YtbepmeipjdpipaaGreat
open Go.RowKit
theorem look_any (lo hi M : Nat) (b : Option Addr) (m mc : Nat) (ps : List Pc) (hh : hi ≤ M) (hn : ps.length = m) (hok : ∀ i, i < ps.length → formOk (pat ps i) = true ∧ kidsOk i (pat ps i).2.2 = true) (hq : ∀ i, i < m → (pat ps i).2.2.length ≤ 1048576) :
  ∀ (n z : Nat), z < n → z < m → ∀ (s : MkS) (lv : Value) (aa : Option Addr) (an ac : Nat) (w : World), PathIn lo hi w b ps → Mk M w (.slice b m mc) lv s aa an ac → MkOk s → s.bad = false →
  Calls Tryz.prog 58 #[.pointer (some ⟨M, 0, none⟩), .int .i64 (z : Int)] w (LookPost M w (.slice b m mc) lv aa (lookK ps n z s)) := by
 intro n
 induction n with
 | zero => intro z h; omega
 | succ n ih =>
  intro z hz hzm s lv aa an ac w ha hmk hs hb
  have hlt : s.lb.length < 24 := by have := hs.bad; rw [hb] at this; have := of_decide_eq_false this.symm; omega
  have IH : ∀ k, k < z → ∀ (s' : MkS) (lv' : Value) (aa' : Option Addr) (an' ac' : Nat) (w' : World), PathIn lo hi w' b ps → Mk M w' (.slice b m mc) lv' s' aa' an' ac' → MkOk s' → s'.bad = false → Calls Tryz.prog 58 #[.pointer (some ⟨M, 0, none⟩), .int .i64 (k : Int)] w' (LookPost M w' (.slice b m mc) lv' aa' (lookK ps n k s')) :=
   fun k hk s' lv' aa' an' ac' w' h1 h2 h3 h4 => ih k (by omega) (by omega) s' lv' aa' an' ac' w' h1 h2 h3 h4
  rcases formOk_cases (x := (pat ps z).1) (y := (pat ps z).2.1) (ks := (pat ps z).2.2) (hok z (by omega)).1 with ⟨e, _⟩ | ⟨e, _⟩ | ⟨e, _⟩ | ⟨e, _⟩ | ⟨e, _⟩ | ⟨e, _⟩
  ·have h := look_step lo hi M z b m mc ps lv s aa an ac w ha hh hn hzm e hmk hlt hb
   have hl : lookK ps (n + 1) z s = ({ s with lb := s.lb ++ [(pat ps z).2.1], bad := decide (24 ≤ s.lb.length + 1) }, ⟨[((s.lb.length + 1 : Nat) : Int)], [((s.lb.length + 1 : Nat) : Int)], false⟩) := by
    unfold lookK
    rw [if_pos e, hb, Bool.false_or]
   rw [hl]; exact h
  ·exact look_row lo hi M z n b m mc ps lv s aa an ac w ha hh hn hzm (by omega) e hok (hq z hzm) hmk hs hb IH
  ·exact look_alt lo hi M z n b m mc ps lv s aa an ac w ha hh hn hzm (by omega) e hok (hq z hzm) hmk hs hb IH
  ·exact look_one4 lo hi M z n b m mc ps lv s aa an ac w ha hh hn hzm (by omega) e hok (hq z hzm) hmk hs hb IH
  ·exact look_one5 lo hi M z n b m mc ps lv s aa an ac w ha hh hn hzm (by omega) e hok (hq z hzm) hmk hs hb IH
  ·exact look_one6 lo hi M z n b m mc ps lv s aa an ac w ha hh hn hzm (by omega) e hok (hq z hzm) hmk hs hb IH
def nfSt (ps : List Pc) : Int := if nfG ps = true then (((nfS ps).1.lb.length + 1 : Nat) : Int) else 0
def nfAr (ps : List Pc) : List Ed := if nfG ps = true then nfA ps else []
def nfEn (ps : List Pc) : List Bool := if nfG ps = true then nfE ps else []
theorem info_nfa : (Tryz.prog.info? 80).map (·.size) = some 3 := by kernel_rfl
theorem load_nfa {w : World} {b : Nat} {x y z : Value} (h : Blk w b 3 (k3 x y z)) : (loadVar 80 ⟨b, 0, none⟩).run Tryz.prog w = .ok (.agg #[x, y, z]) w :=
 run_loadVar_mid w b 0 80 [x, y, z] _ (k3_range h) Tryz.underlying80 rfl info_nfa
theorem info4X : (Tryz.prog.info? 4).map (fun i => (i.zero, i.size, i.bytes)) = some (some (.bool false), 1, 1) := by kernel_rfl
theorem blk_mk (w : World) (g : Nat) (hg : g = w.heap.size) (x y z u : Value) (T : TypeId) : Blk (w.alloc (.cells #[x, y, z, u] T)) g 4 (fun i => if i = 0 then x else if i = 1 then y else if i = 2 then z else u) := by
 rw [hg]
 exact blk_new w #[x, y, z, u] T _ (fun i hi => by
  rcases (show i = 0 ∨ i = 1 ∨ i = 2 ∨ i = 3 by simp at hi; omega) with h | h | h | h <;> subst h <;> rfl)
def NfPost (ps : List Pc) (w : World) (e : Ending) (w' : World) : Prop :=
 ∃ (s : Int) (aa : Option Addr) (an ac : Nat) (eb : Option Addr) (m mc : Nat), e = .returned (.tuple #[nv s aa an ac eb m mc, .bool (nfG ps)]) ∧ Hid (s = nfSt ps) ∧ Hid ((nfAr ps).length = an) ∧ Hid ((nfEn ps).length = m) ∧ Hid (NfaIn w.heap.size w'.heap.size w' aa eb (nfAr ps) (nfEn ps)) ∧ Hid (Below w.heap.size w w')
theorem NfPost.no {ps : List Pc} (h : nfG ps = false) {w w' : World} (hb : Below w.heap.size w w') : NfPost ps w (.returned (.tuple #[.agg #[.int .i64 0, .slice none 0 0, .slice none 0 0], .bool false])) w' := by
 have hf : ¬ nfG ps = true := by rw [h]; simp
 refine ⟨0, none, 0, 0, none, 0, 0, by rw [h], ?_, ?_, ?_, ?_, hb⟩
 ·show 0 = _; unfold nfSt; rw [if_neg hf]
 ·show _ = _; unfold nfAr; rw [if_neg hf]; rfl
 ·show _ = _; unfold nfEn; rw [if_neg hf]; rfl
 ·show NfaIn _ _ _ _ _ _ _; unfold nfAr nfEn; rw [if_neg hf, if_neg hf]; exact ⟨.inl rfl, .inl rfl⟩
def endK (G : List Int) (nl : Bool) (k : Nat) : Nat → Bool := fun i => if i = 0 then nl else decide ((i : Int) ∈ G.take k)
theorem endK_succ {G : List Int} {nl : Bool} {k t : Nat} (h : k < G.length) (ht : G.getD k 0 = (t : Int)) (h1 : 1 ≤ t) (i : Nat) : (if i = t then true else endK G nl k i) = endK G nl (k + 1) i := by
 unfold endK
 rw [take_snocI G h, ht]
 by_cases e : i = t
 ·subst e
  rw [if_pos rfl, if_neg (by omega)]
  simp
 ·rw [if_neg e]
  by_cases e0 : i = 0
  ·rw [if_pos e0, if_pos e0]
  ·rw [if_neg e0, if_neg e0]
   have : ¬ (i : Int) = (t : Int) := by omega
   simp [this]
theorem endK_all (ps : List Pc) (i : Nat) : endK (nfS ps).2.la (nfS ps).2.nl (nfS ps).2.la.length i = nfF ps i := by
 unfold endK nfF
 rw [List.take_length]
set_option maxHeartbeats 2000000 in
set_option maxRecDepth 100000 in
theorem specNfaOf_any (lo hi : Nat) (a : Option Addr) (n cap : Nat) (l : List Pc) (w : World) (ha : PathIn lo hi w a l) (hh : hi ≤ w.heap.size) (hn : l.length = n) (hm : n ≤ 1048576) (hq : ∀ i, i < n → (pat l i).2.2.length ≤ 1048576) :
  Calls Tryz.prog 43 #[pv a n cap] w (NfPost l w) := by
 have HN : Hid (l.length = n) := hn
 have HA : Hid (PathIn lo hi w a l) := ha
 have HH : Hid (hi ≤ w.heap.size) := hh
 have HQ : Hid (∀ i, i < n → (pat l i).2.2.length ≤ 1048576) := hq
 clear ha hh hn hq
 obtain ⟨B, HB⟩ : ∃ B, Hid (B = w.heap.size) := ⟨_, rfl⟩
 obtain ⟨W, HW⟩ : ∃ W, Hid (W = (w.alloc (.cells #[.slice a n cap] 73)).alloc (.cells #[.int .i64 0, .slice none 0 0, .slice none 0 0] 80)) := ⟨_, rfl⟩
 have HBW : Hid (Below w.heap.size w W) := by rw [HW.out]; exact below2 w _ _
 have HSW : Hid (W.heap.size = B + 2) := by rw [HW.out, HB.out]; show _ = _; simp
 have HPW : Hid (Blk W B 1 (fun _ => .slice a n cap)) := by rw [HW.out]; exact (blk_one w B HB.out _ _).alloc _
 have HRW : Hid (Blk W (B + 1) 3 (k3 (.int .i64 0) (.slice none 0 0) (.slice none 0 0))) := by rw [HW.out]; exact blk_three _ (B + 1) (by rw [HB.out]; simp) _ _ _ _
 have p0 : W.cell? ⟨B, 0, none⟩ = some (.slice a n cap) := HPW.out.cell (i := 0) (by omega)
 unfold pv
 go_enter Tryz.func43, Tryz.ntmps43
 obtain ⟨FF, HFF⟩ : ∃ F : Func, Hid (F = Tryz.f43) := ⟨_, rfl⟩
 rw [← HFF.out]
 go_upto_region 1 with fail
 rw [← HB.out]
 first | rw [← HW.out] | (rw [show _ = W from HW.out.symm])
 clear HW
 obtain ⟨o, HO⟩ : ∃ o, Hid (o = okP l) := ⟨_, rfl⟩
 have HCO : Hid (Calls Tryz.prog 57 #[.agg #[.slice a n cap]] W fun e w' => e = .returned (.bool o) ∧ Hid (Below W.heap.size W w')) := specPathOk_any lo hi a n cap l o W (HA.out.below HBW.out HH.out) (Nat.le_trans HH.out HBW.out.size) HN.out hm HQ.out HO.out
 have HEND : Hid (∀ (wz : World), Blk wz (B + 1) 3 (k3 (.int .i64 0) (.slice none 0 0) (.slice none 0 0)) → Below w.heap.size w wz → nfG l = false → NfPost l w (.returned (.tuple #[.agg #[.int .i64 0, .slice none 0 0, .slice none 0 0], .bool false])) (wz.setCells (B + 1) 0 [.int .i64 0, .slice none 0 0, .slice none 0 0])) := fun wz hbl hb hg => NfPost.no hg (hb.trans ((bl_set3 wz (B + 1) _ _ _ hbl.lt).mono (by have := HB.out; omega)))
 rcases Bool.eq_false_or_eq_true o with ho | ho
 ·subst ho
  obtain ⟨hn1, hn60, hok⟩ := okP_all HO.out.symm
  have HOK : Hid (∀ i, i < l.length → formOk (pat l i) = true ∧ kidsOk i (pat l i).2.2 = true) := hok
  rw [HN.out] at hn1 hn60
  clear hok
  obtain ⟨k, rfl⟩ : ∃ k, n = k + 1 := ⟨n - 1, by omega⟩
  have hk1 : ((k + 1 : Nat) : Int) - 1 = (k : Int) := by omega
  go_upto_region 3 with (go_at_call 57; refine (HCO.out).mono ?_; rintro e w1 ⟨rfl, HB1⟩)
  have HP1 : Hid (Blk w1 B 1 (fun _ => .slice a (k + 1) cap)) := HPW.out.of_block (HB1.out.block _ HPW.out.lt)
  have HR1 : Hid (Blk w1 (B + 1) 3 (k3 (.int .i64 0) (.slice none 0 0) (.slice none 0 0))) := HRW.out.of_block (HB1.out.block _ HRW.out.lt)
  have HBW1 : Hid (Below w.heap.size w w1) := HBW.out.trans (HB1.out.mono HBW.out.size)
  have HS1 : Hid (B + 2 ≤ w1.heap.size) := by have := HB1.out.size; have := HSW.out; show _ ≤ _; omega
  clear p0 HPW HRW HBW HSW HB1 HCO
  have p1 : w1.cell? ⟨B, 0, none⟩ = some (.slice a (k + 1) cap) := HP1.out.cell (i := 0) (by omega)
  obtain ⟨M, HM⟩ : ∃ M, Hid (M = w1.heap.size) := ⟨_, rfl⟩
  obtain ⟨w2, HW2⟩ : ∃ x, Hid (x = w1.alloc (.cells #[.slice a (k + 1) cap, .slice none 0 0, .slice none 0 0, .bool false] 102)) := ⟨_, rfl⟩
  have HMB : Hid (Blk w2 M 4 (mkC (.slice a (k + 1) cap) (.slice none 0 0) (.slice none 0 0) false)) := by rw [HW2.out]; exact blk_mk w1 M HM.out _ _ _ _ _
  have HB2 : Hid (Below w1.heap.size w1 w2) := by rw [HW2.out]; exact below1 w1 _
  have HS2 : Hid (w2.heap.size = M + 1) := by rw [HW2.out, HM.out]; show _ = _; simp
  go_upto_region 4 with fail
  rw [← HM.out]
  first | rw [← HW2.out] | (rw [show _ = w2 from HW2.out.symm])
  clear HW2 p1
  have HP2 : Hid (Blk w2 B 1 (fun _ => .slice a (k + 1) cap)) := HP1.out.of_block (HB2.out.block _ HP1.out.lt)
  have HR2 : Hid (Blk w2 (B + 1) 3 (k3 (.int .i64 0) (.slice none 0 0) (.slice none 0 0))) := HR1.out.of_block (HB2.out.block _ HR1.out.lt)
  have HBW2 : Hid (Below w.heap.size w w2) := HBW1.out.trans (HB2.out.mono HBW1.out.size)
  have HMK0 : Hid (Mk M w2 (.slice a (k + 1) cap) (.slice none 0 0) ⟨[], [], false⟩ none 0 0) := ⟨HMB.out, rfl, .inl rfl, fun b o e => (by cases e), ⟨rfl, .inl ⟨rfl, rfl⟩⟩⟩
  obtain ⟨s, HS⟩ : ∃ s, Hid (s = (nfS l).1) := ⟨_, rfl⟩
  obtain ⟨y, HY⟩ : ∃ y, Hid (y = (nfS l).2) := ⟨_, rfl⟩
  have HCL : Hid (Calls Tryz.prog 58 #[.pointer (some ⟨M, 0, none⟩), .int .i64 (k : Int)] w2 (LookPost M w2 (.slice a (k + 1) cap) (.slice none 0 0) none (s, y))) := by
   have h := look_any lo hi M a (k + 1) cap l (by have := HH.out; have := HB.out; have := HS1.out; have := HM.out; omega) HN.out HOK.out HQ.out (k + 1) k (by omega) (by omega) ⟨[], [], false⟩ (.slice none 0 0) none 0 0 w2 (HA.out.below HBW2.out HH.out) HMK0.out mkOk0 rfl
   have e : lookK l (k + 1) k ⟨[], [], false⟩ = (s, y) := by rw [HS.out, HY.out]; unfold nfS; rw [HN.out]; rfl
   rw [e] at h
   exact h
  have HLK : Hid (LkOk ⟨[], [], false⟩ (nfN l) (s, y)) := by rw [HS.out, HY.out]; exact nfS_ok HO.out.symm
  have HSB : Hid (s.bad = !decide (nfN l < 24)) := by rw [HS.out]; exact nfS_bad HO.out.symm
  have p2 : w2.cell? ⟨B, 0, none⟩ = some (.slice a (k + 1) cap) := HP2.out.cell (i := 0) (by omega)
  obtain ⟨F, G, nl⟩ := y
  go_upto_region 5 with (go_at_call 58; refine (HCL.out).mono ?_; rintro e w3 ⟨lv, aa, an, ac, fy, gy, rfl, HNO, HAY, HMK, HRF, HRG, HYY, HK, HNB⟩; obtain ⟨fa, fc, rfl, _⟩ := own_shape HRF.out.own; obtain ⟨ga, gc, rfl, _⟩ := own_shape HRG.out.own)
  try dsimp only at HMK HRF HRG
  have HKM : Hid (KeptP (fun c => c = M) w2 w3) := HK.out.mono (fun c e => by rcases e with e | e; exact e; cases e)
  have HP3 : Hid (Blk w3 B 1 (fun _ => .slice a (k + 1) cap)) := HKM.out.blk HP2.out (by have := HM.out; have := HS1.out; omega)
  have HR3 : Hid (Blk w3 (B + 1) 3 (k3 (.int .i64 0) (.slice none 0 0) (.slice none 0 0))) := HKM.out.blk HR2.out (by have := HM.out; have := HS1.out; omega)
  have HBW3 : Hid (Below w.heap.size w w3) := HBW2.out.trans (HKM.out.to_below HBW2.out.size (fun c e => by have e2 : c = M := e; have := HM.out; have := HS1.out; have := HB.out; omega))
  obtain ⟨X, HX⟩ : ∃ X, Hid (X = w3.heap.size) := ⟨_, rfl⟩
  obtain ⟨w4, HW4⟩ : ∃ x, Hid (x = w3.alloc (.cells #[.slice fa F.length fc, .slice ga G.length gc, .bool nl] 104)) := ⟨_, rfl⟩
  have HB4 : Hid (Below w3.heap.size w3 w4) := by rw [HW4.out]; exact below1 w3 _
  have HXB : Hid (Blk w4 X 3 (k3 (.slice fa F.length fc) (.slice ga G.length gc) (.bool nl))) := by rw [HW4.out]; exact blk_three w3 X HX.out _ _ _ _
  have HSX : Hid (M + 1 ≤ X) := by have := HKM.out.size; have := HS2.out; have := HX.out; show _ ≤ _; omega
  have HS4 : Hid (w4.heap.size = X + 1) := by rw [HW4.out, HX.out]; show _ = _; simp
  rw [← HX.out]
  first | rw [← HW4.out] | (rw [show _ = w4 from HW4.out.symm])
  clear HW4 p2
  have HMK4 : Hid (Mk M w4 (.slice a (k + 1) cap) lv s aa an ac) := HMK.out.kept (kp_below HB4.out) (by have := HMK.out.blk.lt; omega) (fun b e => by have := (HMK.out.lab.lt b e).2; omega) (fun b o e => by have := (HMK.out.off b o e).2.1; omega)
  have HF4 : Hid (w4.ownsRow (M + 1) 3 1 (.slice fa F.length fc) F.length (rowCells F)) := own_below (by have h := HRF.out.own; rw [HS2.out] at h; exact h) HB4.out
  have HG4 : Hid (w4.ownsRow (M + 1) 3 1 (.slice ga G.length gc) G.length (rowCells G)) := own_below (by have h := HRG.out.own; rw [HS2.out] at h; exact h) HB4.out
  have HR4 : Hid (Blk w4 (B + 1) 3 (k3 (.int .i64 0) (.slice none 0 0) (.slice none 0 0))) := HR3.out.of_block (HB4.out.block _ HR3.out.lt)
  have HBW4 : Hid (Below w.heap.size w w4) := HBW3.out.trans (HB4.out.mono HBW3.out.size)
  have HLM : Hid (∀ x, x ∈ F → ∃ t : Nat, 1 ≤ t ∧ t ≤ s.lb.length ∧ x = (t : Int)) := HLK.out.fi.pos
  have HLL : Hid (∀ x, x ∈ G → ∃ t : Nat, 1 ≤ t ∧ t ≤ s.lb.length ∧ x = (t : Int)) := HLK.out.la.pos
  have HLE : Hid (s.lb.length ≤ 24 ∧ F.length ≤ 24 ∧ G.length ≤ 24) := ⟨HLK.out.ok.len, HLK.out.fi.le24 HLK.out.ok.len, HLK.out.la.le24 HLK.out.ok.len⟩
  clear HMK HRF HRG HYY HK HNB HNO HAY HKM HP3 HR3 HBW3 HB4 HP2 HR2 HBW2 HMK0 HCL HP1 HR1 HBW1 HB2
  obtain ⟨bd, HBD⟩ : ∃ b, Hid (b = s.bad) := ⟨_, rfl⟩
  have m3 : w4.cell? ⟨M, 3, none⟩ = some (.bool bd) := by rw [HBD.out]; exact HMK4.out.blk.cell (i := 3) (by omega)
  rcases Bool.eq_false_or_eq_true bd with hbd | hbd
  ·subst hbd
   have HNG : Hid (nfG l = false) := by
    have h := HSB.out
    rw [← HBD.out] at h
    show _ = _
    unfold nfG
    have hd : decide (nfN l < 24) = false := by
     generalize decide (nfN l < 24) = d at h
     cases d
     ·rfl
     ·cases h
    rw [hd, Bool.and_false]
   have b1 := HR4.out.set 0 (by omega) (.int .i64 0)
   have b2 := b1.set 1 (by omega) (.slice none 0 0)
   have q0 : w4.cell? ⟨B + 1, 0, none⟩ = some (.int .i64 0) := HR4.out.cell (i := 0) (by omega)
   have q1 : (w4.setCell ⟨B + 1, 0, none⟩ (.int .i64 0)).cell? ⟨B + 1, 1, none⟩ = some (.slice none 0 0) := b1.cell (i := 1) (by omega)
   have q2 : ((w4.setCell ⟨B + 1, 0, none⟩ (.int .i64 0)).setCell ⟨B + 1, 1, none⟩ (.slice none 0 0)).cell? ⟨B + 1, 2, none⟩ = some (.slice none 0 0) := b2.cell (i := 2) (by omega)
   have q3 := HR4.out.frozen 0
   have q4 := b1.frozen 1
   have q5 := b2.frozen 2
   clear b1 b2
   go_wp2_with fail
   obtain rfl : FF = Tryz.f43 := HFF.out
   refine bodyPost_ret (results_row2 (k := 2) (m := 3) (t := 80) (b := B + 1) Tryz.results43 rfl rfl (load_nfa (k3_put HR4.out _ _ _))) rfl ?_
   exact HEND.out _ HR4.out HBW4.out HNG.out
  ·subst hbd
   have HLT : Hid (nfN l < 24) := by
    have h := HSB.out
    rw [← HBD.out] at h
    show _ < _
    cases hd : decide (nfN l < 24)
    ·rw [hd] at h; cases h
    ·exact of_decide_eq_true hd
   have HNG : Hid (nfG l = true) := by show _ = _; unfold nfG; rw [← HO.out, decide_eq_true HLT.out]; rfl
   go_upto_region 7 with fail
   clear m3
   obtain ⟨w5, HW5⟩ : ∃ x, Hid (x = w4.alloc (.cells #[.int .i64 0] 3)) := ⟨_, rfl⟩
   have HB5 : Hid (Below w4.heap.size w4 w5) := by rw [HW5.out]; exact below1 w4 _
   have HZ5 : Hid (w5.ownsRow (M + 1) 3 1 (.slice (some ⟨w4.heap.size, 0, none⟩) 1 1) ([0] : List Int).length (rowCells [0])) := by rw [HW5.out]; exact own_one w4 _ (M + 1) rfl (by have := HS4.out; have := HSX.out; omega) 0
   have HMK5 : Hid (Mk M w5 (.slice a (k + 1) cap) lv s aa an ac) := HMK4.out.kept (kp_below HB5.out) (by have := HMK4.out.blk.lt; omega) (fun b e => by have := (HMK4.out.lab.lt b e).2; omega) (fun b o e => by have := (HMK4.out.off b o e).2.1; omega)
   have HF5 : Hid (w5.ownsRow (M + 1) 3 1 (.slice fa F.length fc) F.length (rowCells F)) := own_below HF4.out HB5.out
   have x0 : w5.cell? ⟨X, 0, none⟩ = some (.slice fa F.length fc) := cell_below (HXB.out.cell (i := 0) (by omega)) HB5.out (by have := HS4.out; omega)
   have x9 : w4.cell? ⟨X, 0, none⟩ = some (.slice fa F.length fc) := HXB.out.cell (i := 0) (by omega)
   have HCJ := Hid_mk (join_mk2 M (M + 1) (.slice a (k + 1) cap) lv s aa an ac (.slice (some ⟨w4.heap.size, 0, none⟩) 1 1) (.slice fa F.length fc) [0] F w5 HMK5.out HLK.out.ok (by omega) HZ5.out HF5.out HLM.out (by simp) HLE.out.2.1)
   rw [HW5.out] at HCJ x0
   go_upto_region 8 with (go_at_call 59; refine (HCJ.out).mono ?_; rintro e w6 ⟨aa2, an2, ac2, rfl, HMK6, HK6, HNO6⟩)
   rw [← HW5.out] at HK6
   have HE : Hid (joinF s.lb [0] F s.ar = nfA l) := by
    show _ = _
    unfold nfA
    rw [← HS.out, ← HY.out]
   have HXB6 : Hid (Blk w6 X 3 (k3 (.slice fa F.length fc) (.slice ga G.length gc) (.bool nl))) := HK6.out.blk (HXB.out.of_block (HB5.out.block _ HXB.out.lt)) (by have := HSX.out; omega)
   have HR6 : Hid (Blk w6 (B + 1) 3 (k3 (.int .i64 0) (.slice none 0 0) (.slice none 0 0))) := HK6.out.blk (HR4.out.of_block (HB5.out.block _ HR4.out.lt)) (by have := HM.out; have := HS1.out; omega)
   have HG6 : Hid (w6.ownsRow (M + 1) 3 1 (.slice ga G.length gc) G.length (rowCells G)) := owns_keptP (own_below HG4.out HB5.out) HK6.out (fun c e e2 => by have := (HG4.out.lt c e).1; have e3 : c = M := e2; omega)
   have HBW6 : Hid (Below w.heap.size w w6) := (HBW4.out.trans (HB5.out.mono HBW4.out.size)).trans (HK6.out.to_below (Nat.le_trans HBW4.out.size HB5.out.size) (fun c e => by have e2 : c = M := e; have := HM.out; have := HS1.out; have := HB.out; omega))
   have HS6 : Hid (X + 1 ≤ w6.heap.size) := by have := HK6.out.size; have := HB5.out.size; have := HS4.out; show _ ≤ _; omega
   clear x0 x9 HCJ HW5 HZ5 HMK5 HF5 HB5 HK6 HNO6 HF4 HG4 HXB HR4 HBW4 HMK4 HMB
   obtain ⟨la, lc, rfl, _⟩ := own_shape HMK6.out.lab
   obtain ⟨q, HQQ⟩ : ∃ q, Hid (q = s.lb.length) := ⟨_, rfl⟩
   have HQ24 : Hid (q < 24) := by have h := HLK.out.len; have := HLT.out; have := HQQ.out; simp at h; show _ < _; omega
   obtain ⟨Q1, HQ1⟩ : ∃ n, Hid (n = q + 1) := ⟨_, rfl⟩
   have m1 : w6.cell? ⟨M, 1, none⟩ = some (.slice la q lc) := by rw [HQQ.out]; exact HMK6.out.blk.cell (i := 1) (by omega)
   have m2 : w6.cell? ⟨M, 2, none⟩ = some (.slice aa2 an2 ac2) := HMK6.out.blk.cell (i := 2) (by omega)
   have HAR : Hid (EdgesIn (M + 1) w6.heap.size w6 aa2 (nfA l)) := by have h := HMK6.out.arc; dsimp only at h; rw [HE.out] at h; exact h
   have HAL : Hid ((nfA l).length = an2) := by have h := HMK6.out.len; dsimp only at h; rw [HE.out] at h; exact h
   have HML : Hid (M < w6.heap.size) := HMK6.out.blk.lt
   have HKS : Hid (∀ wz, Below w6.heap.size w6 wz → (wz.cell? ⟨M, 1, none⟩ = some (.slice la q lc)) ∧ (wz.cell? ⟨M, 2, none⟩ = some (.slice aa2 an2 ac2))) := fun wz h => ⟨cell_below m1 h HML.out, cell_below m2 h HML.out⟩
   have hwq : IntKind.i64.wrap ((q : Int) + 1) = (Q1 : Int) := by have := HQ24.out; have := HQ1.out; simp [IntKind.wrap, IntKind.bits, IntKind.signed]; omega
   have hmk := run_make_row' (P := Tryz.prog) 78 4 (.bool false) 1 Tryz.underlying78 info4X rfl .i64 .i64 Q1 (by have := HQ24.out; have := HQ1.out; omega) (by have := HQ24.out; have := HQ1.out; omega)
   have he0 : (0 : Int) ≤ (Q1 : Int) := by omega
   have hbig : ¬ (Q1 : Int) < 0 := by omega
   clear HMK6
   go_cut [6] from 8 to 73 (fun v wc => ∃ A E : Nat, v = .pointer (some ⟨A, 0, none⟩) ∧ Hid (w6.heap.size ≤ A ∧ w6.heap.size ≤ E ∧ A ≠ E) ∧ Hid (Blk wc A 3 (k3 (.int .i64 (Q1 : Int)) (.slice aa2 an2 ac2) (.slice (some ⟨E, 0, none⟩) Q1 Q1))) ∧ Hid (BBlk wc E Q1 noB) ∧ Hid (Below w6.heap.size w6 wc))
   case first =>
    have HBD6 : Hid (Below w6.heap.size w6 w6.drew) := (Below.refl _ _).drew
    refine wp_region_held_drew (S := fun wz => (wz.cell? ⟨M, 1, none⟩ = some (.slice la q lc)) ∧ (wz.cell? ⟨M, 2, none⟩ = some (.slice aa2 an2 ac2))) (by kernel_rfl) (HKS.out _ HBD6.out) (fun hHeld => ?_)
    refine wpAnyH_take (i := 0) (oi := { dst := some 31, op := Op.move (.tmp 4), type := 99, pos := "l07_nfa.go:147", after := #[], guard := none }) (v := ?_) rfl (by kernel_rfl) (by kernel_rfl) (by kernel_rfl) (fun _ _ _ h => h) (Or.inl ⟨by kernel_rfl, ?_⟩) (by assumption) ?_
    rotate_left
    ·intro w hSw; (try dsimp only at hSw); go_simp; try with_reducible rfl
    simp only [Act.put, List.setIfInBounds_toArray, List.set_cons_zero, List.set_cons_succ]
    refine wpAnyH_take (i := 1) (oi := { dst := some 32, op := Op.nilCheck (.tmp 31), type := 0, pos := "l07_nfa.go:147", after := #[{ on := 0, ground := .data }], guard := none }) (v := ?_) rfl (by kernel_rfl) (by kernel_rfl) (by kernel_rfl) (fun _ _ _ h => h) (Or.inl ⟨by kernel_rfl, ?_⟩) (by assumption) ?_
    rotate_left
    ·intro w hSw; (try dsimp only at hSw); go_simp; try with_reducible rfl
    simp only [Act.put, List.setIfInBounds_toArray, List.set_cons_zero, List.set_cons_succ]
    refine wpAnyH_take (i := 2) (oi := { dst := some 33, op := Op.fieldAddr 102 (.tmp 32) 1, type := 0, pos := "l07_nfa.go:147", after := #[{ on := 1, ground := .data }], guard := none }) (v := ?_) rfl (by kernel_rfl) (by kernel_rfl) (by kernel_rfl) (fun _ _ _ h => h) (Or.inl ⟨by kernel_rfl, ?_⟩) (by assumption) ?_
    rotate_left
    ·intro w hSw; (try dsimp only at hSw); go_simp; try with_reducible rfl
    simp only [Act.put, List.setIfInBounds_toArray, List.set_cons_zero, List.set_cons_succ]
    refine wpAnyH_take (i := 3) (oi := { dst := some 34, op := Op.load 100 (.tmp 33), type := 100, pos := "l07_nfa.go:147", after := #[{ on := 2, ground := .data }], guard := none }) (v := ?_) rfl (by kernel_rfl) (by kernel_rfl) (by kernel_rfl) (fun _ _ _ h => h) (Or.inl ⟨by kernel_rfl, ?_⟩) (by assumption) ?_
    rotate_left
    ·intro w hSw; (try dsimp only at hSw); go_simp; try with_reducible rfl
    simp only [Act.put, List.setIfInBounds_toArray, List.set_cons_zero, List.set_cons_succ]
    refine wpAnyH_take (i := 4) (oi := { dst := some 35, op := Op.call { callee := Callee.builtin Builtin.len, args := #[.tmp 34], argTypes := #[100] }, type := 3, pos := "l07_nfa.go:147", after := #[{ on := 3, ground := .data }], guard := none }) (v := ?_) rfl (by kernel_rfl) (by kernel_rfl) (by kernel_rfl) (fun _ _ _ h => h) (Or.inl ⟨by kernel_rfl, ?_⟩) (by assumption) ?_
    rotate_left
    ·intro w hSw; (try dsimp only at hSw); go_simp; try with_reducible rfl
    simp only [Act.put, List.setIfInBounds_toArray, List.set_cons_zero, List.set_cons_succ]
    refine wpAnyH_take (i := 5) (oi := { dst := some 36, op := Op.binOp BinOp.add 3 (.tmp 35) (.const (Value.int IntKind.i64 1)) 3, type := 3, pos := "l07_nfa.go:147", after := #[{ on := 4, ground := .data }], guard := none }) (v := ?_) rfl (by kernel_rfl) (by kernel_rfl) (by kernel_rfl) (fun _ _ _ h => h) (Or.inl ⟨by kernel_rfl, ?_⟩) (by assumption) ?_
    rotate_left
    ·intro w hSw; (try dsimp only at hSw); go_simp; try with_reducible rfl
    simp only [Act.put, List.setIfInBounds_toArray, List.set_cons_zero, List.set_cons_succ]
    refine wpAnyH_take (i := 6) (oi := { dst := some 37, op := Op.move (.tmp 4), type := 99, pos := "l07_nfa.go:147", after := #[], guard := none }) (v := ?_) rfl (by kernel_rfl) (by kernel_rfl) (by kernel_rfl) (fun _ _ _ h => h) (Or.inl ⟨by kernel_rfl, ?_⟩) (by assumption) ?_
    rotate_left
    ·intro w hSw; (try dsimp only at hSw); go_simp; try with_reducible rfl
    simp only [Act.put, List.setIfInBounds_toArray, List.set_cons_zero, List.set_cons_succ]
    refine wpAnyH_take (i := 7) (oi := { dst := some 38, op := Op.nilCheck (.tmp 37), type := 0, pos := "l07_nfa.go:147", after := #[{ on := 6, ground := .data }], guard := none }) (v := ?_) rfl (by kernel_rfl) (by kernel_rfl) (by kernel_rfl) (fun _ _ _ h => h) (Or.inl ⟨by kernel_rfl, ?_⟩) (by assumption) ?_
    rotate_left
    ·intro w hSw; (try dsimp only at hSw); go_simp; try with_reducible rfl
    simp only [Act.put, List.setIfInBounds_toArray, List.set_cons_zero, List.set_cons_succ]
    refine wpAnyH_take (i := 8) (oi := { dst := some 39, op := Op.fieldAddr 102 (.tmp 38) 2, type := 0, pos := "l07_nfa.go:147", after := #[{ on := 7, ground := .data }], guard := none }) (v := ?_) rfl (by kernel_rfl) (by kernel_rfl) (by kernel_rfl) (fun _ _ _ h => h) (Or.inl ⟨by kernel_rfl, ?_⟩) (by assumption) ?_
    rotate_left
    ·intro w hSw; (try dsimp only at hSw); go_simp; try with_reducible rfl
    simp only [Act.put, List.setIfInBounds_toArray, List.set_cons_zero, List.set_cons_succ]
    refine wpAnyH_take (i := 9) (oi := { dst := some 40, op := Op.load 77 (.tmp 39), type := 77, pos := "l07_nfa.go:147", after := #[{ on := 8, ground := .data }], guard := none }) (v := ?_) rfl (by kernel_rfl) (by kernel_rfl) (by kernel_rfl) (fun _ _ _ h => h) (Or.inl ⟨by kernel_rfl, ?_⟩) (by assumption) ?_
    rotate_left
    ·intro w hSw; (try dsimp only at hSw); go_simp; try with_reducible rfl
    simp only [Act.put, List.setIfInBounds_toArray, List.set_cons_zero, List.set_cons_succ]
    refine wpAnyH_take (i := 10) (oi := { dst := some 41, op := Op.move (.tmp 4), type := 99, pos := "l07_nfa.go:147", after := #[], guard := none }) (v := ?_) rfl (by kernel_rfl) (by kernel_rfl) (by kernel_rfl) (fun _ _ _ h => h) (Or.inl ⟨by kernel_rfl, ?_⟩) (by assumption) ?_
    rotate_left
    ·intro w hSw; (try dsimp only at hSw); go_simp; try with_reducible rfl
    simp only [Act.put, List.setIfInBounds_toArray, List.set_cons_zero, List.set_cons_succ]
    refine wpAnyH_take (i := 11) (oi := { dst := some 42, op := Op.nilCheck (.tmp 41), type := 0, pos := "l07_nfa.go:147", after := #[{ on := 10, ground := .data }], guard := none }) (v := ?_) rfl (by kernel_rfl) (by kernel_rfl) (by kernel_rfl) (fun _ _ _ h => h) (Or.inl ⟨by kernel_rfl, ?_⟩) (by assumption) ?_
    rotate_left
    ·intro w hSw; (try dsimp only at hSw); go_simp; try with_reducible rfl
    simp only [Act.put, List.setIfInBounds_toArray, List.set_cons_zero, List.set_cons_succ]
    refine wpAnyH_take (i := 12) (oi := { dst := some 43, op := Op.fieldAddr 102 (.tmp 42) 1, type := 0, pos := "l07_nfa.go:147", after := #[{ on := 11, ground := .data }], guard := none }) (v := ?_) rfl (by kernel_rfl) (by kernel_rfl) (by kernel_rfl) (fun _ _ _ h => h) (Or.inl ⟨by kernel_rfl, ?_⟩) (by assumption) ?_
    rotate_left
    ·intro w hSw; (try dsimp only at hSw); go_simp; try with_reducible rfl
    simp only [Act.put, List.setIfInBounds_toArray, List.set_cons_zero, List.set_cons_succ]
    refine wpAnyH_take (i := 13) (oi := { dst := some 44, op := Op.load 100 (.tmp 43), type := 100, pos := "l07_nfa.go:147", after := #[{ on := 12, ground := .data }], guard := none }) (v := ?_) rfl (by kernel_rfl) (by kernel_rfl) (by kernel_rfl) (fun _ _ _ h => h) (Or.inl ⟨by kernel_rfl, ?_⟩) (by assumption) ?_
    rotate_left
    ·intro w hSw; (try dsimp only at hSw); go_simp; try with_reducible rfl
    simp only [Act.put, List.setIfInBounds_toArray, List.set_cons_zero, List.set_cons_succ]
    refine wpAnyH_take (i := 14) (oi := { dst := some 45, op := Op.call { callee := Callee.builtin Builtin.len, args := #[.tmp 44], argTypes := #[100] }, type := 3, pos := "l07_nfa.go:147", after := #[{ on := 13, ground := .data }], guard := none }) (v := ?_) rfl (by kernel_rfl) (by kernel_rfl) (by kernel_rfl) (fun _ _ _ h => h) (Or.inl ⟨by kernel_rfl, ?_⟩) (by assumption) ?_
    rotate_left
    ·intro w hSw; (try dsimp only at hSw); go_simp; try with_reducible rfl
    simp only [Act.put, List.setIfInBounds_toArray, List.set_cons_zero, List.set_cons_succ]
    refine wpAnyH_take (i := 15) (oi := { dst := some 46, op := Op.binOp BinOp.add 3 (.tmp 45) (.const (Value.int IntKind.i64 1)) 3, type := 3, pos := "l07_nfa.go:147", after := #[{ on := 14, ground := .data }], guard := none }) (v := ?_) rfl (by kernel_rfl) (by kernel_rfl) (by kernel_rfl) (fun _ _ _ h => h) (Or.inl ⟨by kernel_rfl, ?_⟩) (by assumption) ?_
    rotate_left
    ·intro w hSw; (try dsimp only at hSw); go_simp; try with_reducible rfl
    simp only [Act.put, List.setIfInBounds_toArray, List.set_cons_zero, List.set_cons_succ]
    refine wpAnyH_ready (rs := [16, 18]) (by kernel_rfl) (by simp) ?_
    refine AllReadyH.cons (o := { dst := some 47, op := Op.makeSlice 78 (.tmp 46) (.tmp 46), type := 78, pos := "l07_nfa.go:147", after := #[{ on := 15, ground := .data }, { on := 15, ground := .data }], guard := none }) rfl (fun K hK => ?_) ?_
    ·go_simp
     have HBM : Hid (Below w6.heap.size w6 (w6.drew.alloc (.cells (madeCells #[.bool false] Q1) 4))) := HBD6.out.alloc (by have := HBD6.out.size; omega) _
     refine hK.out _ _ (HKS.out _ HBM.out) (fun hHeld => ?_)
     clear hK K
     try simp only [Act.put, List.setIfInBounds_toArray, List.set_cons_zero, List.set_cons_succ]
     refine wpAnyH_take (i := 17) (oi := { dst := some 48, op := Op.build 80 #[(0, .tmp 36), (1, .tmp 40), (2, .tmp 47)], type := 80, pos := "l07_nfa.go:147", after := #[{ on := 5, ground := .data }, { on := 9, ground := .data }, { on := 16, ground := .data }], guard := none }) (v := ?_) rfl (by kernel_rfl) (by kernel_rfl) (by kernel_rfl) (fun _ _ _ h => h) (Or.inl ⟨by kernel_rfl, ?_⟩) (by assumption) ?_
     rotate_left
     ·intro w hSw; (try dsimp only at hSw); go_simp; try with_reducible rfl
     simp only [Act.put, List.setIfInBounds_toArray, List.set_cons_zero, List.set_cons_succ]
     refine wpAnyH_ready (rs := [18]) (by kernel_rfl) (by simp) ?_
     refine AllReadyH.cons (o := { dst := some 6, op := Op.alloc 80, type := 0, pos := "l07_nfa.go:147", after := #[], guard := none }) rfl (fun K hK => ?_) ?_
     ·go_simp
      have HBA : Hid (Below w6.heap.size w6 ((w6.drew.alloc (.cells (madeCells #[.bool false] Q1) 4)).alloc (.cells #[.int .i64 0, .slice none 0 0, .slice none 0 0] 80))) := HBM.out.alloc (by have := HBM.out.size; omega) _
      refine hK.out _ _ (HKS.out _ HBA.out) (fun hHeld => ?_)
      clear hK K
      try simp only [Act.put, List.setIfInBounds_toArray, List.set_cons_zero, List.set_cons_succ]
      refine wpAnyH_ready (rs := [19]) (by kernel_rfl) (by simp) ?_
      refine AllReadyH.cons (o := { dst := none, op := Op.store 80 (.tmp 6) (.tmp 48), type := 0, pos := "l07_nfa.go:147", after := #[{ on := 18, ground := .data }, { on := 17, ground := .data }, { on := 0, ground := .phase }, { on := 1, ground := .phase }, { on := 2, ground := .phase }, { on := 3, ground := .phase }, { on := 4, ground := .phase }, { on := 5, ground := .phase }, { on := 6, ground := .phase }, { on := 7, ground := .phase }, { on := 8, ground := .phase }, { on := 9, ground := .phase }, { on := 10, ground := .phase }, { on := 11, ground := .phase }, { on := 12, ground := .phase }, { on := 13, ground := .phase }, { on := 14, ground := .phase }, { on := 15, ground := .phase }, { on := 16, ground := .phase }, { on := 17, ground := .phase }, { on := 18, ground := .phase }], guard := none }) rfl (fun K hK => ?_) ?_
      ·go_simp
       have HBX : Hid (Below w6.heap.size w6 (((w6.alloc (.cells (madeCells #[.bool false] Q1) 4)).alloc (.cells #[.int .i64 (Q1 : Int), .slice aa2 an2 ac2, .slice (some ⟨w6.heap.size, 0, none⟩) Q1 Q1] 80)).drew)) := (((Below.refl w6.heap.size w6).alloc (Nat.le_refl _) _).alloc (by simp) _).drew
       refine hK.out _ _ (HKS.out _ HBX.out) (fun hHeld => ?_)
       clear hK K
       try simp only [Act.put, List.setIfInBounds_toArray, List.set_cons_zero, List.set_cons_succ]
       refine wpAnyH_done (by kernel_rfl) ?_ _
       clear hHeld
       have HZX : Hid (BBlk (((w6.alloc (.cells (madeCells #[.bool false] Q1) 4)).alloc (.cells #[.int .i64 (Q1 : Int), .slice aa2 an2 ac2, .slice (some ⟨w6.heap.size, 0, none⟩) Q1 Q1] 80)).drew) (w6.heap.size) Q1 noB) := by
        obtain ⟨c, hb, hn', hc⟩ := World.rowIs_made w6 (.bool false) Q1 4
        exact Blk.alloc (w := w6.alloc _) ⟨c, 4, hb, fun i hi => by rw [hc i hi]; rfl⟩ _
       have HPX : Hid (Blk (((w6.alloc (.cells (madeCells #[.bool false] Q1) 4)).alloc (.cells #[.int .i64 (Q1 : Int), .slice aa2 an2 ac2, .slice (some ⟨w6.heap.size, 0, none⟩) Q1 Q1] 80)).drew) (w6.heap.size + 1) 3 (k3 (.int .i64 (Q1 : Int)) (.slice aa2 an2 ac2) (.slice (some ⟨w6.heap.size, 0, none⟩) Q1 Q1))) := by
        exact blk_three (w6.alloc _) (w6.heap.size + 1) (by simp) _ _ _ _
       go_wp2_with fail
       go_meet
       case rel => exact ⟨w6.heap.size + 1, w6.heap.size, rfl, ⟨by omega, by omega, by omega⟩, HPX, HZX, HBX⟩
      exact AllReadyH.nil
     exact AllReadyH.nil
    refine AllReadyH.cons (o := { dst := some 6, op := Op.alloc 80, type := 0, pos := "l07_nfa.go:147", after := #[], guard := none }) rfl (fun K hK => ?_) ?_
    ·go_simp
     have HBA : Hid (Below w6.heap.size w6 (w6.drew.alloc (.cells #[.int .i64 0, .slice none 0 0, .slice none 0 0] 80))) := HBD6.out.alloc (by have := HBD6.out.size; omega) _
     refine hK.out _ _ (HKS.out _ HBA.out) (fun hHeld => ?_)
     clear hK K
     try simp only [Act.put, List.setIfInBounds_toArray, List.set_cons_zero, List.set_cons_succ]
     refine wpAnyH_ready (rs := [16]) (by kernel_rfl) (by simp) ?_
     refine AllReadyH.cons (o := { dst := some 47, op := Op.makeSlice 78 (.tmp 46) (.tmp 46), type := 78, pos := "l07_nfa.go:147", after := #[{ on := 15, ground := .data }, { on := 15, ground := .data }], guard := none }) rfl (fun K hK => ?_) ?_
     ·go_simp
      have HBM : Hid (Below w6.heap.size w6 ((w6.drew.alloc (.cells #[.int .i64 0, .slice none 0 0, .slice none 0 0] 80)).alloc (.cells (madeCells #[.bool false] Q1) 4))) := HBA.out.alloc (by have := HBA.out.size; omega) _
      refine hK.out _ _ (HKS.out _ HBM.out) (fun hHeld => ?_)
      clear hK K
      try simp only [Act.put, List.setIfInBounds_toArray, List.set_cons_zero, List.set_cons_succ]
      refine wpAnyH_take (i := 17) (oi := { dst := some 48, op := Op.build 80 #[(0, .tmp 36), (1, .tmp 40), (2, .tmp 47)], type := 80, pos := "l07_nfa.go:147", after := #[{ on := 5, ground := .data }, { on := 9, ground := .data }, { on := 16, ground := .data }], guard := none }) (v := ?_) rfl (by kernel_rfl) (by kernel_rfl) (by kernel_rfl) (fun _ _ _ h => h) (Or.inl ⟨by kernel_rfl, ?_⟩) (by assumption) ?_
      rotate_left
      ·intro w hSw; (try dsimp only at hSw); go_simp; try with_reducible rfl
      simp only [Act.put, List.setIfInBounds_toArray, List.set_cons_zero, List.set_cons_succ]
      refine wpAnyH_ready (rs := [19]) (by kernel_rfl) (by simp) ?_
      refine AllReadyH.cons (o := { dst := none, op := Op.store 80 (.tmp 6) (.tmp 48), type := 0, pos := "l07_nfa.go:147", after := #[{ on := 18, ground := .data }, { on := 17, ground := .data }, { on := 0, ground := .phase }, { on := 1, ground := .phase }, { on := 2, ground := .phase }, { on := 3, ground := .phase }, { on := 4, ground := .phase }, { on := 5, ground := .phase }, { on := 6, ground := .phase }, { on := 7, ground := .phase }, { on := 8, ground := .phase }, { on := 9, ground := .phase }, { on := 10, ground := .phase }, { on := 11, ground := .phase }, { on := 12, ground := .phase }, { on := 13, ground := .phase }, { on := 14, ground := .phase }, { on := 15, ground := .phase }, { on := 16, ground := .phase }, { on := 17, ground := .phase }, { on := 18, ground := .phase }], guard := none }) rfl (fun K hK => ?_) ?_
      ·go_simp
       have HBX : Hid (Below w6.heap.size w6 (((w6.alloc (.cells #[.int .i64 (Q1 : Int), .slice aa2 an2 ac2, .slice (some ⟨w6.heap.size + 1, 0, none⟩) Q1 Q1] 80)).alloc (.cells (madeCells #[.bool false] Q1) 4)).drew)) := (((Below.refl w6.heap.size w6).alloc (Nat.le_refl _) _).alloc (by simp) _).drew
       refine hK.out _ _ (HKS.out _ HBX.out) (fun hHeld => ?_)
       clear hK K
       try simp only [Act.put, List.setIfInBounds_toArray, List.set_cons_zero, List.set_cons_succ]
       refine wpAnyH_done (by kernel_rfl) ?_ _
       clear hHeld
       have HZX : Hid (BBlk (((w6.alloc (.cells #[.int .i64 (Q1 : Int), .slice aa2 an2 ac2, .slice (some ⟨w6.heap.size + 1, 0, none⟩) Q1 Q1] 80)).alloc (.cells (madeCells #[.bool false] Q1) 4)).drew) (w6.heap.size + 1) Q1 noB) := by
        obtain ⟨c, hb, hn', hc⟩ := World.rowIs_made (w6.alloc (.cells #[.int .i64 (Q1 : Int), .slice aa2 an2 ac2, .slice (some ⟨w6.heap.size + 1, 0, none⟩) Q1 Q1] 80)) (.bool false) Q1 4
        rw [show (w6.alloc (.cells #[.int .i64 (Q1 : Int), .slice aa2 an2 ac2, .slice (some ⟨w6.heap.size + 1, 0, none⟩) Q1 Q1] 80)).heap.size = w6.heap.size + 1 by simp] at hb
        exact ⟨c, 4, hb, fun i hi => by rw [hc i hi]; rfl⟩
       have HPX : Hid (Blk (((w6.alloc (.cells #[.int .i64 (Q1 : Int), .slice aa2 an2 ac2, .slice (some ⟨w6.heap.size + 1, 0, none⟩) Q1 Q1] 80)).alloc (.cells (madeCells #[.bool false] Q1) 4)).drew) (w6.heap.size) 3 (k3 (.int .i64 (Q1 : Int)) (.slice aa2 an2 ac2) (.slice (some ⟨w6.heap.size + 1, 0, none⟩) Q1 Q1))) := by
        exact Blk.alloc (blk_three w6 w6.heap.size rfl _ _ _ _) _
       go_wp2_with fail
       go_meet
       case rel => exact ⟨w6.heap.size, w6.heap.size + 1, rfl, ⟨by omega, by omega, by omega⟩, HPX, HZX, HBX⟩
      exact AllReadyH.nil
     exact AllReadyH.nil
    exact AllReadyH.nil
   case rest =>
    obtain ⟨A, E, rfl, HAE, HAB, HEB, HBC⟩ := hcut
    clear hmk hwq m1 m2 HKS
    have HXB7 : Hid (Blk wc X 3 (k3 (.slice fa F.length fc) (.slice ga G.length gc) (.bool nl))) := HXB6.out.of_block (HBC.out.block _ HXB6.out.lt)
    have HG7 : Hid (wc.ownsRow (M + 1) 3 1 (.slice ga G.length gc) G.length (rowCells G)) := own_below HG6.out HBC.out
    have HR7 : Hid (Blk wc (B + 1) 3 (k3 (.int .i64 0) (.slice none 0 0) (.slice none 0 0))) := HR6.out.of_block (HBC.out.block _ HR6.out.lt)
    have HAR7 : Hid (EdgesIn (M + 1) w6.heap.size wc aa2 (nfA l)) := HAR.out.below HBC.out (Nat.le_refl _)
    have HBW7 : Hid (Below w.heap.size w wc) := HBW6.out.trans (HBC.out.mono HBW6.out.size)
    have a2 : wc.cell? ⟨A, 2, none⟩ = some (.slice (some ⟨E, 0, none⟩) Q1 Q1) := HAB.out.cell (i := 2) (by omega)
    have x2 : wc.cell? ⟨X, 2, none⟩ = some (.bool nl) := HXB7.out.cell (i := 2) (by omega)
    have e0 : wc.cell? ⟨E, 0, none⟩ = some (.bool false) := HEB.out.get (k := 0) (by have := HQ1.out; omega)
    have ef := Blk.frozen HEB.out 0
    have hq0 : (0 : Int) < (Q1 : Int) := by have := HQ1.out; omega
    go_upto_region 10 with fail
    clear a2 x2 e0 ef
    obtain ⟨w8, HW8⟩ : ∃ x, Hid (x = wc.setCell ⟨E, 0, none⟩ (.bool nl)) := ⟨_, rfl⟩
    have HE8 : Hid (BBlk w8 E Q1 (endK G nl 0)) := by rw [HW8.out]; exact (HEB.out.set1 (k := 0) (by have := HQ1.out; omega) nl).congr (fun i _ => by unfold endK noB; by_cases e : i = 0 <;> simp [e])
    have HK8 : Hid (KeptP (fun c => c = E) wc w8) := by rw [HW8.out]; exact kp_set _ _ _ _
    first | rw [← HW8.out] | (rw [show _ = w8 from HW8.out.symm])
    clear HW8
    have hG24 : G.length ≤ 24 := HLE.out.2.2
    go_wp2
    go_loopw [7] (fun i wr => ∃ k : Nat, i = .int .i64 (k : Int) ∧ k ≤ G.length ∧ Hid (BBlk wr E Q1 (endK G nl k)) ∧ Hid (KeptP (fun c => c = E) wc wr)) (fun i _ => G.length - (intOf i).toNat)
    case atStart => exact ⟨0, rfl, by omega, HE8, HK8⟩
    case round =>
     obtain ⟨j, rfl, hj, HEJ, HKJ⟩ := hrel
     have HXJ : Hid (Blk wr X 3 (k3 (.slice fa F.length fc) (.slice ga G.length gc) (.bool nl))) := HKJ.out.blk HXB7.out (by have := HAE.out; have := HS6.out; omega)
     have HAJ : Hid (Blk wr A 3 (k3 (.int .i64 (Q1 : Int)) (.slice aa2 an2 ac2) (.slice (some ⟨E, 0, none⟩) Q1 Q1))) := HKJ.out.blk HAB.out HAE.out.2.2
     have x1 : wr.cell? ⟨X, 1, none⟩ = some (.slice ga G.length gc) := HXJ.out.cell (i := 1) (by omega)
     by_cases hlt : j < G.length
     ·have hlt1 : (j : Int) < (G.length : Int) := by omega
      have hlt0 : (0 : Int) ≤ (j : Int) := by omega
      have HGJ : Hid (wr.ownsRow (M + 1) 3 1 (.slice ga G.length gc) G.length (rowCells G)) := owns_keptP HG7.out HKJ.out (fun c e e2 => by have := (HG6.out.lt c e).2; have := HAE.out; have e3 : c = E := e2; omega)
      obtain ⟨t, ht1, ht2, hte⟩ := HLL.out (G.getD j 0) (by rw [List.getD, List.getElem?_eq_getElem hlt]; exact List.getElem_mem _)
      obtain ⟨gb, rfl, hgb⟩ : ∃ gb, ga = some ⟨gb, 0, none⟩ ∧ gb < w6.heap.size := by
       obtain ⟨ao, c', e, h⟩ := own_shape HG6.out
       cases e
       obtain ⟨g, e2, _, h2, _⟩ := h (by omega)
       exact ⟨g, e2, h2⟩
      have g0 : wr.cell? ⟨gb, j, none⟩ = some (.int .i64 (t : Int)) := by
       have h := (own_src HGJ.out).2 _ rfl j (.int .i64 (t : Int)) (by rw [← hte]; simp [rowCells, hlt])
       rw [add_none, Nat.zero_add] at h
       exact h
      have a2 : wr.cell? ⟨A, 2, none⟩ = some (.slice (some ⟨E, 0, none⟩) Q1 Q1) := HAJ.out.cell (i := 2) (by omega)
      have ht3 : (t : Int) < (Q1 : Int) := by have := HQQ.out; have := HQ1.out; omega
      have ht0 : (0 : Int) ≤ (t : Int) := by omega
      have htq : t < Q1 := by omega
      have HST : Hid (∀ i, (if i = t then true else endK G nl j i) = endK G nl (j + 1) i) := fun i => endK_succ hlt hte ht1 i
      have HNE : Hid (gb ≠ E ∧ X ≠ E ∧ A ≠ E) := ⟨by have := HAE.out; omega, by have := HAE.out; have := HS6.out; omega, HAE.out.2.2⟩
      clear hte
      go_upto_region 13 with fail
      obtain ⟨V, HV⟩ : ∃ V, Hid (V = wr.drew) := ⟨_, rfl⟩
      have HBV : Hid (Below wr.heap.size wr V) := by rw [HV.out]; exact (Below.refl _ _).drew
      have HEV : Hid (BBlk V E Q1 (endK G nl j)) := HEJ.out.of (HBV.out.block _ HEJ.out.lt)
      have v1 := cell_below x1 HBV.out (lt_of_cell x1)
      have v2 := cell_below a2 HBV.out (lt_of_cell a2)
      have v3 := cell_below g0 HBV.out (lt_of_cell g0)
      have hSV : V.cell? ⟨X, 1, none⟩ = some (.slice (some ⟨gb, 0, none⟩) G.length gc) ∧ V.cell? ⟨A, 2, none⟩ = some (.slice (some ⟨E, 0, none⟩) Q1 Q1) ∧ V.cell? ⟨gb, j, none⟩ = some (.int .i64 (t : Int)) := ⟨v1, v2, v3⟩
      refine wp_region_held_drew (S := fun v => v.cell? ⟨X, 1, none⟩ = some (.slice (some ⟨gb, 0, none⟩) G.length gc) ∧ v.cell? ⟨A, 2, none⟩ = some (.slice (some ⟨E, 0, none⟩) Q1 Q1) ∧ v.cell? ⟨gb, j, none⟩ = some (.int .i64 (t : Int))) (by kernel_rfl) (by rw [← HV.out]; exact ⟨v1, v2, v3⟩) (fun hHeld => ?_)
      rw [← HV.out]
      refine wpAnyH_take (i := 0) (oi := { dst := some 61, op := Op.fieldAddr 80 (.tmp 6) 2, type := 0, pos := "l07_nfa.go:150", after := #[], guard := none }) (v := ?_) rfl (by kernel_rfl) (by kernel_rfl) (by kernel_rfl) (fun _ _ _ h => h) (Or.inl ⟨by kernel_rfl, ?_⟩) (by assumption) ?_
      rotate_left
      ·intro w hSw; (try dsimp only at hSw); go_simp; try with_reducible rfl
      simp only [Act.put, List.setIfInBounds_toArray, List.set_cons_zero, List.set_cons_succ]
      refine wpAnyH_take (i := 1) (oi := { dst := some 62, op := Op.load 78 (.tmp 61), type := 78, pos := "l07_nfa.go:150", after := #[{ on := 0, ground := .data }], guard := none }) (v := ?_) rfl (by kernel_rfl) (by kernel_rfl) (by kernel_rfl) (fun _ _ _ h => h) (Or.inl ⟨by kernel_rfl, ?_⟩) (by assumption) ?_
      rotate_left
      ·intro w hSw; (try dsimp only at hSw); go_simp; try with_reducible rfl
      simp only [Act.put, List.setIfInBounds_toArray, List.set_cons_zero, List.set_cons_succ]
      refine wpAnyH_take (i := 2) (oi := { dst := some 63, op := Op.fieldAddr 104 (.tmp 5) 1, type := 0, pos := "l07_nfa.go:150", after := #[], guard := none }) (v := ?_) rfl (by kernel_rfl) (by kernel_rfl) (by kernel_rfl) (fun _ _ _ h => h) (Or.inl ⟨by kernel_rfl, ?_⟩) (by assumption) ?_
      rotate_left
      ·intro w hSw; (try dsimp only at hSw); go_simp; try with_reducible rfl
      simp only [Act.put, List.setIfInBounds_toArray, List.set_cons_zero, List.set_cons_succ]
      refine wpAnyH_take (i := 3) (oi := { dst := some 64, op := Op.load 36 (.tmp 63), type := 36, pos := "l07_nfa.go:150", after := #[{ on := 2, ground := .data }], guard := none }) (v := ?_) rfl (by kernel_rfl) (by kernel_rfl) (by kernel_rfl) (fun _ _ _ h => h) (Or.inl ⟨by kernel_rfl, ?_⟩) (by assumption) ?_
      rotate_left
      ·intro w hSw; (try dsimp only at hSw); go_simp; try with_reducible rfl
      simp only [Act.put, List.setIfInBounds_toArray, List.set_cons_zero, List.set_cons_succ]
      refine wpAnyH_take (i := 4) (oi := { dst := some 65, op := Op.move (.tmp 7), type := 3, pos := "l07_nfa.go:150", after := #[], guard := none }) (v := ?_) rfl (by kernel_rfl) (by kernel_rfl) (by kernel_rfl) (fun _ _ _ h => h) (Or.inl ⟨by kernel_rfl, ?_⟩) (by assumption) ?_
      rotate_left
      ·intro w hSw; (try dsimp only at hSw); go_simp; try with_reducible rfl
      simp only [Act.put, List.setIfInBounds_toArray, List.set_cons_zero, List.set_cons_succ]
      refine wpAnyH_take (i := 5) (oi := { dst := some 66, op := Op.indexAddr 36 (.tmp 64) (.tmp 65), type := 0, pos := "l07_nfa.go:150", after := #[{ on := 3, ground := .data }, { on := 4, ground := .data }], guard := none }) (v := ?_) rfl (by kernel_rfl) (by kernel_rfl) (by kernel_rfl) (fun _ _ _ h => h) (Or.inl ⟨by kernel_rfl, ?_⟩) (by assumption) ?_
      rotate_left
      ·intro w hSw; (try dsimp only at hSw); go_simp; try with_reducible rfl
      simp only [Act.put, List.setIfInBounds_toArray, List.set_cons_zero, List.set_cons_succ]
      refine wpAnyH_take (i := 6) (oi := { dst := some 67, op := Op.load 3 (.tmp 66), type := 3, pos := "l07_nfa.go:150", after := #[{ on := 5, ground := .data }], guard := none }) (v := ?_) rfl (by kernel_rfl) (by kernel_rfl) (by kernel_rfl) (fun _ _ _ h => h) (Or.inl ⟨by kernel_rfl, ?_⟩) (by assumption) ?_
      rotate_left
      ·intro w hSw; (try dsimp only at hSw); go_simp; try with_reducible rfl
      simp only [Act.put, List.setIfInBounds_toArray, List.set_cons_zero, List.set_cons_succ]
      refine wpAnyH_take (i := 7) (oi := { dst := some 68, op := Op.indexAddr 78 (.tmp 62) (.tmp 67), type := 0, pos := "l07_nfa.go:150", after := #[{ on := 1, ground := .data }, { on := 6, ground := .data }, { on := 0, ground := .phase }, { on := 1, ground := .phase }, { on := 2, ground := .phase }, { on := 3, ground := .phase }, { on := 4, ground := .phase }, { on := 5, ground := .phase }, { on := 6, ground := .phase }], guard := none }) (v := ?_) rfl (by kernel_rfl) (by kernel_rfl) (by kernel_rfl) (fun _ _ _ h => h) (Or.inl ⟨by kernel_rfl, ?_⟩) (by assumption) ?_
      rotate_left
      ·intro w hSw; (try dsimp only at hSw); go_simp; try with_reducible rfl
      simp only [Act.put, List.setIfInBounds_toArray, List.set_cons_zero, List.set_cons_succ]
      refine wpAnyH_ready (rs := [8]) (by kernel_rfl) (by simp) ?_
      refine AllReadyH.cons (o := { dst := none, op := Op.store 4 (.tmp 68) (.const (Value.bool true)), type := 0, pos := "l07_nfa.go:150", after := #[{ on := 7, ground := .data }, { on := 0, ground := .phase }, { on := 1, ground := .phase }, { on := 2, ground := .phase }, { on := 3, ground := .phase }, { on := 4, ground := .phase }, { on := 5, ground := .phase }, { on := 6, ground := .phase }], guard := none }) rfl (fun K hK => ?_) ?_
      ·have ev := HEV.out.get htq
       have evf := Blk.frozen HEV.out t
       have n1 := HNE.out.1
       have n2 := HNE.out.2.1
       have n3 := HNE.out.2.2
       have s9 := fun (u : Value) => And.intro (cell_set (c := E) (j := t) v1 u n2) (And.intro (cell_set (c := E) (j := t) v2 u n3) (cell_set (c := E) (j := t) v3 u n1))
       clear n1 n2 n3
       go_simp
       refine hK.out _ _ (s9 _) (fun hHeld => ?_)
       clear hK K
       try simp only [Act.put, List.setIfInBounds_toArray, List.set_cons_zero, List.set_cons_succ]
       refine wpAnyH_done (by kernel_rfl) ?_ _
       clear hHeld s9 ev evf v1 v2 v3 hSV
       have HE9 : Hid (BBlk (V.setCell ⟨E, t, none⟩ (.bool true)) E Q1 (endK G nl (j + 1))) := (HEV.out.set1 htq true).congr (fun i _ => HST.out i)
       have HK9 : Hid (KeptP (fun c => c = E) wc (V.setCell ⟨E, t, none⟩ (.bool true))) := (HKJ.out.trans (KeptP.of_below HBV.out (fun _ h _ => h))).setCell rfl _
       go_wp2
       go_roundw
       case rel => exact ⟨j + 1, by go_num, by omega, HE9, HK9⟩
       case measure => simp [intOf]; omega
      exact AllReadyH.nil
     ·obtain rfl : j = G.length := by omega
      have HEF : Hid (BBlk wr E Q1 (nfF l)) := HEJ.out.congr (fun i _ => by have h := endK_all l i; rw [← HY.out] at h; exact h)
      have HR9 : Hid (Blk wr (B + 1) 3 (k3 (.int .i64 0) (.slice none 0 0) (.slice none 0 0))) := HKJ.out.blk HR7.out (by have := HAE.out; have := HS6.out; have := HSX.out; have := HM.out; have := HS1.out; omega)
      have HAR9 : Hid (EdgesIn (M + 1) w6.heap.size wr aa2 (nfA l)) := HAR7.out.kept HKJ.out HBC.out.size (fun c h1 h2 e => by have e2 : c = E := e; have := HAE.out; omega)
      have HBW9 : Hid (Below w.heap.size w wr) := HBW7.out.trans (HKJ.out.to_below HBW7.out.size (fun c e => by have e2 : c = E := e; have := HAE.out; have := HBW6.out.size; omega))
      have HSZ9 : Hid (w6.heap.size ≤ wr.heap.size) := Nat.le_trans HBC.out.size HKJ.out.size
      have HGQ : Hid (q = (nfS l).1.lb.length) := by show _ = _; rw [HQQ.out, HS.out]
      have HCN : Hid (Calls Tryz.prog 60 #[.agg #[.int .i64 (Q1 : Int), .slice aa2 an2 ac2, .slice (some ⟨E, 0, none⟩) Q1 Q1]] wr fun e w' => e = .returned (.bool true) ∧ Hid (Below wr.heap.size wr w')) :=
       specNOkT_any (M + 1) w6.heap.size (Q1 : Int) aa2 an2 ac2 (nfA l) (some ⟨E, 0, none⟩) Q1 Q1 true wr HAR9.out HSZ9.out HAL.out (by have := nfA_few HO.out.symm HLT.out; have := HAL.out; omega) (by rw [HQ1.out, HGQ.out]; exact (nfA_ok HO.out.symm HLT.out).symm) (by rw [HQ1.out, HGQ.out]; exact nfA_ok HO.out.symm HLT.out)
      have z0 : wr.cell? ⟨A, 0, none⟩ = some (.int .i64 (Q1 : Int)) := HAJ.out.cell (i := 0) (by omega)
      have z1 : wr.cell? ⟨A, 1, none⟩ = some (.slice aa2 an2 ac2) := HAJ.out.cell (i := 1) (by omega)
      have z2 : wr.cell? ⟨A, 2, none⟩ = some (.slice (some ⟨E, 0, none⟩) Q1 Q1) := HAJ.out.cell (i := 2) (by omega)
      go_upto_region 16 with (go_at_call 60; refine (HCN.out).mono ?_; rintro e w9 ⟨rfl, HB9⟩)
      have HA9 := Hid_mk (HAJ.out.of_block (HB9.out.block _ HAJ.out.lt))
      have HRR9 := Hid_mk (HR9.out.of_block (HB9.out.block _ HR9.out.lt))
      have HEE9 : Hid (BBlk w9 E Q1 (nfF l)) := HEF.out.of (HB9.out.block _ HEF.out.lt)
      clear z0 z1 z2 x1
      have z0 : w9.cell? ⟨A, 0, none⟩ = some (.int .i64 (Q1 : Int)) := HA9.out.cell (i := 0) (by omega)
      have z1 : w9.cell? ⟨A, 1, none⟩ = some (.slice aa2 an2 ac2) := HA9.out.cell (i := 1) (by omega)
      have z2 : w9.cell? ⟨A, 2, none⟩ = some (.slice (some ⟨E, 0, none⟩) Q1 Q1) := HA9.out.cell (i := 2) (by omega)
      have b1 := HRR9.out.set 0 (by omega) (.int .i64 (Q1 : Int))
      have b2 := b1.set 1 (by omega) (.slice aa2 an2 ac2)
      have q0 : w9.cell? ⟨B + 1, 0, none⟩ = some (.int .i64 0) := HRR9.out.cell (i := 0) (by omega)
      have q1 : (w9.setCell ⟨B + 1, 0, none⟩ (.int .i64 (Q1 : Int))).cell? ⟨B + 1, 1, none⟩ = some (.slice none 0 0) := b1.cell (i := 1) (by omega)
      have q2 : ((w9.setCell ⟨B + 1, 0, none⟩ (.int .i64 (Q1 : Int))).setCell ⟨B + 1, 1, none⟩ (.slice aa2 an2 ac2)).cell? ⟨B + 1, 2, none⟩ = some (.slice none 0 0) := b2.cell (i := 2) (by omega)
      have q3 := HRR9.out.frozen 0
      have q4 := b1.frozen 1
      have q5 := b2.frozen 2
      clear b1 b2
      go_wp2_with fail
      obtain rfl : FF = Tryz.f43 := HFF.out
      refine bodyPost_ret (results_row2 (k := 2) (m := 3) (t := 80) (b := B + 1) Tryz.results43 rfl rfl (load_nfa (k3_put HRR9.out _ _ _))) rfl ?_
      show NfPost l w (.returned (.tuple #[.agg #[.int .i64 (Q1 : Int), .slice aa2 an2 ac2, .slice (some ⟨E, 0, none⟩) Q1 Q1], .bool true])) (w9.setCells (B + 1) 0 [.int .i64 (Q1 : Int), .slice aa2 an2 ac2, .slice (some ⟨E, 0, none⟩) Q1 Q1])
      have hks := kp_set3 w9 (B + 1) (.int .i64 (Q1 : Int)) (.slice aa2 an2 ac2) (.slice (some ⟨E, 0, none⟩) Q1 Q1)
      have hB1 : ∀ c, c = B + 1 → w.heap.size ≤ c ∧ c < M := fun c e => by have := HB.out; have := HM.out; have := HS1.out; omega
      refine ⟨(Q1 : Int), aa2, an2, ac2, some ⟨E, 0, none⟩, Q1, Q1, by rw [HNG.out], ?_, ?_, ?_, ⟨?_, ?_⟩, (HBW9.out.trans (HB9.out.mono HBW9.out.size)).trans (hks.to_below (Nat.le_trans HBW9.out.size HB9.out.size) (fun c e => (hB1 c e).1))⟩
      ·show _ = _; unfold nfSt; rw [if_pos HNG.out, HQ1.out, HGQ.out]
      ·show _ = _; unfold nfAr; rw [if_pos HNG.out]; exact HAL.out
      ·show _ = _; unfold nfEn; rw [if_pos HNG.out, nfE_len, HQ1.out, HGQ.out]
      ·unfold nfAr
       rw [if_pos HNG.out]
       exact ((HAR9.out.below HB9.out (by have := HSZ9.out; omega)).kept hks (Nat.le_trans HSZ9.out HB9.out.size) (fun c h1 h2 e => by have := hB1 c e; omega)).wide (by have := hB1 _ rfl; omega) (by have := HSZ9.out; have := HB9.out.size; have := hks.size; omega)
      ·unfold nfEn
       rw [if_pos HNG.out]
       have hEE := hks.blk HEE9.out (by have := hB1 _ rfl; have := HAE.out; have := HML.out; omega)
       refine .inr ⟨E, 0, rfl, by have := HAE.out; have := HBW6.out.size; omega, hEE.lt, fun i hi => ?_⟩
       rw [nfE_len, ← HGQ.out, ← HQ1.out] at hi
       rw [Nat.zero_add, Blk.cell hEE hi]
       unfold nfE
       rw [← HGQ.out, ← HQ1.out]
       simp [List.getD, hi]
 ·subst ho
  have HNG : Hid (nfG l = false) := by show _ = _; unfold nfG; rw [← HO.out]; rfl
  go_upto_region 2 with (go_at_call 57; refine (HCO.out).mono ?_; rintro e w1 ⟨rfl, HB1⟩)
  have HR4 : Hid (Blk w1 (B + 1) 3 (k3 (.int .i64 0) (.slice none 0 0) (.slice none 0 0))) := HRW.out.of_block (HB1.out.block _ HRW.out.lt)
  have HBW4 : Hid (Below w.heap.size w w1) := HBW.out.trans (HB1.out.mono HBW.out.size)
  have b1 := HR4.out.set 0 (by omega) (.int .i64 0)
  have b2 := b1.set 1 (by omega) (.slice none 0 0)
  have q0 : w1.cell? ⟨B + 1, 0, none⟩ = some (.int .i64 0) := HR4.out.cell (i := 0) (by omega)
  have q1 : (w1.setCell ⟨B + 1, 0, none⟩ (.int .i64 0)).cell? ⟨B + 1, 1, none⟩ = some (.slice none 0 0) := b1.cell (i := 1) (by omega)
  have q2 : ((w1.setCell ⟨B + 1, 0, none⟩ (.int .i64 0)).setCell ⟨B + 1, 1, none⟩ (.slice none 0 0)).cell? ⟨B + 1, 2, none⟩ = some (.slice none 0 0) := b2.cell (i := 2) (by omega)
  have q3 := HR4.out.frozen 0
  have q4 := b1.frozen 1
  have q5 := b2.frozen 2
  clear b1 b2
  go_wp2_with fail
  obtain rfl : FF = Tryz.f43 := HFF.out
  refine bodyPost_ret (results_row2 (k := 2) (m := 3) (t := 80) (b := B + 1) Tryz.results43 rfl rfl (load_nfa (k3_put HR4.out _ _ _))) rfl ?_
  exact HEND.out _ HR4.out HBW4.out HNG.out
end Go.Proofs.YtbepmeipjdpipaaGreat
