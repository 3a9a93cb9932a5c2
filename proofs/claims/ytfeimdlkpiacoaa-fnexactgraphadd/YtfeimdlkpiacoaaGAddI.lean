/-
  impl.GraphAdd.
-/
import Derived.Deep.DeepCutAuto
import Derived.Test.YtfeimdlkpiacoaaGIdx
import Derived.Test.YtfeimdlkpiacoaaGTrI
namespace Go.Proofs.Ytfeimdlkpiacoaa
open Go.RowKit

set_option maxHeartbeats 4000000 in
set_option maxRecDepth 100000 in
theorem graphAdd_any (lo hi : Nat) (s : Int) (a : Option Addr) (n cap : Nat) (l : List Ed) (x : Ed) (w : World) (ha : EdgesIn lo hi w a l) (hh : hi ≤ w.heap.size) (hn : l.length = n) (hm : n ≤ 1048576) :
    Calls Try.prog 16 #[gv s a n cap, ev x] w fun e w' => ∃ (a' : Option Addr) (n' cap' : Nat) (ok : Bool), e = .returned (.tuple #[gv s a' n' cap', .bool ok]) ∧ Hid (ok = gaddOk s l x) ∧ Hid ((gaddL s l x).length = n') ∧ Hid (EdgesOwn w.heap.size w'.heap.size w' a' (gaddL s l x)) ∧ Hid (Below w.heap.size w w') := by
  have HN : Hid (l.length = n) := hn
  have HA : Hid (EdgesIn lo hi w a l) := ha
  have HH : Hid (hi ≤ w.heap.size) := hh
  obtain ⟨r, HS⟩ : ∃ r : Bool, Hid (r = okG s l) := ⟨_, rfl⟩
  obtain ⟨q, HQ⟩ : ∃ q : Bool, Hid (q = decide (x ∈ l)) := ⟨_, rfl⟩
  obtain ⟨r2, HS2⟩ : ∃ r : Bool, Hid (r = okG s (putE l x)) := ⟨_, rfl⟩
  obtain ⟨i0, hi0, hz0, hz1, hz2⟩ := info_parts Try.info37
  clear ha hh hn
  obtain ⟨B, HB⟩ : ∃ B, Hid (B = w.heap.size) := ⟨_, rfl⟩
  have HCON : Hid (∀ w0, Below w.heap.size w w0 → Calls Try.prog 40 #[.slice a n cap, ev x] w0 fun r w' => r = .returned (.bool q) ∧ Hid (Below w0.heap.size w0 w')) := fun w0 h =>
    containsE_any lo hi a n cap l x q w0 (HA.out.below h HH.out) (Nat.le_trans HH.out h.size) HN.out hm HQ.out
  obtain ⟨PL, HPL⟩ : ∃ PL, Hid (PL = putE l x) := ⟨_, rfl⟩
  have HNEW : Hid (okG s l = true → q = false → ∀ L, L.Perm (l ++ [x]) → (L.Pairwise fun x y => ltE y x = false) → L = PL) := by
    intro h1 h2 L h3 h4
    rw [HPL.out]
    exact putE_new (okG_iff.1 h1).2.2.2 (by have := HQ.out; rw [h2] at this; simpa using this) h3 h4
  have HGA : Hid (gaddOk s l x = (r && r2) ∧ (gaddL s l x = if (r && r2) = true then PL else l) ∧ (r = true → q = true → PL = l)) := by
    refine ⟨by unfold gaddOk; rw [HS.out, HS2.out], by unfold gaddL gaddOk; rw [HS.out, HS2.out, HPL.out], fun h1 h2 => ?_⟩
    rw [HPL.out]
    exact putE_had (okG_iff.1 (HS.out ▸ h1)).2.2.2 (by have := HQ.out; rw [h2] at this; simpa using this.symm)
  have HS2' : Hid (r2 = okG s PL) := by rw [HPL.out]; exact HS2
  have HPLN : Hid (PL.length ≤ n + 1) := by rw [HPL.out, ← HN.out]; exact putE_len l x
  clear HPL HS2
  have HAPP : Hid (ecells (l ++ [x]) = ecells l ++ [.int .i64 x.1, .int .u8 x.2.1, .int .i64 x.2.2]) := ecells_snoc l x
  obtain ⟨x0, x1, x2⟩ := x
  go_enter Try.func16, Try.ntmps16
  go_wp2_with fail
  refine (graphOk_any lo hi s a n cap l r _ (HA.out.below (below3 w _ _ _) HH.out) (by have := HH.out; simp; omega) HN.out hm HS.out).mono ?_
  rintro e w1 ⟨rfl, hb1⟩
  have HG_w1 : Hid (Blk w1 B 2 (fun i => if i = 0 then .int .i64 s else .slice a n cap)) := (((blk_two w B HB.out _ _ _).alloc _).alloc _).of_block (hb1.out.block B (by rw [HB.out]; simp only [World.size_alloc]; omega))
  have HX_w1 : Hid (Blk w1 (B + 1) 3 (fun i => if i = 0 then .int .i64 x0 else if i = 1 then .int .u8 x1 else .int .i64 x2)) := ((blk_three _ (B + 1) (by rw [HB.out]; simp) _ _ _ _).alloc _).of_block (hb1.out.block (B + 1) (by rw [HB.out]; simp only [World.size_alloc]; omega))
  have HR_w1 : Hid (Blk w1 (B + 1 + 1) 2 (fun i => if i = 0 then .int .i64 0 else .slice none 0 0)) := (blk_two _ (B + 1 + 1) (by rw [HB.out]; simp) _ _ _).of_block (hb1.out.block (B + 1 + 1) (by rw [HB.out]; simp only [World.size_alloc]; omega))
  have HL_w1 : Hid (Below w.heap.size w w1) := (below3 w _ _ _).trans (hb1.out.mono (by simp; omega))
  clear hb1
  rw [← HB.out]
  rcases Bool.eq_false_or_eq_true r with hs | hs
  · subst hs
    have hn40 : n ≤ 40 := by have := (okG_size HS.out.symm).2.2; rw [HN.out] at this; exact this
    obtain ⟨c0, c1⟩ := blk_pair_cells HG_w1.out
    obtain ⟨d0, d1, d2⟩ := blk_three_set HX_w1.out
    go_wp2_with fail
    refine (HCON.out _ HL_w1.out).mono ?_
    rintro e w2 ⟨rfl, HB2⟩
    have HG_w2 : Hid (Blk w2 B 2 (fun i => if i = 0 then .int .i64 s else .slice a n cap)) := HG_w1.out.of_block (HB2.out.block _ HG_w1.out.lt)
    have HX_w2 : Hid (Blk w2 (B + 1) 3 (fun i => if i = 0 then .int .i64 x0 else if i = 1 then .int .u8 x1 else .int .i64 x2)) := HX_w1.out.of_block (HB2.out.block _ HX_w1.out.lt)
    have HR_w2 : Hid (Blk w2 (B + 1 + 1) 2 (fun i => if i = 0 then .int .i64 0 else .slice none 0 0)) := HR_w1.out.of_block (HB2.out.block _ HR_w1.out.lt)
    have HL_w2 : Hid (Below w.heap.size w w2) := HL_w1.out.trans (HB2.out.mono HL_w1.out.size)
    clear c0 c1 d0 d1 d2 HB2 HG_w1 HX_w1 HR_w1 HL_w1
    rcases Bool.eq_false_or_eq_true q with hq | hq
    · subst hq
      have HPE : Hid (PL = l) := HGA.out.2.2 (by first | rfl | trivial) (by first | rfl | trivial)
      have HR2T : Hid (r2 = true) := by show _ = _; rw [HS2'.out, HPE.out]; exact HS.out.symm
      have HGO : Hid (true = gaddOk s l (x0, x1, x2)) := by show _ = _; rw [HGA.out.1, HR2T.out]; rfl
      have HGL : Hid (gaddL s l (x0, x1, x2) = l) := by show _ = _; rw [HGA.out.2.1, HPE.out]; simp
      obtain ⟨bc0, bc1⟩ := blk_pair_cells HG_w2.out
      go_wp2_with fail
      refine (newGraph_any lo hi s a n cap l w2 (HA.out.below HL_w2.out HH.out) (Nat.le_trans HH.out HL_w2.out.size) HN.out hm).mono ?_
      rintro e w9 ⟨a9, cap9, rfl, HO9, HB9⟩
      have HR9 : Hid (Blk w9 (B + 1 + 1) 2 (fun i => if i = 0 then .int .i64 0 else .slice none 0 0)) := HR_w2.out.of_block (HB9.out.block _ HR_w2.out.lt)
      have HE9 : Hid (EdgesOwn w2.heap.size w9.heap.size w9 a9 l) := own_in HO9.out HN.out
      have HL9 : Hid (Below w.heap.size w w9) := HL_w2.out.trans (HB9.out.mono HL_w2.out.size)
      obtain ⟨r0, r1⟩ := blk_pair_cells HR9.out
      have rf0 := HR9.out.frozen 0
      have rf1 := HR9.out.frozen 1
      have HLT : Hid (B + 1 + 1 < w2.heap.size) := HR_w2.out.lt
      clear bc0 bc1 HO9
      go_wp2
      refine bodyPost_ret (v := .tuple #[.agg #[.int .i64 s, .slice a9 n cap9], .bool true]) (by simp [results, Try.results16, go_sem, r0, r1]) rfl ?_
      refine ⟨a9, n, cap9, true, rfl, HGO.out, by show _ = _; rw [HGL.out]; exact HN.out, ?_, ?_⟩
      · rw [HGL.out]
        have h := ((HE9.out.setCell (b := B + 1 + 1) (j := 0) HLT.out (.int .i64 s)).setCell (b := B + 1 + 1) (j := 1) HLT.out (.slice a9 n cap9))
        exact h.wide HL_w2.out.size (by simp)
      · exact (HL9.out.setCell (by rw [HB.out]; simp; omega) _).setCell (by rw [HB.out]; simp; omega) _
    · subst hq
      obtain ⟨c0, c1⟩ := blk_pair_cells HG_w2.out
      go_wp2_with fail
      refine (newGraph_any lo hi s a n cap l w2 (HA.out.below HL_w2.out HH.out) (Nat.le_trans HH.out HL_w2.out.size) HN.out hm).mono ?_
      rintro e w3 ⟨a3, cap3, rfl, HO3, HB3⟩
      have HG_w3 : Hid (Blk w3 B 2 (fun i => if i = 0 then .int .i64 s else .slice a n cap)) := HG_w2.out.of_block (HB3.out.block _ HG_w2.out.lt)
      have HX_w3 : Hid (Blk w3 (B + 1) 3 (fun i => if i = 0 then .int .i64 x0 else if i = 1 then .int .u8 x1 else .int .i64 x2)) := HX_w2.out.of_block (HB3.out.block _ HX_w2.out.lt)
      have HR_w3 : Hid (Blk w3 (B + 1 + 1) 2 (fun i => if i = 0 then .int .i64 0 else .slice none 0 0)) := HR_w2.out.of_block (HB3.out.block _ HR_w2.out.lt)
      have HL_w3 : Hid (Below w.heap.size w w3) := HL_w2.out.trans (HB3.out.mono HL_w2.out.size)
      have HLO : Hid (B + 1 + 1 < w2.heap.size) := HR_w2.out.lt
      have HS23 : Hid (w2.heap.size ≤ w3.heap.size) := HB3.out.size
      obtain ⟨M, HM⟩ : ∃ M, Hid (M = w2.heap.size) := ⟨_, rfl⟩
      obtain ⟨P, HP⟩ : ∃ P, Hid (P = w3.heap.size) := ⟨_, rfl⟩
      rw [← HM.out] at HO3
      clear c0 c1 HB3 HG_w2 HX_w2 HR_w2 HL_w2
      obtain ⟨W, HW⟩ : ∃ W, Hid (W = w3.alloc (.cells #[.int .i64 s, .slice a3 n cap3] 29)) := ⟨_, rfl⟩
      have HWB : Hid (Below w3.heap.size w3 W) := by rw [HW.out]; exact below1 _ _
      have HPW : Hid (P < W.heap.size) := by rw [HW.out, HP.out]; show _ < _; simp
      have HMP : Hid (B + 1 + 1 < M ∧ M ≤ P) := ⟨by rw [HM.out]; exact HLO.out, by rw [HM.out, HP.out]; exact HS23.out⟩
      have HG_W : Hid (Blk W B 2 (fun i => if i = 0 then .int .i64 s else .slice a n cap)) := HG_w3.out.of_block (HWB.out.block _ HG_w3.out.lt)
      have HX_W : Hid (Blk W (B + 1) 3 (fun i => if i = 0 then .int .i64 x0 else if i = 1 then .int .u8 x1 else .int .i64 x2)) := HX_w3.out.of_block (HWB.out.block _ HX_w3.out.lt)
      have HR_W : Hid (Blk W (B + 1 + 1) 2 (fun i => if i = 0 then .int .i64 0 else .slice none 0 0)) := HR_w3.out.of_block (HWB.out.block _ HR_w3.out.lt)
      have HT_W : Hid (Blk W P 2 (fun i => if i = 0 then .int .i64 s else .slice a3 n cap3)) := by rw [HW.out]; exact blk_two w3 P HP.out _ _ _
      have HL_W : Hid (Below w.heap.size w W) := HL_w3.out.trans (HWB.out.mono HL_w3.out.size)
      have HO_W : Hid (W.ownsRow M 37 3 (.slice a3 n cap3) n (ecells l)) := owns_upto HO3.out (fun k hk => (HO3.out.lt k hk).2) (fun k _ hk => HWB.out.block k hk)
      have HVP : Hid (∀ k, (Value.slice a3 n cap3).ownBlock = some k → M ≤ k ∧ k < P) := fun k hk => by rw [HP.out]; exact HO3.out.lt k hk
      clear HG_w3 HX_w3 HR_w3 HL_w3 HO3 HWB HLO HS23
      obtain ⟨t0, t1⟩ := blk_pair_cells HT_W.out
      obtain ⟨d0, d1, d2⟩ := blk_three_set HX_W.out
      have hown := HO_W.out.alloc (.cells #[.int .i64 x0, .int .u8 x1, .int .i64 x2] 37)
      have hMW : M ≤ W.heap.size := by have := HMP.out; have := HPW.out; omega
      go_upto_region 6 with fail
      rw [← HP.out, ← HW.out]
      clear HW
      go_wp2_with (at_builtin; refine wpList_append_lies _ rfl (.tmp 21) (.tmp 23) 27 rfl M 37 i0 _ 3 24 Try.underlying27 hi0 hz0 hz1 hz2 rfl (by decide) _ n (ecells l) rfl hown ⟨W.heap.size, 0, none⟩ 1 1 [.int .i64 x0, .int .u8 x1, .int .i64 x2] rfl rfl (news_three W _ _ _ _) (by simp [Value.oneCell']) (by decide) (by unfold maxLen; omega) (by omega) (by simp; omega) _ rfl ?_)
      intro g4 cap4 w4 hown4 hgrow4 hloc4 _
      have HO4 : Hid (w4.ownsRow M 37 3 (.slice (some ⟨g4, 0, none⟩) (n + 1) cap4) (n + 1) (ecells (l ++ [(x0, x1, x2)]))) := by rw [HAPP.out]; exact hown4
      have hb4 : Below M (W.alloc (.cells #[.int .i64 x0, .int .u8 x1, .int .i64 x2] 37)) w4 := (Below.refl _ _).grown hgrow4 (by simp; omega) (fun k hk => (HVP.out k hk).1)
      have HB4 : Hid (Below M W w4) := ((Below.refl _ _).alloc hMW _).trans hb4
      have HT_w4 : Hid (Blk w4 P 2 (fun i => if i = 0 then .int .i64 s else .slice a3 n cap3)) := by
        refine (HT_W.out.alloc (.cells #[.int .i64 x0, .int .u8 x1, .int .i64 x2] 37)).of_block (hgrow4.block P (by have := HPW.out; simp; omega) (fun h => ?_))
        have := HVP.out P h.symm
        omega
      have HG_w4 : Hid (Blk w4 B 2 (fun i => if i = 0 then .int .i64 s else .slice a n cap)) := HG_W.out.of_block (HB4.out.block _ (by have := HMP.out; omega))
      have HR_w4 : Hid (Blk w4 (B + 1 + 1) 2 (fun i => if i = 0 then .int .i64 0 else .slice none 0 0)) := HR_W.out.of_block (HB4.out.block _ (by have := HMP.out; omega))
      have HL_w4 : Hid (Below w.heap.size w w4) := HL_W.out.trans (HB4.out.mono (by have := HMP.out; have := HB.out; omega))
      have HGN : Hid (g4 ≠ P) := by
        show _ ≠ _
        rcases hloc4 with h | h
        · have := HVP.out g4 h; omega
        · have := HPW.out; first | omega | (simp at h; omega)
      have HG4 : Hid (M ≤ g4 ∧ g4 < w4.heap.size) := HO4.out.lt g4 rfl
      obtain ⟨u0, u1⟩ := blk_pair_cells HT_w4.out
      have uf1 := HT_w4.out.frozen 1
      clear t0 t1 d0 d1 d2 hown hown4 hgrow4 hloc4 hb4 HB4 HG_W HX_W HR_W HT_W HL_W HO_W HVP
      obtain ⟨V, HV⟩ : ∃ V, Hid (V = w4.setCell ⟨P, 1, none⟩ (.slice (some ⟨g4, 0, none⟩) (n + 1) cap4)) := ⟨_, rfl⟩
      have HKV : Hid (KeptP (fun c => c = P) w4 V) := by rw [HV.out]; exact (KeptP.refl (fun c => c = P) w4).setCell (g := P) rfl _
      have HT_V : Hid (Blk V P 2 (fun i => if i = 0 then .int .i64 s else .slice (some ⟨g4, 0, none⟩) (n + 1) cap4)) := by
        rw [HV.out]; exact (HT_w4.out.set 1 (by omega) _).congr (fun i hi => by rcases (show i = 0 ∨ i = 1 by omega) with rfl | rfl <;> simp)
      have HE_V : Hid (EdgesOwn g4 (g4 + 1) V (some ⟨g4, 0, none⟩) (l ++ [(x0, x1, x2)])) := by
        refine .inr ⟨g4, rfl, Nat.le_refl _, Nat.lt_succ_self _, ?_⟩
        have h := own_in HO4.out (by rw [List.length_append, HN.out]; rfl)
        rcases h with h | ⟨b, e, _, _, h3⟩
        · simp at h
        · simp only [Option.some.injEq, Addr.mk.injEq] at e
          obtain ⟨rfl, _⟩ := e
          exact HKV.out.blk h3 HGN.out
      have HG_V : Hid (Blk V B 2 (fun i => if i = 0 then .int .i64 s else .slice a n cap)) := HKV.out.blk HG_w4.out (by have := HMP.out; omega)
      have HR_V : Hid (Blk V (B + 1 + 1) 2 (fun i => if i = 0 then .int .i64 0 else .slice none 0 0)) := HKV.out.blk HR_w4.out (by have := HMP.out; omega)
      have HL_V : Hid (Below w.heap.size w V) := HL_w4.out.trans (HKV.out.to_below HL_w4.out.size (fun k hk => by have := HMP.out; have := HB.out; omega))
      have HSV : Hid (g4 < V.heap.size ∧ P < V.heap.size) := ⟨Nat.lt_of_lt_of_le HG4.out.2 HKV.out.size, HT_V.out.lt⟩
      obtain ⟨v0, v1⟩ := blk_pair_cells HT_V.out
      go_upto_region 7 with fail
      rw [← HV.out]
      clear HV u0 u1 uf1 HO4 HT_w4 HG_w4 HR_w4 HL_w4 HKV
      go_wp2_with fail
      refine (sortOwn_any g4 (g4 + 1) (n + 1) cap4 (some ⟨g4, 0, none⟩) (l ++ [(x0, x1, x2)]) V HE_V.out HSV.out.1 (by rw [List.length_append, HN.out]; rfl) (by omega)).mono ?_
      rintro e w5 ⟨rfl, L5, HL5, HE5, HK5⟩
      obtain rfl : L5 = PL := HNEW.out HS.out.symm (by first | rfl | trivial) L5 HL5.out.1 HL5.out.2
      have HN5 : Hid (L5.length = n + 1) := by show _ = _; rw [HL5.out.1.length_eq, List.length_append, HN.out]; rfl
      have HT_w5 : Hid (Blk w5 P 2 (fun i => if i = 0 then .int .i64 s else .slice (some ⟨g4, 0, none⟩) (n + 1) cap4)) := HK5.out.blk HT_V.out (by have := HGN.out; omega)
      have HG_w5 : Hid (Blk w5 B 2 (fun i => if i = 0 then .int .i64 s else .slice a n cap)) := HK5.out.blk HG_V.out (by have := HMP.out; have := HG4.out; omega)
      have HR_w5 : Hid (Blk w5 (B + 1 + 1) 2 (fun i => if i = 0 then .int .i64 0 else .slice none 0 0)) := HK5.out.blk HR_V.out (by have := HMP.out; have := HG4.out; omega)
      have HL_w5 : Hid (Below w.heap.size w w5) := HL_V.out.trans (HK5.out.to_below HL_V.out.size (fun k hk => by have := HMP.out; have := HB.out; have := HG4.out; omega))
      have HS5 : Hid (g4 + 1 ≤ w5.heap.size) := Nat.le_trans HSV.out.1 HK5.out.size
      obtain ⟨z0, z1⟩ := blk_pair_cells HT_w5.out
      clear v0 v1 HL5 HK5 HE_V HG_V HR_V HL_V HT_V HSV
      go_wp2_with fail
      refine (graphOk_any g4 (g4 + 1) s (some ⟨g4, 0, none⟩) (n + 1) cap4 L5 r2 w5 HE5.out.toIn HS5.out HN5.out (by omega) HS2'.out).mono ?_
      rintro e w6 ⟨rfl, HB6⟩
      have HT_w6 : Hid (Blk w6 P 2 (fun i => if i = 0 then .int .i64 s else .slice (some ⟨g4, 0, none⟩) (n + 1) cap4)) := HT_w5.out.of_block (HB6.out.block _ HT_w5.out.lt)
      have HG_w6 : Hid (Blk w6 B 2 (fun i => if i = 0 then .int .i64 s else .slice a n cap)) := HG_w5.out.of_block (HB6.out.block _ HG_w5.out.lt)
      have HR_w6 : Hid (Blk w6 (B + 1 + 1) 2 (fun i => if i = 0 then .int .i64 0 else .slice none 0 0)) := HR_w5.out.of_block (HB6.out.block _ HR_w5.out.lt)
      have HL_w6 : Hid (Below w.heap.size w w6) := HL_w5.out.trans (HB6.out.mono HL_w5.out.size)
      have HE_w6 : Hid (EdgesOwn g4 (g4 + 1) w6 (some ⟨g4, 0, none⟩) L5) := HE5.out.below HB6.out HS5.out
      have HS6 : Hid (g4 + 1 ≤ w6.heap.size) := Nat.le_trans HS5.out HB6.out.size
      clear z0 z1 HB6 HT_w5 HG_w5 HR_w5 HL_w5 HE5 HS5
      rcases Bool.eq_false_or_eq_true r2 with h2 | h2
      · subst h2
        have HGO : Hid (true = gaddOk s l (x0, x1, x2)) := by show _ = _; rw [HGA.out.1]; rfl
        have HGL : Hid (gaddL s l (x0, x1, x2) = L5) := by show _ = _; rw [HGA.out.2.1]; rfl
        obtain ⟨z0, z1⟩ := blk_pair_cells HT_w6.out
        obtain ⟨r0, r1⟩ := blk_pair_cells HR_w6.out
        have rf0 := HR_w6.out.frozen 0
        have rf1 := HR_w6.out.frozen 1
        have hne : B + 1 + 1 ≠ P := by have := HMP.out; omega
        have HLT : Hid (B + 1 + 1 < g4) := by have := HMP.out; have := HG4.out; show _ < _; omega
        go_wp2
        refine bodyPost_ret (v := .tuple #[.agg #[.int .i64 s, .slice (some ⟨g4, 0, none⟩) (n + 1) cap4], .bool true]) (by simp [results, Try.results16, go_sem, r0, r1]) rfl ?_
        refine ⟨some ⟨g4, 0, none⟩, n + 1, cap4, true, rfl, HGO.out, by show _ = _; rw [HGL.out]; exact HN5.out, ?_, ?_⟩
        · rw [HGL.out]
          have h := ((HE_w6.out.setCell (b := B + 1 + 1) (j := 0) HLT.out (.int .i64 s)).setCell (b := B + 1 + 1) (j := 1) HLT.out (.slice (some ⟨g4, 0, none⟩) (n + 1) cap4))
          exact h.wide (by have := HB.out; have := HLT.out; omega) (by simpa using HS6.out)
        · exact (HL_w6.out.setCell (by rw [HB.out]; simp; omega) _).setCell (by rw [HB.out]; simp; omega) _
      · subst h2
        have HGO : Hid (false = gaddOk s l (x0, x1, x2)) := by show _ = _; rw [HGA.out.1]; rfl
        have HGL : Hid (gaddL s l (x0, x1, x2) = l) := by show _ = _; rw [HGA.out.2.1]; rfl
        obtain ⟨bc0, bc1⟩ := blk_pair_cells HG_w6.out
        go_wp2_with fail
        refine (newGraph_any lo hi s a n cap l w6 (HA.out.below HL_w6.out HH.out) (Nat.le_trans HH.out HL_w6.out.size) HN.out hm).mono ?_
        rintro e w9 ⟨a9, cap9, rfl, HO9, HB9⟩
        have HR9 : Hid (Blk w9 (B + 1 + 1) 2 (fun i => if i = 0 then .int .i64 0 else .slice none 0 0)) := HR_w6.out.of_block (HB9.out.block _ HR_w6.out.lt)
        have HE9 : Hid (EdgesOwn w6.heap.size w9.heap.size w9 a9 l) := own_in HO9.out HN.out
        have HL9 : Hid (Below w.heap.size w w9) := HL_w6.out.trans (HB9.out.mono HL_w6.out.size)
        obtain ⟨r0, r1⟩ := blk_pair_cells HR9.out
        have rf0 := HR9.out.frozen 0
        have rf1 := HR9.out.frozen 1
        have HLT : Hid (B + 1 + 1 < w6.heap.size) := HR_w6.out.lt
        clear bc0 bc1 HO9
        go_wp2
        refine bodyPost_ret (v := .tuple #[.agg #[.int .i64 s, .slice a9 n cap9], .bool false]) (by simp [results, Try.results16, go_sem, r0, r1]) rfl ?_
        refine ⟨a9, n, cap9, false, rfl, HGO.out, by show _ = _; rw [HGL.out]; exact HN.out, ?_, ?_⟩
        · rw [HGL.out]
          have h := ((HE9.out.setCell (b := B + 1 + 1) (j := 0) HLT.out (.int .i64 s)).setCell (b := B + 1 + 1) (j := 1) HLT.out (.slice a9 n cap9))
          exact h.wide HL_w6.out.size (by simp)
        · exact (HL9.out.setCell (by rw [HB.out]; simp; omega) _).setCell (by rw [HB.out]; simp; omega) _
  · subst hs
    have HGO : Hid (false = gaddOk s l (x0, x1, x2)) := by show _ = _; rw [HGA.out.1]; rfl
    have HGL : Hid (gaddL s l (x0, x1, x2) = l) := by show _ = _; rw [HGA.out.2.1]; rfl
    obtain ⟨bc0, bc1⟩ := blk_pair_cells HG_w1.out
    go_wp2_with fail
    refine (newGraph_any lo hi s a n cap l w1 (HA.out.below HL_w1.out HH.out) (Nat.le_trans HH.out HL_w1.out.size) HN.out hm).mono ?_
    rintro e w9 ⟨a9, cap9, rfl, HO9, HB9⟩
    have HR9 : Hid (Blk w9 (B + 1 + 1) 2 (fun i => if i = 0 then .int .i64 0 else .slice none 0 0)) := HR_w1.out.of_block (HB9.out.block _ HR_w1.out.lt)
    have HE9 : Hid (EdgesOwn w1.heap.size w9.heap.size w9 a9 l) := own_in HO9.out HN.out
    have HL9 : Hid (Below w.heap.size w w9) := HL_w1.out.trans (HB9.out.mono HL_w1.out.size)
    obtain ⟨r0, r1⟩ := blk_pair_cells HR9.out
    have rf0 := HR9.out.frozen 0
    have rf1 := HR9.out.frozen 1
    have HLT : Hid (B + 1 + 1 < w1.heap.size) := HR_w1.out.lt
    clear bc0 bc1 HO9
    go_wp2
    refine bodyPost_ret (v := .tuple #[.agg #[.int .i64 s, .slice a9 n cap9], .bool false]) (by simp [results, Try.results16, go_sem, r0, r1]) rfl ?_
    refine ⟨a9, n, cap9, false, rfl, HGO.out, by show _ = _; rw [HGL.out]; exact HN.out, ?_, ?_⟩
    · rw [HGL.out]
      have h := ((HE9.out.setCell (b := B + 1 + 1) (j := 0) HLT.out (.int .i64 s)).setCell (b := B + 1 + 1) (j := 1) HLT.out (.slice a9 n cap9))
      exact h.wide HL_w1.out.size (by simp)
    · exact (HL9.out.setCell (by rw [HB.out]; simp; omega) _).setCell (by rw [HB.out]; simp; omega) _
end Go.Proofs.Ytfeimdlkpiacoaa
