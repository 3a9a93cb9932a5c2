/-
  The model's l06Full.
-/
import Derived.Test.YtdbogikcmfnpdaaFuA
import Derived.Test.YtdbogikcmfnpdaaGOk
namespace Go.Proofs.Ytdbogikcmfnpdaa
open Go.RowKit

theorem foldTake {α : Type} (f : α → Int → α) (a : α) {ks : List Int} {m : Nat} (hm : m < ks.length) : (ks.take (m + 1)).foldl f a = f ((ks.take m).foldl f a) (ks.getD m 0) := by
  rw [take_snocI ks hm, List.foldl_append]; rfl
theorem row_one {n : Nat} {all : List Rl} {ks : List Int} (h : 0 < ks.length) : rowR n all (ks.take 1) = getR all (ks.getD 0 0) := by
  match ks, h with
  | k :: r, _ => rfl
theorem row_more {n : Nat} {all : List Rl} {ks : List Int} {j : Nat} (h1 : 1 ≤ j) (h : j < ks.length) : rowR n all (ks.take (j + 1)) = behR n (rowR n all (ks.take j)) (getR all (ks.getD j 0)) := by
  match ks, j, h1, h with
  | k :: r, i + 1, _, h => exact foldTake _ _ (by simpa using h)
theorem kid_lt {ks : List Int} {m : Nat} {k : Nat} (h : kidsOk k ks = true) (hm : m < ks.length) : 0 ≤ ks.getD m 0 ∧ ks.getD m 0 < (k : Int) := by
  have := List.all_eq_true.1 h (ks.getD m 0) (by simp [List.getD, hm])
  simpa using this
theorem or_bm (p q n N2 c1 c2 : Nat) (R S : Rl) (w : World) (hN : N2 = n * n) (hp : BM w p n R) (hq : BM w q n S) (hne : p ≠ q) (hn : n ≤ 13) :
    Calls Try.prog 68 #[.slice (some ⟨p, 0, none⟩) N2 c1, .slice (some ⟨q, 0, none⟩) N2 c2] w fun e w' => e = .returned (.tuple #[]) ∧ Hid (BM w' p n (orR R S)) ∧ Hid (KeptP (fun c => c = p) w w') := by
  subst hN
  refine (l06Or_any p q (n * n) c1 c2 _ _ w hp hq hne (Nat.le_trans (nn_le13 hn) (by omega))).mono ?_
  rintro e w' ⟨rfl, h1, h2⟩
  exact ⟨rfl, h1, h2⟩
theorem beh_bm (p q n N2 c1 c2 : Nat) (A B : Rl) (w : World) (hN : N2 = n * n) (hp : BM w p n A) (hq : BM w q n B) (hn : n ≤ 13) :
    Calls Try.prog 67 #[.slice (some ⟨p, 0, none⟩) N2 c1, .slice (some ⟨q, 0, none⟩) N2 c2, .int .i64 (n : Int)] w fun e w' => ∃ g : Nat, e = .returned (.slice (some ⟨g, 0, none⟩) N2 N2) ∧ Hid (g = w.heap.size) ∧ Hid (BM w' g n (behR n A B)) ∧ Hid (Below w.heap.size w w') := by
  subst hN
  exact l06Behind_any p q n c1 c2 A B w hp hq hn

set_option maxHeartbeats 600000 in
set_option maxRecDepth 100000 in
theorem l06Full_of (lo hi : Nat) (NN : Nat) (a : Option Addr) (n cap : Nat) (l : List Ed) (lo2 hi2 : Nat) (b : Option Addr) (m mc : Nat) (ps : List Pc) (w : World) (ha : EdgesIn lo hi w a l) (hh : hi ≤ w.heap.size) (hn : l.length = n) (hm : n ≤ 1048576)
    (hb : PathIn lo2 hi2 w b ps) (hh2 : hi2 ≤ w.heap.size) (hn2 : ps.length = m) (hm2 : m ≤ 60) (hq : ∀ i, i < m → (pat ps i).2.2.length ≤ 1048576) (hNN : 1 ≤ NN ∧ NN ≤ 13) (hed : ∀ e ∈ l, okE (NN : Int) e = true) (hokp : ∀ k, k < m → formOk (pat ps k) = true ∧ kidsOk k (pat ps k).2.2 = true) :
    Calls Try.prog 47 #[gv (NN : Int) a n cap, pv b m mc] w fun e w' => ∃ v, e = .returned v ∧ Hid (AllIn w.heap.size NN w' v m (relTo NN l ps m)) ∧ Hid (Below w.heap.size w w') := by
  have HN : Hid (l.length = n) := hn
  have HA : Hid (EdgesIn lo hi w a l) := ha
  have HH : Hid (hi ≤ w.heap.size) := hh
  have HP : Hid (PathIn lo2 hi2 w b ps) := hb
  have HH2 : Hid (hi2 ≤ w.heap.size) := hh2
  have HN2 : Hid (ps.length = m) := hn2
  have HQ : Hid (∀ i, i < m → (pat ps i).2.2.length ≤ 1048576) := hq
  have HED : Hid (∀ e ∈ l, okE (NN : Int) e = true) := hed
  have HN1 : Hid (1 ≤ NN) := hNN.1
  have HOP : Hid (∀ k, k < m → formOk (pat ps k) = true ∧ kidsOk k (pat ps k).2.2 = true) := hokp
  have hN12 : NN ≤ 13 := hNN.2
  clear ha hh hn hb hh2 hn2 hq hed hNN hokp
  obtain ⟨i0, hi0, hz0, hz1, hz2⟩ := info_parts Try.info4
  obtain ⟨i1, hi1, hy0, hy1, hy2⟩ := info_parts Try.info81
  obtain ⟨N2, HNN⟩ : ∃ m, Hid (m = NN * NN) := ⟨_, rfl⟩
  have hnn1 : N2 ≤ 169 := by rw [HNN.out]; exact nn_le13 hN12
  have hnn : (NN : Int) * (NN : Int) = (N2 : Int) := by rw [HNN.out]; exact nn_int
  obtain ⟨B, HB⟩ : ∃ B, Hid (B = w.heap.size) := ⟨_, rfl⟩
  obtain ⟨W, HW⟩ : ∃ W, Hid (W = (w.alloc (.cells #[.int .i64 (NN : Int), .slice a n cap] 26)).alloc (.cells #[.slice b m mc] 36)) := ⟨_, rfl⟩
  have HBW : Hid (Below w.heap.size w W) := by rw [HW.out]; exact below2 w _ _
  have HSW : Hid (W.heap.size = B + 2) := by rw [HW.out, HB.out]; show _ = _; simp
  have HG : Hid (Blk W B 2 (fun i => if i = 0 then .int .i64 (NN : Int) else .slice a n cap)) := by rw [HW.out]; exact (blk_two w B HB.out _ _ _).alloc _
  have HPB : Hid (Blk W (B + 1) 1 (fun _ => .slice b m mc)) := by rw [HW.out]; exact blk_one _ (B + 1) (by rw [HB.out]; simp) _ _
  have q0 := HPB.out.cell (i := 0) (by omega)
  obtain ⟨g0, g1⟩ := blk_pair_cells HG.out
  unfold pv
  go_enter Try.func47, Try.ntmps47
  go_upto_region 1 with fail
  rw [← HB.out, ← HW.out]
  clear HW
  go_upto_region 3 with fail
  rw [HSW.out]
  clear q0 g0 g1
  go_wp2
  go_loopw [7, 6] (fun i v wr => ∃ k : Nat, i = .int .i64 k ∧ k ≤ m ∧ Hid (AllIn (B + 2) NN wr v k (relTo NN l ps k)) ∧ Hid (Below (B + 2) W wr)) (fun i _ _ => m - (intOf i).toNat)
  case atStart =>
    refine ⟨0, rfl, by omega, AllIn.nil ?_, ?_⟩
    · have := World.ownsRow_made W (base := B + 2) (e := 81) (size := 1) #[] 0 (by rw [HSW.out]; exact Nat.le_refl _) (Nat.zero_le _) rfl
      simpa [HSW.out] using this
    · exact (Below.refl _ _).alloc (by rw [HSW.out]; exact Nat.le_refl _) _
  case round =>
    obtain ⟨V, rfl⟩ : ∃ V, V = wr := ⟨_, rfl⟩
    obtain ⟨k, rfl, hk, HAL, HL⟩ := hrel
    have HLM : Hid (Below W.heap.size W V) := by rw [HSW.out]; exact HL.out
    have hszr : B + 2 ≤ V.heap.size := by rw [← HSW.out]; exact HLM.out.size
    have HBER : Hid (Below w.heap.size w V) := HBW.out.trans (HLM.out.mono HBW.out.size)
    have HGR : Hid (Blk V B 2 (fun i => if i = 0 then .int .i64 (NN : Int) else .slice a n cap)) := HG.out.of_block (HLM.out.block _ HG.out.lt)
    have HPR : Hid (Blk V (B + 1) 1 (fun _ => .slice b m mc)) := HPB.out.of_block (HLM.out.block _ HPB.out.lt)
    have q0 := HPR.out.cell (i := 0) (by omega)
    by_cases hlt : k < m
    · have hlt1 : (k : Int) < (m : Int) := by omega
      have hlt0 : (0 : Int) ≤ (k : Int) := by omega
      obtain ⟨pb, po, rfl, _, _, hx⟩ := (HP.out.below HBER.out HH2.out).piece (k := k) (by rw [HN2.out]; exact hlt)
      obtain ⟨hf, hko⟩ := HOP.out k hlt
      have hqk := HQ.out k hlt
      have HREL : Hid (relTo NN l ps (k + 1) = relTo NN l ps k ++ [pcR NN l (relTo NN l ps k) (pat ps k)]) := rfl
      obtain ⟨z, HZ⟩ : ∃ z : Pc, Hid (z = pat ps k) := ⟨_, rfl⟩
      rw [← HZ.out] at hx hf hko hqk HREL
      obtain ⟨x, y, ks⟩ := z
      obtain ⟨p0, p1, ra, rc, p2, hrow⟩ := hx
      dsimp only at p0 p1 p2 hrow hqk hko
      obtain ⟨q, HKL⟩ : ∃ q, Hid (ks.length = q) := ⟨_, rfl⟩
      rw [HKL.out] at p2 hqk
      have HFO : Hid (formOk (x, y, ks) = true) := hf
      have HKO : Hid (kidsOk k ks = true) := hko
      obtain ⟨E, HEE⟩ : ∃ E, Hid (E = V.heap.size) := ⟨_, rfl⟩
      obtain ⟨W1, HW1⟩ : ∃ W1, Hid (W1 = V.alloc (.cells #[.int .i64 x, .int .u8 y, .slice ra q rc] 112)) := ⟨_, rfl⟩
      have HWB : Hid (Below V.heap.size V W1) := by rw [HW1.out]; exact below1 _ _
      have HBX : Hid (Blk W1 E 3 (fun i => if i = 0 then .int .i64 x else if i = 1 then .int .u8 y else .slice ra q rc)) := by rw [HW1.out]; exact blk_three V E HEE.out _ _ _ _
      have HS1 : Hid (W1.heap.size = E + 1) := by rw [HW1.out, HEE.out]; show _ = _; simp
      have HRW : Hid (RowIn lo2 hi2 V ra ks) := hrow
      clear hf hko hrow
      go_upto_region 7 with fail
      rw [← HEE.out, ← HW1.out]
      clear p0 p1 p2 q0 HW1
      go_upto_region 8 with (at_make; refine wpList_make_full _ rfl _ _ 81 rfl W1.heap.size 4 i0 (.bool false) 1 Try.underlying81 hi0 hz0 hz1 .i64 .i64 _ _ N2 rfl rfl (by first | rfl | omega) (by first | rfl | omega) (by rw [hz2]; omega) (by unfold maxLen; omega) (Nat.le_refl _) ?_; intro w2 hown hgrow)
      -- HEAD END
      obtain ⟨D, HD⟩ : ∃ D, Hid (D = E + 1) := ⟨_, rfl⟩
      have HB2 : Hid (Below W1.heap.size W1 w2) := (Below.refl _ _).grown hgrow (Nat.le_refl _) (fun k hk => nomatch hk)
      have HO2 : Hid (BM w2 D NN noR) := by
        rw [HD.out, ← HS1.out]
        have := blk_own hown
        rw [Nat.mul_one, HNN.out] at this
        refine Blk.congr this fun i hi => ?_
        show (madeCells #[Value.bool false] (NN * NN)).toList.getD i _ = _
        rw [toList_madeCells_one]
        simp [List.getD, hi, noR]
      rw [HS1.out, ← HD.out]
      have HX2 : Hid (Blk w2 E 3 (fun i => if i = 0 then .int .i64 x else if i = 1 then .int .u8 y else .slice ra q rc)) := HBX.out.of_block (HB2.out.block _ HBX.out.lt)
      have HBE2 : Hid (Below E V w2) := by rw [HEE.out]; exact HWB.out.trans (HB2.out.mono HWB.out.size)
      clear hown hgrow HB2 HBX HWB
      obtain ⟨q0, q1, q2⟩ := blk_three_set HX2.out
      go_upto_block 2 with fail
      go_cut [9] (fun v wc => ∃ g c, v = .slice (some ⟨g, 0, none⟩) N2 c ∧ Hid (E ≤ g) ∧ Hid (BM wc g NN (pcR NN l (relTo NN l ps k) (x, y, ks))) ∧ Hid (Below E V wc))
      case first =>
        rcases formOk_cases HFO.out with ⟨rfl, h3, h4⟩ | ⟨rfl, rfl, h4⟩ | ⟨rfl, rfl, h4⟩ | ⟨rfl, rfl, h4⟩ | ⟨rfl, rfl, h4⟩ | ⟨rfl, rfl, h4⟩
        · obtain rfl : q = 0 := by have := HKL.out; omega
          clear q0 q1 q2
          obtain ⟨q0, q1, q2⟩ := blk_three_set HX2.out
          have hna : n ≤ 1048576 := hm
          go_wp2
          go_loopw [10] (fun i wr => ∃ j : Nat, i = .int .i64 j ∧ j ≤ n ∧ Hid (BM wr D NN (stepR (l.take j) y)) ∧ Hid (KeptP (fun c => c = D) w2 wr)) (fun i _ => n - (intOf i).toNat)
          case atStart => exact ⟨0, rfl, by omega, HO2.out.congr (fun i j _ _ => by simp [stepR, noR]), KeptP.refl _ _⟩
          case round =>
            obtain ⟨j, rfl, hj, HBJ, HLJ⟩ := hrel
            have HXJ : Hid (Blk wr E 3 (fun i => if i = 0 then .int .i64 1 else if i = 1 then .int .u8 y else .slice ra 0 rc)) := HX2.out.of_block (HLJ.out.block _ HX2.out.lt (by have := HD.out; omega))
            have HBEJ : Hid (Below E V wr) := HBE2.out.trans (HLJ.out.to_below (by rw [HEE.out]; exact HBE2.out.size) (fun c hc => by have := HD.out; omega))
            have HGJ : Hid (Blk wr B 2 (fun i => if i = 0 then .int .i64 (NN : Int) else .slice a n cap)) := HGR.out.of_block (HBEJ.out.block _ (by have := HGR.out.lt; have := HEE.out; omega))
            clear q0 q1 q2
            obtain ⟨q0, q1, q2⟩ := blk_three_set HXJ.out
            obtain ⟨g0, g1⟩ := blk_pair_cells HGJ.out
            by_cases hjn : j < n
            · have hjn1 : (j : Int) < (n : Int) := by omega
              have hjn0 : (0 : Int) ≤ (j : Int) := by omega
              have hjl : j < l.length := by rw [HN.out]; exact hjn
              obtain ⟨eb, eo, rfl, _, _, hed⟩ := (HA.out.below (HBER.out.trans (HBEJ.out.mono (by have := HBER.out.size; have := HEE.out; omega))) HH.out).edge (k := j) hjl
              have hoe2 : okE (NN : Int) (eat l j) = true := HED.out _ (by rw [eat_get hjl]; exact List.getElem_mem hjl)
              unfold okE inV at hoe2
              simp only [Bool.and_eq_true, decide_eq_true_eq] at hoe2
              have HTK : Hid (l.take (j + 1) = l.take j ++ [eat l j]) := take_snocE l hjl
              obtain ⟨z, HZE⟩ : ∃ z : Ed, Hid (z = eat l j) := ⟨_, rfl⟩
              rw [← HZE.out] at hed hoe2 HTK
              obtain ⟨zf, zl, zt⟩ := z
              obtain ⟨e0, e1, e2⟩ := hed
              dsimp only at e0 e1 e2 hoe2
              obtain ⟨f, rfl⟩ : ∃ f : Nat, zf = (f : Int) := ⟨zf.toNat, by omega⟩
              obtain ⟨t, rfl⟩ : ∃ t : Nat, zt = (t : Int) := ⟨zt.toNat, by omega⟩
              have hf1 : f < NN := by omega
              have ht1 : t < NN := by omega
              obtain ⟨Qf, HQf⟩ : ∃ k, Hid (k = f * NN) := ⟨_, rfl⟩
              have hqf : (f : Int) * (NN : Int) = (Qf : Int) := by rw [HQf.out]; simp
              have hb1 : Qf + t < N2 := by rw [HQf.out, HNN.out]; exact idx_lt hf1 ht1
              have HST : Hid (∀ i k, stepR (l.take (j + 1)) y i k = (stepR (l.take j) y i k || decide (((f : Int), zl, (t : Int)) = ((i : Int), y, (k : Int))))) := by intro i k; rw [HTK.out]; exact stepR_snoc _ _ _ _ _
              clear hoe2 HZE
              by_cases hzy : zl = y
              · subst hzy
                have hco := HBJ.out.get hf1 ht1
                have hcf := HBJ.out.frozen (f * NN + t)
                rw [← HQf.out] at hcf hco
                have HPUT : Hid (∀ wx : World, wx.heap = wr.heap → BM (wx.setCell ⟨D, Qf + t, none⟩ (.bool true)) D NN (stepR (l.take (j + 1)) zl)) := by
                  intro wx hwx
                  rw [HQf.out]
                  refine ((HBJ.out.of (by rw [hwx])).put hf1 ht1 true).congr fun i k _ _ => ?_
                  rw [HST.out]
                  by_cases e1 : i = f ∧ k = t
                  · obtain ⟨rfl, rfl⟩ := e1; simp
                  · rw [if_neg e1]
                    have : ¬ (((f : Int), zl, (t : Int)) = ((i : Int), zl, (k : Int))) := by
                      intro e
                      simp only [Prod.mk.injEq, true_and] at e
                      exact e1 ⟨by omega, by omega⟩
                    simp [this]
                go_wp2_with fail
                go_quiet (fail)
                go_wp2_with fail
                go_region
                go_wp2
                go_roundw
                case rel => exact ⟨j + 1, by go_num, by omega, HPUT.out _ rfl, KeptP.setCell (HLJ.out.trans (KeptP.of_below (below_drewN (Below.refl _ _) _) (fun k hk _ => hk))) rfl _⟩
                case measure => simp [intOf]; omega
              · have HSE : Hid (∀ i k, stepR (l.take (j + 1)) y i k = stepR (l.take j) y i k) := by
                  intro i k
                  rw [HST.out]
                  have : ¬ (((f : Int), zl, (t : Int)) = ((i : Int), y, (k : Int))) := by
                    intro e
                    simp only [Prod.mk.injEq] at e
                    exact hzy e.2.1
                  simp [this]
                go_wp2_with fail
                go_quiet (fail)
                go_wp2
                go_roundw
                case rel => exact ⟨j + 1, by go_num, by omega, (HBJ.out.of rfl).congr (fun i k _ _ => (HSE.out i k).symm), HLJ.out.trans (KeptP.of_below (below_drewN (Below.refl _ _) _) (fun k hk _ => hk))⟩
                case measure => simp [intOf]; omega
            · obtain rfl : j = n := by omega
              have HTA : Hid (l.take j = l) := by show _ = _; rw [← HN.out]; exact List.take_length
              rw [HTA.out] at HBJ
              go_wp2
              go_meet
              case rel => exact ⟨D, _, rfl, by have := HD.out; show _ ≤ _; omega, HBJ, HBEJ⟩
        · have hq2 : 2 ≤ q := by have := HKL.out; omega
          have hq2i : (0 : Int) < (q : Int) := by omega
          clear q0 q1 q2
          have hn1 : 1 ≤ NN := HN1.out
          have hN2p : 0 < N2 := by rw [HNN.out]; exact Nat.mul_pos hn1 hn1
          have hsz2 : E ≤ w2.heap.size := by rw [HEE.out]; exact HBE2.out.size
          obtain ⟨q0, q1, q2⟩ := blk_three_set (HX2.out.alloc (.cells #[] 4))
          have hz := kid_lt HKO.out (m := 0) (by rw [HKL.out]; omega)
          obtain ⟨kd, hkd⟩ : ∃ kd : Nat, ks.getD 0 0 = (kd : Int) := ⟨(ks.getD 0 0).toNat, by omega⟩
          have hkk : kd < k := by omega
          have hkk1 : (kd : Int) < (k : Int) := by omega
          have hkk0 : (0 : Int) ≤ (kd : Int) := by omega
          have HR2 : Hid (RowIn lo2 hi2 w2 ra ks) := HRW.out.below (HBE2.out.mono (Nat.le_of_eq HEE.out.symm)) (Nat.le_trans HH2.out HBER.out.size)
          obtain ⟨rb, ro, rfl, hrc⟩ := HR2.out.num (i := 0) (by rw [HKL.out]; omega)
          rw [hkd, Nat.add_zero] at hrc
          have hrc2 := cell_below hrc (below1 w2 (.cells #[] 4)) (lt_of_cell hrc)
          obtain ⟨gl, cl, pk, ck, rfl, hgl, hcl, hbk⟩ := HAL.out.at hkk
          have hcl2 := cell_below hcl HBE2.out (by rw [HEE.out]; exact hgl)
          rw [← HNN.out] at hcl2
          have hcl3 := cell_below hcl2 (below1 w2 (.cells #[] 4)) (lt_of_cell hcl2)
          obtain ⟨K0, HK0⟩ : ∃ K, Hid (K = getR (relTo NN l ps k) (kd : Int)) := ⟨_, rfl⟩
          have HBK : Hid (BM w2 pk NN K0) := by rw [HK0.out]; exact hbk.of (HBE2.out.block _ (by rw [HEE.out]; exact hbk.lt))
          have HST0 : Hid (rowR NN (relTo NN l ps k) (ks.take 1) = K0) := by
            rw [HK0.out, ← hkd]
            exact row_one (by have := HKL.out; omega)
          obtain ⟨TL, HTL⟩ : ∃ t, Hid (t = (List.range N2).map fun i => Value.bool (K0 (i / NN) (i % NN))) := ⟨_, rfl⟩
          have hTL : TL.length = N2 * 1 := by rw [HTL.out]; simp
          have hown := World.ownsRow_made w2 (base := E) (e := 4) (size := 1) #[] 0 hsz2 (Nat.zero_le _) rfl
          have HNEW : Hid (∀ j u, TL[j]? = some u → (w2.alloc (.cells #[] 4)).cell? ((⟨pk, 0, none⟩ : Addr).add j) = some u) := by
            intro j u hu
            have hj : j < N2 := by have := (List.getElem?_eq_some_iff.1 hu).1; omega
            rw [HTL.out] at hu
            simp [hj] at hu
            rw [Addr.add_mid, Nat.zero_add, ← hu]
            exact TBlk.get (HBK.out.of (Below.heap_alloc w2 _ _ HBK.out.lt)) (by rw [← HNN.out]; exact hj)
          clear hcl hbk hz hrc hcl2
          go_wp2_with (at_builtin; refine wpList_append_lies _ rfl (.tmp 121) (.tmp 128) 81 rfl E 4 i0 (.bool false) 1 1 Try.underlying81 hi0 hz0 hz1 hz2 rfl (by decide) _ 0 [] rfl hown ⟨pk, 0, none⟩ N2 ck TL rfl hTL HNEW.out (by rw [HTL.out]; simp [Value.oneCell']) hN2p (by unfold maxLen; omega) (by omega) (by simp; omega) _ rfl ?_)
          intro g5 cap5 w6 hown5 hgrow5 hloc5 _
          have HE5 : Hid (E ≤ g5) := by rcases hloc5 with h | h; · simp [Value.ownBlock] at h; show _ ≤ _; omega
                                        · show _ ≤ _; omega
          have HB5 : Hid (BM w6 g5 NN K0) := by
            have := blk_own hown5
            rw [Nat.mul_one] at this
            show TBlk _ _ _ _
            rw [← HNN.out]
            refine Blk.congr this fun i hi => ?_
            rw [HTL.out]; simp [List.getD, hi]
          have HBE5 : Hid (Below E V w6) := (HBE2.out.alloc hsz2 _).grown hgrow5 (by simp; omega) (fun k hk => by simp [Value.ownBlock] at hk; omega)
          have HX6 : Hid (Blk w6 E 3 (fun i => if i = 0 then .int .i64 2 else if i = 1 then .int .u8 0 else .slice (some ⟨rb, ro, none⟩) q rc)) := (HX2.out.alloc _).of_block (hgrow5.block E (HX2.out.alloc (.cells #[] 4)).lt (by have := HX2.out.lt; simp [Value.ownBlock]; omega))
          clear hown hown5 hgrow5 hloc5 HNEW q0 q1 q2 hrc2 hcl3 hkd hkk hkk1 hkk0
          go_wp2
          go_loopw [11, 9] (fun i v wr => ∃ (j g c : Nat), i = .int .i64 j ∧ 1 ≤ j ∧ j ≤ q ∧ v = .slice (some ⟨g, 0, none⟩) N2 c ∧ Hid (E ≤ g) ∧ Hid (BM wr g NN (rowR NN (relTo NN l ps k) (ks.take j))) ∧ Hid (Below E V wr) ∧ Hid (Blk wr E 3 (fun i => if i = 0 then .int .i64 2 else if i = 1 then .int .u8 0 else .slice (some ⟨rb, ro, none⟩) q rc))) (fun i _ _ => q - (intOf i).toNat)
          case atStart => exact ⟨1, g5, cap5, rfl, by omega, by omega, rfl, HE5, by rw [HST0.out]; exact HB5, HBE5, HX6⟩
          case round =>
            obtain ⟨j, g, c, rfl, hj1, hj, rfl, HEJ, HBJ, HBEJ, HXJ⟩ := hrel
            obtain ⟨q0, q1, q2⟩ := blk_three_set HXJ.out
            by_cases hjq : j < q
            · have hjq1 : (j : Int) < (q : Int) := by omega
              have hjq0 : (0 : Int) ≤ (j : Int) := by omega
              have hz := kid_lt HKO.out (m := j) (by rw [HKL.out]; omega)
              obtain ⟨kd, hkd⟩ : ∃ kd : Nat, ks.getD j 0 = (kd : Int) := ⟨(ks.getD j 0).toNat, by omega⟩
              have hkk : kd < k := by omega
              have hkk1 : (kd : Int) < (k : Int) := by omega
              have hkk0 : (0 : Int) ≤ (kd : Int) := by omega
              obtain ⟨rb2, ro2, e2, hrc⟩ := ((HRW.out.below (HBEJ.out.mono (Nat.le_of_eq HEE.out.symm)) (Nat.le_trans HH2.out HBER.out.size))).num (i := j) (by rw [HKL.out]; exact hjq)
              simp only [Option.some.injEq, Addr.mk.injEq, and_true] at e2
              obtain ⟨rfl, rfl⟩ := e2
              rw [hkd] at hrc
              obtain ⟨gl2, cl2, pk2, ck2, e3, hgl2, hcl, hbk⟩ := HAL.out.at hkk
              simp only [Value.slice.injEq, Option.some.injEq, Addr.mk.injEq, and_true, true_and] at e3
              obtain ⟨rfl, rfl⟩ := e3
              have hcl2 := cell_below hcl HBEJ.out (by rw [HEE.out]; exact hgl2)
              rw [← HNN.out] at hcl2
              have HBK2 : Hid (BM wr pk2 NN (getR (relTo NN l ps k) (kd : Int))) := hbk.of (HBEJ.out.block _ (by rw [HEE.out]; exact hbk.lt))
              have HST : Hid (rowR NN (relTo NN l ps k) (ks.take (j + 1)) = behR NN (rowR NN (relTo NN l ps k) (ks.take j)) (getR (relTo NN l ps k) (kd : Int))) := by rw [← hkd]; exact row_more hj1 (by rw [HKL.out]; exact hjq)
              clear hcl hbk hz
              go_wp2_with fail
              refine (beh_bm g pk2 NN N2 _ _ _ _ wr HNN.out HBJ.out HBK2.out hN12).mono ?_
              rintro e w4 ⟨g4, rfl, HG4, HB4, HE4⟩
              go_wp2
              go_roundw
              case rel => exact ⟨j + 1, g4, N2, by go_num, by omega, by omega, rfl, by have := HG4.out; have := HXJ.out.lt; show _ ≤ _; omega, by rw [HST.out]; exact HB4, HBEJ.out.trans (HE4.out.mono (by have := HXJ.out.lt; omega)), HXJ.out.of_block (HE4.out.block _ HXJ.out.lt)⟩
              case measure => simp [intOf]; omega
            · obtain rfl : j = q := by omega
              have HTA : Hid (ks.take j = ks) := by show _ = _; rw [← HKL.out]; exact List.take_length
              rw [HTA.out] at HBJ
              go_wp2
              go_meet
              case rel => exact ⟨g, c, rfl, HEJ, HBJ, HBEJ⟩

        · clear q0 q1 q2
          obtain ⟨q0, q1, q2⟩ := blk_three_set HX2.out
          go_wp2
          go_loopw [12] (fun i wr => ∃ j : Nat, i = .int .i64 j ∧ j ≤ q ∧ Hid (BM wr D NN (altR (relTo NN l ps k) (ks.take j))) ∧ Hid (KeptP (fun c => c = D) w2 wr)) (fun i _ => q - (intOf i).toNat)
          case atStart => exact ⟨0, rfl, by omega, by simpa [altR] using HO2, KeptP.refl _ _⟩
          case round =>
            obtain ⟨j, rfl, hj, HBJ, HLJ⟩ := hrel
            have HXJ : Hid (Blk wr E 3 (fun i => if i = 0 then .int .i64 3 else if i = 1 then .int .u8 0 else .slice ra q rc)) := HX2.out.of_block (HLJ.out.block _ HX2.out.lt (by have := HD.out; omega))
            have HBEJ : Hid (Below E V wr) := HBE2.out.trans (HLJ.out.to_below (by rw [HEE.out]; exact HBE2.out.size) (fun c hc => by have := HD.out; omega))
            clear q0 q1 q2
            obtain ⟨q0, q1, q2⟩ := blk_three_set HXJ.out
            by_cases hjq : j < q
            · have hjq1 : (j : Int) < (q : Int) := by omega
              have hjq0 : (0 : Int) ≤ (j : Int) := by omega
              have hz := kid_lt HKO.out (m := j) (by rw [HKL.out]; omega)
              obtain ⟨kd, hkd⟩ : ∃ kd : Nat, ks.getD j 0 = (kd : Int) := ⟨(ks.getD j 0).toNat, by omega⟩
              have hkk : kd < k := by omega
              have hkk1 : (kd : Int) < (k : Int) := by omega
              have hkk0 : (0 : Int) ≤ (kd : Int) := by omega
              obtain ⟨rb, ro, rfl, hrc⟩ := ((HRW.out.below (HBEJ.out.mono (Nat.le_of_eq HEE.out.symm)) (Nat.le_trans HH2.out HBER.out.size))).num (i := j) (by rw [HKL.out]; exact hjq)
              rw [hkd] at hrc
              obtain ⟨gl, cl, pk, ck, rfl, hgl, hcl, hbk⟩ := HAL.out.at hkk
              have hcl2 := cell_below hcl HBEJ.out (by rw [HEE.out]; exact hgl)
              rw [← HNN.out] at hcl2
              have HBK : Hid (BM wr pk NN (getR (relTo NN l ps k) (kd : Int))) := hbk.of (HBEJ.out.block _ (by rw [HEE.out]; exact hbk.lt))
              have HPK : Hid (D ≠ pk) := by have := hbk.lt; have := HEE.out; have := HD.out; show _ ≠ _; omega
              have HST : Hid (altR (relTo NN l ps k) (ks.take (j + 1)) = orR (altR (relTo NN l ps k) (ks.take j)) (getR (relTo NN l ps k) (kd : Int))) := by show _ = _; unfold altR; rw [foldTake _ _ (by rw [HKL.out]; exact hjq), hkd]
              clear hcl hbk hz
              go_wp2_with fail
              refine (or_bm D pk NN N2 _ _ _ _ wr HNN.out HBJ.out HBK.out HPK.out hN12).mono ?_
              rintro e w3 ⟨rfl, HB3, HK3⟩
              go_wp2
              go_roundw
              case rel => exact ⟨j + 1, by go_num, by omega, by rw [HST.out]; exact HB3, HLJ.out.trans HK3.out⟩
              case measure => simp [intOf]; omega
            · obtain rfl : j = q := by omega
              have HTA : Hid (ks.take j = ks) := by show _ = _; rw [← HKL.out]; exact List.take_length
              rw [HTA.out] at HBJ
              go_wp2
              go_meet
              case rel => exact ⟨D, _, rfl, by have := HD.out; show _ ≤ _; omega, HBJ, HBEJ⟩
        · obtain rfl : q = 1 := by have := HKL.out; omega
          clear q0 q1 q2
          have hn1 : 1 ≤ NN := HN1.out
          have hn1i : (0 : Int) < (NN : Int) := by omega
          have hz := kid_lt HKO.out (m := 0) (by rw [HKL.out]; omega)
          obtain ⟨kd, hkd⟩ : ∃ kd : Nat, ks.getD 0 0 = (kd : Int) := ⟨(ks.getD 0 0).toNat, by omega⟩
          have hkk : kd < k := by omega
          have hkk1 : (kd : Int) < (k : Int) := by omega
          have hkk0 : (0 : Int) ≤ (kd : Int) := by omega
          obtain ⟨rb, ro, rfl, hrc0⟩ := HRW.out.num (i := 0) (by rw [HKL.out]; omega)
          rw [hkd] at hrc0
          have HRC : Hid (V.cell? ⟨rb, ro + 0, none⟩ = some (.int .i64 (kd : Int))) := hrc0
          obtain ⟨gl, cl, pk, ck, rfl, hgl, hcl, hbk⟩ := HAL.out.at hkk
          rw [← HNN.out] at hcl
          obtain ⟨K0, HK0⟩ : ∃ K, Hid (K = getR (relTo NN l ps k) (kd : Int)) := ⟨_, rfl⟩
          have HPC : Hid (pcR NN l (relTo NN l ps k) (4, 0, ks) = starR NN K0) := by rw [HK0.out, ← hkd]; rfl
          have HBKV : Hid (BM V pk NN K0) := by rw [HK0.out]; exact hbk
          have HPK : Hid (D ≠ pk) := by have := hbk.lt; have := HEE.out; have := HD.out; show _ ≠ _; omega
          have HKEEP : Hid (∀ wx, Below E V wx → wx.cell? ⟨rb, ro + 0, none⟩ = some (.int .i64 (kd : Int)) ∧ wx.cell? ⟨gl, kd, none⟩ = some (.slice (some ⟨pk, 0, none⟩) N2 ck) ∧ BM wx pk NN K0) := fun wx h =>
            ⟨cell_below hrc0 h (by rw [HEE.out]; exact lt_of_cell hrc0), cell_below hcl h (by rw [HEE.out]; exact hgl), HBKV.out.of (h.block _ (by rw [HEE.out]; exact HBKV.out.lt))⟩
          clear hcl hbk hz hrc0 hgl
          obtain ⟨r0, r1, HBK2⟩ := HKEEP.out w2 HBE2.out
          have HBK : Hid (BM w2 pk NN K0) := HBK2
          clear HBK2
          rw [Nat.add_zero] at r0
          obtain ⟨q0, q1, q2⟩ := blk_three_set HX2.out
          go_wp2_with fail
          refine (or_bm D pk NN N2 _ _ _ _ w2 HNN.out HO2.out HBK.out HPK.out hN12).mono ?_
          rintro e w3 ⟨rfl, HB3, HK3⟩
          have HB3K : Hid (BM w3 D NN K0) := HB3.out.congr (fun i j _ _ => by simp [orR, noR])
          have HBE3 : Hid (Below E V w3) := HBE2.out.trans (HK3.out.to_below (by rw [HEE.out]; exact HBE2.out.size) (fun c hc => by have := HD.out; omega))
          have HX3 : Hid (Blk w3 E 3 (fun i => if i = 0 then .int .i64 4 else if i = 1 then .int .u8 0 else .slice (some ⟨rb, ro, none⟩) 1 rc)) := HX2.out.of_block (HK3.out.block _ HX2.out.lt (by have := HD.out; omega))
          clear q0 q1 q2 r0 r1 HB3
          go_wp2
          go_loopw [13] (fun i wr => ∃ r : Nat, i = .int .i64 r ∧ r ≤ NN ∧ Hid (BM wr D NN (itR NN K0 r)) ∧ Hid (KeptP (fun c => c = D) w3 wr)) (fun i _ => NN - (intOf i).toNat)
          case atStart => exact ⟨0, rfl, by omega, HB3K, KeptP.refl _ _⟩
          case round =>
            obtain ⟨r, rfl, hr, HBR, HLR⟩ := hrel
            have HBER2 : Hid (Below E V wr) := HBE3.out.trans (HLR.out.to_below (by rw [HEE.out]; exact HBE3.out.size) (fun c hc => by have := HD.out; omega))
            have HXR : Hid (Blk wr E 3 (fun i => if i = 0 then .int .i64 4 else if i = 1 then .int .u8 0 else .slice (some ⟨rb, ro, none⟩) 1 rc)) := HX3.out.of_block (HLR.out.block _ HX3.out.lt (by have := HD.out; omega))
            obtain ⟨q0, q1, q2⟩ := blk_three_set HXR.out
            by_cases hrn : r < NN
            · have hrn1 : (r : Int) < (NN : Int) := by omega
              have hrn0 : (0 : Int) ≤ (r : Int) := by omega
              obtain ⟨r0, r1, HBK2⟩ := HKEEP.out wr HBER2.out
              have HBKR : Hid (BM wr pk NN K0) := HBK2
              clear HBK2
              rw [Nat.add_zero] at r0
              go_wp2_with fail
              refine (beh_bm D pk NN N2 _ _ _ _ wr HNN.out HBR.out HBKR.out hN12).mono ?_
              rintro e w4 ⟨g4, rfl, HG4, HB4, HE4⟩
              go_wp2_with fail
              refine (or_bm D g4 NN N2 _ _ _ _ w4 HNN.out (HBR.out.of (HE4.out.block _ HBR.out.lt)) HB4.out (by have := HG4.out; have := HBR.out.lt; omega) hN12).mono ?_
              rintro e w5 ⟨rfl, HB5, HK5⟩
              go_wp2
              go_roundw
              case rel => exact ⟨r + 1, by go_num, by omega, HB5, (HLR.out.trans (KeptP.of_below HE4.out (fun k hk _ => hk))).trans HK5.out⟩
              case measure => simp [intOf]; omega
            · obtain rfl : r = NN := by omega
              go_wp2
              clear q0 q1 q2
              go_loopw [14] (fun i wr => ∃ v : Nat, i = .int .i64 v ∧ v ≤ r ∧ Hid (BM wr D r (fun i j => (plusR r K0) i j || (decide (i = j) && decide (i < v)))) ∧ Hid (KeptP (fun c => c = D) w3 wr)) (fun i _ => r - (intOf i).toNat)
              case atStart => exact ⟨0, rfl, by omega, HBR.out.congr (fun i j _ _ => by simp [plusR]), HLR⟩
              case round =>
                obtain ⟨v, rfl, hv, HBV, HLV⟩ := hrel
                have HBEV : Hid (Below E V wr) := HBE3.out.trans (HLV.out.to_below (by rw [HEE.out]; exact HBE3.out.size) (fun c hc => by have := HD.out; omega))
                have HXV : Hid (Blk wr E 3 (fun i => if i = 0 then .int .i64 4 else if i = 1 then .int .u8 0 else .slice (some ⟨rb, ro, none⟩) 1 rc)) := HX3.out.of_block (HLV.out.block _ HX3.out.lt (by have := HD.out; omega))
                obtain ⟨q0, q1, q2⟩ := blk_three_set HXV.out
                by_cases hvn : v < r
                · have hvn1 : (v : Int) < (r : Int) := by omega
                  have hvn0 : (0 : Int) ≤ (v : Int) := by omega
                  obtain ⟨Qv, HQv⟩ : ∃ k, Hid (k = v * r) := ⟨_, rfl⟩
                  have hqv : (v : Int) * (r : Int) = (Qv : Int) := by rw [HQv.out]; simp
                  have hb1 : Qv + v < N2 := by rw [HQv.out, HNN.out]; exact idx_lt hvn hvn
                  have hco := HBV.out.get hvn hvn
                  have hcf := HBV.out.frozen (v * r + v)
                  rw [← HQv.out] at hcf hco
                  have HPUT : Hid (BM (wr.setCell ⟨D, Qv + v, none⟩ (.bool true)) D r (fun i j => (plusR r K0) i j || (decide (i = j) && decide (i < v + 1)))) := by
                    rw [HQv.out]
                    refine (HBV.out.put hvn hvn true).congr fun i j _ _ => ?_
                    by_cases e1 : i = v
                    · subst e1
                      by_cases e2 : j = i
                      · subst e2; simp
                      · simp [e2, Ne.symm e2]
                    · by_cases e2 : i < v
                      · simp [e1, e2, show i < v + 1 by omega]
                      · simp [e1, e2, show ¬ i < v + 1 by omega]
                  go_wp2
                  go_roundw
                  case rel => exact ⟨v + 1, by go_num, by omega, HPUT, HLV.out.setCell rfl _⟩
                  case measure => simp [intOf]; omega
                · obtain rfl : v = r := by omega
                  have HFI : Hid (BM wr D v (starR v K0)) := HBV.out.congr fun i j hi _ => by simp [starR, orR, idR, hi]
                  go_wp2
                  go_meet
                  case rel => exact ⟨D, _, rfl, by have := HD.out; show _ ≤ _; omega, by rw [HPC.out]; exact HFI, HBEV⟩
        · obtain rfl : q = 1 := by have := HKL.out; omega
          clear q0 q1 q2
          have hn1 : 1 ≤ NN := HN1.out
          have hn1i : (0 : Int) < (NN : Int) := by omega
          have hz := kid_lt HKO.out (m := 0) (by rw [HKL.out]; omega)
          obtain ⟨kd, hkd⟩ : ∃ kd : Nat, ks.getD 0 0 = (kd : Int) := ⟨(ks.getD 0 0).toNat, by omega⟩
          have hkk : kd < k := by omega
          have hkk1 : (kd : Int) < (k : Int) := by omega
          have hkk0 : (0 : Int) ≤ (kd : Int) := by omega
          obtain ⟨rb, ro, rfl, hrc0⟩ := HRW.out.num (i := 0) (by rw [HKL.out]; omega)
          rw [hkd] at hrc0
          have HRC : Hid (V.cell? ⟨rb, ro + 0, none⟩ = some (.int .i64 (kd : Int))) := hrc0
          obtain ⟨gl, cl, pk, ck, rfl, hgl, hcl, hbk⟩ := HAL.out.at hkk
          rw [← HNN.out] at hcl
          obtain ⟨K0, HK0⟩ : ∃ K, Hid (K = getR (relTo NN l ps k) (kd : Int)) := ⟨_, rfl⟩
          have HPC : Hid (pcR NN l (relTo NN l ps k) (5, 0, ks) = plusR NN K0) := by rw [HK0.out, ← hkd]; rfl
          have HBKV : Hid (BM V pk NN K0) := by rw [HK0.out]; exact hbk
          have HPK : Hid (D ≠ pk) := by have := hbk.lt; have := HEE.out; have := HD.out; show _ ≠ _; omega
          have HKEEP : Hid (∀ wx, Below E V wx → wx.cell? ⟨rb, ro + 0, none⟩ = some (.int .i64 (kd : Int)) ∧ wx.cell? ⟨gl, kd, none⟩ = some (.slice (some ⟨pk, 0, none⟩) N2 ck) ∧ BM wx pk NN K0) := fun wx h =>
            ⟨cell_below hrc0 h (by rw [HEE.out]; exact lt_of_cell hrc0), cell_below hcl h (by rw [HEE.out]; exact hgl), HBKV.out.of (h.block _ (by rw [HEE.out]; exact HBKV.out.lt))⟩
          clear hcl hbk hz hrc0 hgl
          obtain ⟨r0, r1, HBK2⟩ := HKEEP.out w2 HBE2.out
          have HBK : Hid (BM w2 pk NN K0) := HBK2
          clear HBK2
          rw [Nat.add_zero] at r0
          obtain ⟨q0, q1, q2⟩ := blk_three_set HX2.out
          go_wp2_with fail
          refine (or_bm D pk NN N2 _ _ _ _ w2 HNN.out HO2.out HBK.out HPK.out hN12).mono ?_
          rintro e w3 ⟨rfl, HB3, HK3⟩
          have HB3K : Hid (BM w3 D NN K0) := HB3.out.congr (fun i j _ _ => by simp [orR, noR])
          have HBE3 : Hid (Below E V w3) := HBE2.out.trans (HK3.out.to_below (by rw [HEE.out]; exact HBE2.out.size) (fun c hc => by have := HD.out; omega))
          have HX3 : Hid (Blk w3 E 3 (fun i => if i = 0 then .int .i64 5 else if i = 1 then .int .u8 0 else .slice (some ⟨rb, ro, none⟩) 1 rc)) := HX2.out.of_block (HK3.out.block _ HX2.out.lt (by have := HD.out; omega))
          clear q0 q1 q2 r0 r1 HB3
          go_wp2
          go_loopw [13] (fun i wr => ∃ r : Nat, i = .int .i64 r ∧ r ≤ NN ∧ Hid (BM wr D NN (itR NN K0 r)) ∧ Hid (KeptP (fun c => c = D) w3 wr)) (fun i _ => NN - (intOf i).toNat)
          case atStart => exact ⟨0, rfl, by omega, HB3K, KeptP.refl _ _⟩
          case round =>
            obtain ⟨r, rfl, hr, HBR, HLR⟩ := hrel
            have HBER2 : Hid (Below E V wr) := HBE3.out.trans (HLR.out.to_below (by rw [HEE.out]; exact HBE3.out.size) (fun c hc => by have := HD.out; omega))
            have HXR : Hid (Blk wr E 3 (fun i => if i = 0 then .int .i64 5 else if i = 1 then .int .u8 0 else .slice (some ⟨rb, ro, none⟩) 1 rc)) := HX3.out.of_block (HLR.out.block _ HX3.out.lt (by have := HD.out; omega))
            obtain ⟨q0, q1, q2⟩ := blk_three_set HXR.out
            by_cases hrn : r < NN
            · have hrn1 : (r : Int) < (NN : Int) := by omega
              have hrn0 : (0 : Int) ≤ (r : Int) := by omega
              obtain ⟨r0, r1, HBK2⟩ := HKEEP.out wr HBER2.out
              have HBKR : Hid (BM wr pk NN K0) := HBK2
              clear HBK2
              rw [Nat.add_zero] at r0
              go_wp2_with fail
              refine (beh_bm D pk NN N2 _ _ _ _ wr HNN.out HBR.out HBKR.out hN12).mono ?_
              rintro e w4 ⟨g4, rfl, HG4, HB4, HE4⟩
              go_wp2_with fail
              refine (or_bm D g4 NN N2 _ _ _ _ w4 HNN.out (HBR.out.of (HE4.out.block _ HBR.out.lt)) HB4.out (by have := HG4.out; have := HBR.out.lt; omega) hN12).mono ?_
              rintro e w5 ⟨rfl, HB5, HK5⟩
              go_wp2
              go_roundw
              case rel => exact ⟨r + 1, by go_num, by omega, HB5, (HLR.out.trans (KeptP.of_below HE4.out (fun k hk _ => hk))).trans HK5.out⟩
              case measure => simp [intOf]; omega
            · obtain rfl : r = NN := by omega
              go_wp2
              clear q0 q1 q2
              go_loopw [14] (fun i wr => ∃ v : Nat, i = .int .i64 v ∧ v ≤ r ∧ v = 0 ∧ Hid (BM wr D r ((plusR r K0))) ∧ Hid (KeptP (fun c => c = D) w3 wr)) (fun i _ => r - (intOf i).toNat)
              case atStart => exact ⟨0, rfl, by omega, rfl, HBR.out.congr (fun i j _ _ => by simp [plusR]), HLR⟩
              case round =>
                obtain ⟨v, rfl, hv, rfl, HBV, HLV⟩ := hrel
                have HBEV : Hid (Below E V wr) := HBE3.out.trans (HLV.out.to_below (by rw [HEE.out]; exact HBE3.out.size) (fun c hc => by have := HD.out; omega))
                have HXV : Hid (Blk wr E 3 (fun i => if i = 0 then .int .i64 5 else if i = 1 then .int .u8 0 else .slice (some ⟨rb, ro, none⟩) 1 rc)) := HX3.out.of_block (HLV.out.block _ HX3.out.lt (by have := HD.out; omega))
                obtain ⟨q0, q1, q2⟩ := blk_three_set HXV.out
                go_wp2
                go_meet
                case rel => exact ⟨D, _, rfl, by have := HD.out; show _ ≤ _; omega, by rw [HPC.out]; exact HBV, HBEV⟩
        · obtain rfl : q = 1 := by have := HKL.out; omega
          clear q0 q1 q2
          have hn1 : 1 ≤ NN := HN1.out
          have hn1i : (0 : Int) < (NN : Int) := by omega
          have hz := kid_lt HKO.out (m := 0) (by rw [HKL.out]; omega)
          obtain ⟨kd, hkd⟩ : ∃ kd : Nat, ks.getD 0 0 = (kd : Int) := ⟨(ks.getD 0 0).toNat, by omega⟩
          have hkk : kd < k := by omega
          have hkk1 : (kd : Int) < (k : Int) := by omega
          have hkk0 : (0 : Int) ≤ (kd : Int) := by omega
          obtain ⟨rb, ro, rfl, hrc0⟩ := HRW.out.num (i := 0) (by rw [HKL.out]; omega)
          rw [hkd] at hrc0
          have HRC : Hid (V.cell? ⟨rb, ro + 0, none⟩ = some (.int .i64 (kd : Int))) := hrc0
          obtain ⟨gl, cl, pk, ck, rfl, hgl, hcl, hbk⟩ := HAL.out.at hkk
          rw [← HNN.out] at hcl
          obtain ⟨K0, HK0⟩ : ∃ K, Hid (K = getR (relTo NN l ps k) (kd : Int)) := ⟨_, rfl⟩
          have HPC : Hid (pcR NN l (relTo NN l ps k) (6, 0, ks) = orR K0 idR) := by rw [HK0.out, ← hkd]; rfl
          have HBKV : Hid (BM V pk NN K0) := by rw [HK0.out]; exact hbk
          have HPK : Hid (D ≠ pk) := by have := hbk.lt; have := HEE.out; have := HD.out; show _ ≠ _; omega
          have HKEEP : Hid (∀ wx, Below E V wx → wx.cell? ⟨rb, ro + 0, none⟩ = some (.int .i64 (kd : Int)) ∧ wx.cell? ⟨gl, kd, none⟩ = some (.slice (some ⟨pk, 0, none⟩) N2 ck) ∧ BM wx pk NN K0) := fun wx h =>
            ⟨cell_below hrc0 h (by rw [HEE.out]; exact lt_of_cell hrc0), cell_below hcl h (by rw [HEE.out]; exact hgl), HBKV.out.of (h.block _ (by rw [HEE.out]; exact HBKV.out.lt))⟩
          clear hcl hbk hz hrc0 hgl
          obtain ⟨r0, r1, HBK2⟩ := HKEEP.out w2 HBE2.out
          have HBK : Hid (BM w2 pk NN K0) := HBK2
          clear HBK2
          rw [Nat.add_zero] at r0
          obtain ⟨q0, q1, q2⟩ := blk_three_set HX2.out
          go_wp2_with fail
          refine (or_bm D pk NN N2 _ _ _ _ w2 HNN.out HO2.out HBK.out HPK.out hN12).mono ?_
          rintro e w3 ⟨rfl, HB3, HK3⟩
          have HB3K : Hid (BM w3 D NN K0) := HB3.out.congr (fun i j _ _ => by simp [orR, noR])
          have HBE3 : Hid (Below E V w3) := HBE2.out.trans (HK3.out.to_below (by rw [HEE.out]; exact HBE2.out.size) (fun c hc => by have := HD.out; omega))
          have HX3 : Hid (Blk w3 E 3 (fun i => if i = 0 then .int .i64 6 else if i = 1 then .int .u8 0 else .slice (some ⟨rb, ro, none⟩) 1 rc)) := HX2.out.of_block (HK3.out.block _ HX2.out.lt (by have := HD.out; omega))
          clear q0 q1 q2 r0 r1 HB3
          go_wp2
          go_loopw [13] (fun i wr => i = .int .i64 0 ∧ Hid (BM wr D NN K0) ∧ Hid (KeptP (fun c => c = D) w3 wr)) (fun _ _ => 0)
          case atStart => exact ⟨rfl, HB3K, KeptP.refl _ _⟩
          case round =>
            obtain ⟨rfl, HBR, HLR⟩ := hrel
            have HBER2 : Hid (Below E V wr) := HBE3.out.trans (HLR.out.to_below (by rw [HEE.out]; exact HBE3.out.size) (fun c hc => by have := HD.out; omega))
            have HXR : Hid (Blk wr E 3 (fun i => if i = 0 then .int .i64 6 else if i = 1 then .int .u8 0 else .slice (some ⟨rb, ro, none⟩) 1 rc)) := HX3.out.of_block (HLR.out.block _ HX3.out.lt (by have := HD.out; omega))
            obtain ⟨q0, q1, q2⟩ := blk_three_set HXR.out
            go_wp2
            clear q0 q1 q2
            go_loopw [14] (fun i wr => ∃ v : Nat, i = .int .i64 v ∧ v ≤ NN ∧ Hid (BM wr D NN (fun i j => K0 i j || (decide (i = j) && decide (i < v)))) ∧ Hid (KeptP (fun c => c = D) w3 wr)) (fun i _ => NN - (intOf i).toNat)
            case atStart => exact ⟨0, rfl, by omega, HBR.out.congr (fun i j _ _ => by simp ), HLR⟩
            case round =>
              obtain ⟨v, rfl, hv, HBV, HLV⟩ := hrel
              have HBEV : Hid (Below E V wr) := HBE3.out.trans (HLV.out.to_below (by rw [HEE.out]; exact HBE3.out.size) (fun c hc => by have := HD.out; omega))
              have HXV : Hid (Blk wr E 3 (fun i => if i = 0 then .int .i64 6 else if i = 1 then .int .u8 0 else .slice (some ⟨rb, ro, none⟩) 1 rc)) := HX3.out.of_block (HLV.out.block _ HX3.out.lt (by have := HD.out; omega))
              obtain ⟨q0, q1, q2⟩ := blk_three_set HXV.out
              by_cases hvn : v < NN
              · have hvn1 : (v : Int) < (NN : Int) := by omega
                have hvn0 : (0 : Int) ≤ (v : Int) := by omega
                obtain ⟨Qv, HQv⟩ : ∃ k, Hid (k = v * NN) := ⟨_, rfl⟩
                have hqv : (v : Int) * (NN : Int) = (Qv : Int) := by rw [HQv.out]; simp
                have hb1 : Qv + v < N2 := by rw [HQv.out, HNN.out]; exact idx_lt hvn hvn
                have hco := HBV.out.get hvn hvn
                have hcf := HBV.out.frozen (v * NN + v)
                rw [← HQv.out] at hcf hco
                have HPUT : Hid (BM (wr.setCell ⟨D, Qv + v, none⟩ (.bool true)) D NN (fun i j => K0 i j || (decide (i = j) && decide (i < v + 1)))) := by
                  rw [HQv.out]
                  refine (HBV.out.put hvn hvn true).congr fun i j _ _ => ?_
                  by_cases e1 : i = v
                  · subst e1
                    by_cases e2 : j = i
                    · subst e2; simp
                    · simp [e2, Ne.symm e2]
                  · by_cases e2 : i < v
                    · simp [e1, e2, show i < v + 1 by omega]
                    · simp [e1, e2, show ¬ i < v + 1 by omega]
                go_wp2
                go_roundw
                case rel => exact ⟨v + 1, by go_num, by omega, HPUT, HLV.out.setCell rfl _⟩
                case measure => simp [intOf]; omega
              · obtain rfl : v = NN := by omega
                have HFI : Hid (BM wr D v (orR K0 idR)) := HBV.out.congr fun i j hi _ => by simp [orR, idR, hi]
                go_wp2
                go_meet
                case rel => exact ⟨D, _, rfl, by have := HD.out; show _ ≤ _; omega, by rw [HPC.out]; exact HFI, HBEV⟩
      case rest =>
        obtain ⟨g, c, rfl, HEG, HBG, HBEC⟩ := hcut
        obtain ⟨xs, P, C, hox, h2⟩ := HAL.out.below (HBEC.out.mono (Nat.le_of_eq HEE.out.symm))
        have hown := hox.alloc (.cells #[.slice (some ⟨g, 0, none⟩) N2 c] 81)
        have hszc : B + 2 ≤ wc.heap.size := Nat.le_trans hszr HBEC.out.size
        have HLC : Hid (Below (B + 2) W wc) := HL.out.trans (HBEC.out.mono (by have := HEE.out; omega))
        go_wp2_with (at_builtin; refine wpList_append_lies _ rfl (.tmp 167) (.tmp 169) 79 rfl (B + 2) 81 i1 (.slice none 0 0) 1 24 Try.underlying79 hi1 hy0 hy1 hy2 rfl (by decide) _ k xs rfl hown ⟨wc.heap.size, 0, none⟩ 1 1 [.slice (some ⟨g, 0, none⟩) N2 c] rfl rfl (cell_one_new' wc (.slice (some ⟨g, 0, none⟩) N2 c) 81) (by simp [Value.oneCell']) (by decide) (by unfold maxLen; omega) (by omega) (by simp; omega) _ rfl ?_)
        intro g5 cap5 w6 hown5 hgrow5 hloc5 hg5
        have HL6 : Hid (Below (B + 2) W w6) := (HLC.out.alloc hszc _).grown hgrow5 (by simp; omega) (fun k hk => (hox.lt k hk).1)
        have HA6 : Hid (AllIn (B + 2) NN w6 (.slice (some ⟨g5, 0, none⟩) (k + 1) cap5) (k + 1) (relTo NN l ps (k + 1))) := by
          rw [HREL.out]
          have hbb : ∀ {p R}, BM wc p NN R → BM (wc.alloc (.cells #[.slice (some ⟨g, 0, none⟩) N2 c] 81)) p NN R := fun h => h.of (Below.heap_alloc wc _ _ h.lt)
          refine AllIn.snoc (w := wc.alloc (.cells #[.slice (some ⟨g, 0, none⟩) N2 c] 81)) (p := g) (c := c) (P := P) (C := C) (xs := xs) (by have := hox.1; omega) (relTo_len _ _ _ _) (fun i hi => ⟨(h2 i hi).1, (h2 i hi).2.1, hbb (h2 i hi).2.2⟩) (hbb HBG.out) ?_ hgrow5 ?_ ?_
          · intro e
            have := (HAL.out.own e)
            have := HEG.out; have := HEE.out; omega
          · rcases hloc5 with h | h
            · exact .inl h
            · right; simp; omega
          · rw [HNN.out] at hown5; exact hown5
        clear hown hown5 hgrow5 hox h2
        go_wp2
        go_roundw
        case rel => exact ⟨k + 1, by go_num, by omega, HA6, HL6⟩
        case measure => simp [intOf]; omega
    · obtain rfl : k = m := by omega
      go_wp2
      go_ret
      exact ⟨_, rfl, HAL.out.wide (by have := HB.out; omega), HBER⟩
theorem l06Full_any (lo hi : Nat) (NN : Nat) (a : Option Addr) (n cap : Nat) (l : List Ed) (lo2 hi2 : Nat) (b : Option Addr) (m mc : Nat) (ps : List Pc) (w : World) (ha : EdgesIn lo hi w a l) (hh : hi ≤ w.heap.size) (hn : l.length = n) (hm : n ≤ 1048576)
    (hb : PathIn lo2 hi2 w b ps) (hh2 : hi2 ≤ w.heap.size) (hn2 : ps.length = m) (hm2 : m ≤ 60) (hq : ∀ i, i < m → (pat ps i).2.2.length ≤ 1048576) (hok : okG (NN : Int) l = true) (hokp : ∀ k, k < m → formOk (pat ps k) = true ∧ kidsOk k (pat ps k).2.2 = true) :
    Calls Try.prog 47 #[gv (NN : Int) a n cap, pv b m mc] w fun e w' => ∃ v, e = .returned v ∧ Hid (AllIn w.heap.size NN w' v m (relTo NN l ps m)) ∧ Hid (Below w.heap.size w w') :=
  l06Full_of lo hi NN a n cap l lo2 hi2 b m mc ps w ha hh hn hm hb hh2 hn2 hm2 hq (by have := okG_12 hok; omega) (okG_iff.1 hok).2.2.1 hokp
end Go.Proofs.Ytdbogikcmfnpdaa
