/-
  impl.Turned.
-/
import Derived.Test.YtfeimdlkpiacoaaGSrt
import Derived.Test.YtfeimdlkpiacoaaGCln
import Derived.Test.YtfeimdlkpiacoaaGOk
namespace Go.Proofs.Ytfeimdlkpiacoaa
open Go.RowKit

theorem own_in {B n cap : Nat} {w : World} {a : Option Addr} {l : List Ed} (h : w.ownsRow B 37 3 (.slice a n cap) n (ecells l)) (hn : l.length = n) : EdgesOwn B w.heap.size w a l := by
  obtain ⟨a2, cap2, hv, h2⟩ := edges_own h hn
  simp only [Value.slice.injEq] at hv
  rw [hv.1]; exact h2
theorem map_of_at {l L : List Ed} {n : Nat} (hl : l.length = n) (hL : L.length = n) (h : ∀ i, i < n → eat L i = turnE (eat l i)) : L = l.map turnE := by
  refine eat_ext (by simp [hL, hl]) fun i hi => ?_
  have hi' : i < l.length := by omega
  rw [h i (by omega), eat_get (l := l.map turnE) (by simpa using hi'), eat_get hi', List.getElem_map]

set_option maxHeartbeats 4000000 in
set_option maxRecDepth 100000 in
theorem turned_any (lo hi : Nat) (s : Int) (a : Option Addr) (n cap : Nat) (l : List Ed) (w : World) (ha : EdgesIn lo hi w a l) (hh : hi ≤ w.heap.size) (hn : l.length = n) (hm : n ≤ 1048576) :
    Calls Try.prog 25 #[gv s a n cap] w fun e w' => ∃ (a' : Option Addr) (n' cap' : Nat), e = .returned (gv s a' n' cap') ∧ Hid ((gturn s l).length = n') ∧ Hid (EdgesOwn w.heap.size w'.heap.size w' a' (gturn s l)) ∧ Hid (Below w.heap.size w w') := by
  have HN : Hid (l.length = n) := hn
  have HA : Hid (EdgesIn lo hi w a l) := ha
  have HH : Hid (hi ≤ w.heap.size) := hh
  obtain ⟨r, HS⟩ : ∃ r : Bool, Hid (r = okG s l) := ⟨_, rfl⟩
  clear ha hh hn
  obtain ⟨B, HB⟩ : ∃ B, Hid (B = w.heap.size) := ⟨_, rfl⟩
  go_enter Try.func25, Try.ntmps25
  go_wp2_with fail
  refine (newGraph_any lo hi s a n cap l _ (HA.out.below (below2 w _ _) HH.out) (by have := HH.out; simp; omega) HN.out hm).mono ?_
  rintro e w1 ⟨a1, cap1, rfl, HO1, hb1⟩
  have HG1 : Hid (Blk w1 B 2 (fun i => if i = 0 then .int .i64 s else .slice a n cap)) := ((blk_two w B HB.out _ _ _).alloc _).of_block (hb1.out.block B (by rw [HB.out]; simp; omega))
  have HR1 : Hid (Blk w1 (B + 1) 2 (fun i => if i = 0 then .int .i64 0 else .slice none 0 0)) := (blk_two _ (B + 1) (by rw [HB.out]; simp) _ _ _).of_block (hb1.out.block (B + 1) (by rw [HB.out]; simp))
  have HB1 : Hid (Below w.heap.size w w1) := (below2 w _ _).trans (hb1.out.mono (by simp; omega))
  have HS1 : Hid (B + 1 + 1 ≤ w1.heap.size) := by have := hb1.out.size; rw [HB.out]; simpa [Hid] using this
  have HE1 : Hid (EdgesOwn (B + 1 + 1) w1.heap.size w1 a1 l) := by
    have h := own_in HO1.out HN.out
    simp only [World.size_alloc] at h
    rw [HB.out]; exact h
  clear hb1 HO1
  rw [← HB.out]
  obtain ⟨P, HP⟩ : ∃ P, Hid (P = w1.heap.size) := ⟨_, rfl⟩
  obtain ⟨W, HW⟩ : ∃ W, Hid (W = w1.alloc (.cells #[.int .i64 s, .slice a1 n cap1] 29)) := ⟨_, rfl⟩
  have HWB : Hid (Below w1.heap.size w1 W) := by rw [HW.out]; exact below1 _ _
  have HPW : Hid (P < W.heap.size) := by rw [HW.out, HP.out]; show _ < _; simp
  have HGW : Hid (Blk W B 2 (fun i => if i = 0 then .int .i64 s else .slice a n cap)) := HG1.out.of_block (HWB.out.block _ HG1.out.lt)
  have HRW : Hid (Blk W (B + 1) 2 (fun i => if i = 0 then .int .i64 0 else .slice none 0 0)) := HR1.out.of_block (HWB.out.block _ HR1.out.lt)
  have HTW : Hid (Blk W P 2 (fun i => if i = 0 then .int .i64 s else .slice a1 n cap1)) := by rw [HW.out]; exact blk_two w1 P HP.out _ _ _
  have HEW : Hid (EdgesOwn (B + 1 + 1) P W a1 l) := by rw [HP.out]; exact HE1.out.below HWB.out (Nat.le_refl _)
  have HLW : Hid (Below w.heap.size w W) := HB1.out.trans (HWB.out.mono HB1.out.size)
  obtain ⟨c0, c1⟩ := blk_pair_cells HGW.out
  have hBP : B + 1 < P := by have := HS1.out; rw [HP.out]; omega
  go_upto_region 2 with fail
  rw [← HP.out, ← HW.out]
  clear HW HG1 HR1 HE1
  go_wp2_with fail
  refine (graphOk_any lo hi s a n cap l r W (HA.out.below HLW.out HH.out) (Nat.le_trans HH.out HLW.out.size) HN.out hm HS.out).mono ?_
  rintro e w2 ⟨rfl, HB2⟩
  have HG2 : Hid (Blk w2 B 2 (fun i => if i = 0 then .int .i64 s else .slice a n cap)) := HGW.out.of_block (HB2.out.block _ HGW.out.lt)
  have HR2 : Hid (Blk w2 (B + 1) 2 (fun i => if i = 0 then .int .i64 0 else .slice none 0 0)) := HRW.out.of_block (HB2.out.block _ HRW.out.lt)
  have HT2 : Hid (Blk w2 P 2 (fun i => if i = 0 then .int .i64 s else .slice a1 n cap1)) := HTW.out.of_block (HB2.out.block _ HTW.out.lt)
  have HE2 : Hid (EdgesOwn (B + 1 + 1) P w2 a1 l) := HEW.out.below HB2.out (Nat.le_of_lt HPW.out)
  have HL2 : Hid (Below w.heap.size w w2) := HLW.out.trans (HB2.out.mono HLW.out.size)
  have HP2 : Hid (P < w2.heap.size) := Nat.lt_of_lt_of_le HPW.out HB2.out.size
  clear c0 c1 HGW HRW HTW HEW HLW HB2 HWB HPW
  rcases Bool.eq_false_or_eq_true r with hs | hs
  · subst hs
    have HO : Hid (okG s l = true) := HS.out.symm
    have HT : Hid (gturn s l = turnL l) := by show _ = _; unfold gturn; rw [if_pos HO.out]
    obtain ⟨c0, c1⟩ := blk_pair_cells HG2.out
    go_wp2
    clear c0 c1
    go_loopw [15] (fun i wr => ∃ k : Nat, i = .int .i64 k ∧ k ≤ n ∧ Hid (∃ L : List Ed, L.length = n ∧ EdgesOwn (B + 1 + 1) P wr a1 L ∧ ∀ j, j < k → eat L j = turnE (eat l j)) ∧ Hid (KeptP (fun c => B + 1 + 1 ≤ c ∧ c < P) w2 wr)) (fun i _ => n - (intOf i).toNat)
    case atStart => exact ⟨0, rfl, by omega, ⟨l, HN.out, HE2.out, fun j hj => absurd hj (by omega)⟩, KeptP.refl _ _⟩
    case round =>
      obtain ⟨k, rfl, hk, HP', HK⟩ := hrel
      have HGR : Hid (Blk wr B 2 (fun i => if i = 0 then .int .i64 s else .slice a n cap)) := HK.out.blk HG2.out (by omega)
      have HRR : Hid (Blk wr (B + 1) 2 (fun i => if i = 0 then .int .i64 0 else .slice none 0 0)) := HK.out.blk HR2.out (by omega)
      have HTR : Hid (Blk wr P 2 (fun i => if i = 0 then .int .i64 s else .slice a1 n cap1)) := HK.out.blk HT2.out (by omega)
      have HLR : Hid (Below w.heap.size w wr) := HL2.out.trans (HK.out.to_below HL2.out.size (fun k hk => by rw [← HB.out]; omega))
      by_cases hlt : k < n
      · have hlt1 : (k : Int) < (n : Int) := by omega
        have hlt0 : (0 : Int) ≤ (k : Int) := by omega
        obtain ⟨b, o, rfl, _, _, hx⟩ := (HA.out.below HLR.out HH.out).edge (k := k) (by rw [HN.out]; exact hlt)
        obtain ⟨x, HXX⟩ : ∃ x : Ed, Hid (x = eat l k) := ⟨_, rfl⟩
        rw [← HXX.out] at hx
        obtain ⟨L, hL, hLO, hall⟩ := HP'.out
        obtain ⟨g, rfl, hg1, hg2, hblk⟩ : ∃ b, a1 = some ⟨b, 0, none⟩ ∧ B + 1 + 1 ≤ b ∧ b < P ∧ EBlk wr b L := by
          rcases hLO with h | h
          · rw [h] at hL; simp at hL; omega
          · exact h
        have HXG : Hid (B + 1 + 1 ≤ g ∧ g < P) := ⟨hg1, hg2⟩
        have HALL : Hid (∀ j, j < k → eat L j = turnE (eat l j)) := hall
        have HLL : Hid (L.length = n) := hL
        obtain ⟨x0, x1, x2⟩ := x
        obtain ⟨p0, p1, p2⟩ := hx
        dsimp only at p0 p1 p2
        obtain ⟨E, HE⟩ : ∃ E, Hid (E = wr.heap.size) := ⟨_, rfl⟩
        obtain ⟨V, HV⟩ : ∃ V, Hid (V = wr.alloc (.cells #[.int .i64 x0, .int .u8 x1, .int .i64 x2] 37)) := ⟨_, rfl⟩
        have HVB : Hid (Below wr.heap.size wr V) := by rw [HV.out]; exact below1 _ _
        obtain ⟨q0, q1, q2⟩ : V.cell? ⟨E, 0, none⟩ = some (.int .i64 x0) ∧ V.cell? ⟨E, 1, none⟩ = some (.int .u8 x1) ∧ V.cell? ⟨E, 2, none⟩ = some (.int .i64 x2) := by rw [HV.out]; exact box_cells wr _ _ _ 37 _ HE.out
        have HBV : Hid (EBlk V g L) := Blk.of_block hblk (HVB.out.block _ (Blk.lt hblk))
        have HTV : Hid (Blk V P 2 (fun i => if i = 0 then .int .i64 s else .slice (some ⟨g, 0, none⟩) n cap1)) := HTR.out.of_block (HVB.out.block _ HTR.out.lt)
        obtain ⟨t0, t1⟩ := blk_pair_cells HTV.out
        have hd0 := Blk.cell HBV.out (i := k * 3) (by have := HLL.out; omega)
        have hd1 := Blk.cell HBV.out (i := k * 3 + 1) (by have := HLL.out; omega)
        have hd2 := Blk.cell HBV.out (i := k * 3 + 2) (by have := HLL.out; omega)
        have hf0 := Blk.frozen HBV.out (k * 3)
        have hf1 := Blk.frozen HBV.out (k * 3 + 1)
        have hf2 := Blk.frozen HBV.out (k * 3 + 2)
        have hgE : g ≠ E := by have := Blk.lt hblk; rw [HE.out]; omega
        have HKV : Hid (KeptP (fun c => B + 1 + 1 ≤ c ∧ c < P) w2 V) := HK.out.trans (KeptP.of_below HVB.out (fun k hk _ => hk))
        go_upto_region 7 with fail
        rw [← HE.out, ← HV.out]
        clear p0 p1 p2 hblk hall hL hLO HV hg1 hg2
        go_wp2
        go_roundw
        case rel =>
          have hst := HBV.out.put (k := k) (by rw [HLL.out]; exact hlt) (x2, x1, x0)
          refine ⟨k + 1, by go_num, by omega, ⟨L.set k (x2, x1, x0), by rw [List.length_set]; exact HLL.out, .inr ⟨g, rfl, HXG.out.1, HXG.out.2, by simpa using hst⟩, fun j hj => ?_⟩, ?_⟩
          · rw [eat_set (by rw [HLL.out]; exact hlt)]
            by_cases e : j = k
            · subst e; rw [if_pos rfl, ← HXX.out]; rfl
            · rw [if_neg e]; exact HALL.out j (by omega)
          · exact ((HKV.out.setCell HXG.out _).setCell HXG.out _).setCell HXG.out _
        case measure => simp [intOf]; omega
      · obtain rfl : k = n := by omega
        obtain ⟨L, hL, hLO, hall⟩ := HP'.out
        have HLM : Hid (L = l.map turnE) := map_of_at HN.out hL hall
        have HLO : Hid (EdgesOwn (B + 1 + 1) P wr a1 L) := hLO
        have HLL : Hid (L.length = k) := hL
        obtain ⟨t0, t1⟩ := blk_pair_cells HTR.out
        have HPR : Hid (P < wr.heap.size) := HTR.out.lt
        clear hL hLO hall
        go_wp2_with fail
        refine (sortOwn_any (B + 1 + 1) P k cap1 a1 L wr HLO.out (Nat.le_of_lt HPR.out) HLL.out hm).mono ?_
        rintro e w3 ⟨rfl, L', HL', HE3, HK3⟩
        have HLT : Hid (L' = turnL l) := turnL_is (okG_iff.1 HO.out).2.2.2 (by rw [← HLM.out]; exact HL'.out.1) HL'.out.2
        have HR3 : Hid (Blk w3 (B + 1) 2 (fun i => if i = 0 then .int .i64 0 else .slice none 0 0)) := HK3.out.blk HRR.out (by omega)
        have HT3 : Hid (Blk w3 P 2 (fun i => if i = 0 then .int .i64 s else .slice a1 k cap1)) := HK3.out.blk HTR.out (by omega)
        have HL3 : Hid (Below w.heap.size w w3) := HLR.out.trans (HK3.out.to_below HLR.out.size (fun k hk => by rw [← HB.out]; omega))
        have HP3 : Hid (P ≤ w3.heap.size) := Nat.le_trans (Nat.le_of_lt HPR.out) HK3.out.size
        obtain ⟨u0, u1⟩ := blk_pair_cells HT3.out
        obtain ⟨r0, r1⟩ := blk_pair_cells HR3.out
        have rf0 := HR3.out.frozen 0
        have rf1 := HR3.out.frozen 1
        have hne : B + 1 ≠ P := by omega
        clear t0 t1
        go_wp2
        refine bodyPost_ret (v := .agg #[.int .i64 s, .slice a1 k cap1]) (by simp [results, Try.results25, go_sem, r0, r1]) rfl ?_
        refine ⟨a1, k, cap1, rfl, by show _ = _; rw [HT.out, turnL_len (okG_iff.1 HO.out).2.2.2]; exact HN.out, ?_, ?_⟩
        · rw [HT.out, ← HLT.out]
          have h := ((HE3.out.setCell (b := B + 1) (j := 0) (by omega) (.int .i64 s)).setCell (b := B + 1) (j := 1) (by omega) (.slice a1 k cap1))
          exact h.wide (by rw [← HB.out]; omega) (by simpa using HP3.out)
        · exact (HL3.out.setCell (by rw [HB.out]; simp) _).setCell (by rw [HB.out]; simp) _
  · subst hs
    have HT : Hid (gturn s l = l) := by show _ = _; unfold gturn; rw [← HS.out]; rfl
    obtain ⟨t0, t1⟩ := blk_pair_cells HT2.out
    obtain ⟨r0, r1⟩ := blk_pair_cells HR2.out
    have rf0 := HR2.out.frozen 0
    have rf1 := HR2.out.frozen 1
    have hne : B + 1 ≠ P := by omega
    go_wp2
    refine bodyPost_ret (v := .agg #[.int .i64 s, .slice a1 n cap1]) (by simp [results, Try.results25, go_sem, r0, r1]) rfl ?_
    refine ⟨a1, n, cap1, rfl, by show _ = _; rw [HT.out]; exact HN.out, ?_, ?_⟩
    · rw [HT.out]
      have h := ((HE2.out.setCell (b := B + 1) (j := 0) (by omega) (.int .i64 s)).setCell (b := B + 1) (j := 1) (by omega) (.slice a1 n cap1))
      exact h.wide (by rw [← HB.out]; omega) (by simpa using Nat.le_of_lt HP2.out)
    · exact (HL2.out.setCell (by rw [HB.out]; simp) _).setCell (by rw [HB.out]; simp) _
end Go.Proofs.Ytfeimdlkpiacoaa
