/-
  spec.Turned.
-/
import Derived.Deep.DeepCutAuto
import Derived.Test.YtfeimdlkpiacoaaGPut
import Derived.Test.YtfeimdlkpiacoaaGOkS
namespace Go.Proofs.Ytfeimdlkpiacoaa
open Go.RowKit

/-- edges turned, as far as place k -/
def turnTo (l : List Ed) (k : Nat) : List Ed := turnL (l.take k)
theorem turnTo_step {l : List Ed} {k : Nat} (h : k < l.length) : turnTo l (k + 1) = putE (turnTo l k) (turnE (eat l k)) := by
  unfold turnTo turnL
  rw [take_snocE l h, List.foldl_append]
  rfl
theorem turnTo_len (l : List Ed) (k : Nat) : (turnTo l k).length ≤ k := by
  induction k with
  | zero => simp [turnTo, turnL]
  | succ k ih =>
    by_cases h : k < l.length
    · rw [turnTo_step h]; have := putE_len (turnTo l k) (turnE (eat l k)); omega
    · have e : turnTo l (k + 1) = turnTo l k := by unfold turnTo; rw [List.take_of_length_le (by omega), List.take_of_length_le (by omega)]
      rw [e]; omega

set_option maxHeartbeats 4000000 in
set_option maxRecDepth 100000 in
theorem specTurned_any (lo hi : Nat) (s : Int) (a : Option Addr) (n cap : Nat) (l : List Ed) (w : World) (ha : EdgesIn lo hi w a l) (hh : hi ≤ w.heap.size) (hn : l.length = n) (hm : n ≤ 1048576) :
    Calls Try.prog 24 #[gv s a n cap] w fun e w' => ∃ (a' : Option Addr) (n' cap' : Nat), e = .returned (gv s a' n' cap') ∧ Hid ((gturn s l).length = n') ∧ Hid (EdgesOwn w.heap.size w'.heap.size w' a' (gturn s l)) ∧ Hid (Below w.heap.size w w') := by
  have HN : Hid (l.length = n) := hn
  have HA : Hid (EdgesIn lo hi w a l) := ha
  have HH : Hid (hi ≤ w.heap.size) := hh
  obtain ⟨r, HS⟩ : ∃ r : Bool, Hid (r = okG s l) := ⟨_, rfl⟩
  clear ha hh hn
  obtain ⟨B, HB⟩ : ∃ B, Hid (B = w.heap.size) := ⟨_, rfl⟩
  go_enter Try.func24, Try.ntmps24
  go_wp2_with fail
  refine (specGOk_any lo hi s a n cap l r _ (HA.out.below (below2 w _ _) HH.out) (by have := HH.out; simp; omega) HN.out hm HS.out).mono ?_
  rintro e w1 ⟨rfl, hb1⟩
  have HG1 : Hid (Blk w1 B 2 (fun i => if i = 0 then .int .i64 s else .slice a n cap)) := ((blk_two w B HB.out _ _ _).alloc _).of_block (hb1.out.block B (by rw [HB.out]; simp; omega))
  have HR1 : Hid (Blk w1 (B + 1) 2 (fun i => if i = 0 then .int .i64 0 else .slice none 0 0)) := (blk_two _ (B + 1) (by rw [HB.out]; simp) _ _ _).of_block (hb1.out.block (B + 1) (by rw [HB.out]; simp))
  have HB1 : Hid (Below w.heap.size w w1) := (below2 w _ _).trans (hb1.out.mono (by simp; omega))
  have HS1 : Hid (B + 1 + 1 ≤ w1.heap.size) := by have := hb1.out.size; rw [HB.out]; simpa [Hid] using this
  clear hb1
  rw [← HB.out]
  rcases Bool.eq_false_or_eq_true r with hs | hs
  · subst hs
    have HO : Hid (okG s l = true) := HS.out.symm
    have HT : Hid (gturn s l = turnTo l n) := by show _ = _; unfold gturn turnTo; rw [if_pos HO.out, ← HN.out, List.take_length]
    obtain ⟨c0, c1⟩ := blk_pair_cells HG1.out
    obtain ⟨P, HP⟩ : ∃ P, Hid (P = w1.heap.size) := ⟨_, rfl⟩
    go_wp2
    rw [← HP.out]
    clear c0 c1
    go_loopw [4] (fun i wr => ∃ (k m : Nat) (a' : Option Addr) (cap' : Nat), i = .int .i64 k ∧ k ≤ n ∧ Hid ((turnTo l k).length = m) ∧ Hid (wr.ownsRow (P + 1) 37 3 (.slice a' m cap') m (ecells (turnTo l k))) ∧ Hid (Blk wr P 2 (fun i => if i = 0 then .int .i64 s else .slice a' m cap')) ∧ Hid (Below P w1 wr)) (fun i _ => n - (intOf i).toNat)
    case atStart =>
      refine ⟨0, 0, none, 0, rfl, by omega, rfl, World.ownsRow_nil _ _ _ _, blk_two w1 P HP.out _ _ _, ?_⟩
      rw [HP.out]; exact below1 w1 _
    case round =>
      obtain ⟨k, m, a', cap', rfl, hk, HM, HOW, HG, HL⟩ := hrel
      have hmk : m ≤ k := by rw [← HM.out]; exact turnTo_len l k
      have HGR : Hid (Blk wr B 2 (fun i => if i = 0 then .int .i64 s else .slice a n cap)) := HG1.out.of_block (HL.out.block _ (by have := HS1.out; rw [HP.out]; omega))
      have HRR : Hid (Blk wr (B + 1) 2 (fun i => if i = 0 then .int .i64 0 else .slice none 0 0)) := HR1.out.of_block (HL.out.block _ (by have := HS1.out; rw [HP.out]; omega))
      have HLW : Hid (Below w.heap.size w wr) := HB1.out.trans (HL.out.mono (by rw [HP.out]; exact HB1.out.size))
      obtain ⟨c0, c1⟩ := blk_pair_cells HGR.out
      by_cases hlt : k < n
      · have hlt1 : (k : Int) < (n : Int) := by omega
        obtain ⟨b, o, rfl, _, _, hx⟩ := (HA.out.below HLW.out HH.out).edge (k := k) (by rw [HN.out]; exact hlt)
        obtain ⟨x, HXX⟩ : ∃ x : Ed, Hid (x = eat l k) := ⟨_, rfl⟩
        rw [← HXX.out] at hx
        have HST : Hid (turnTo l (k + 1) = putE (turnTo l k) (turnE x)) := by show _ = _; rw [turnTo_step (by rw [HN.out]; exact hlt), HXX.out]
        obtain ⟨x0, x1, x2⟩ := x
        obtain ⟨p0, p1, p2⟩ := hx
        dsimp only at p0 p1 p2
        have HPL : Hid (P < wr.heap.size) := HG.out.lt
        obtain ⟨E, HE⟩ : ∃ E, Hid (E = wr.heap.size) := ⟨_, rfl⟩
        obtain ⟨W, HW⟩ : ∃ W, Hid (W = wr.alloc (.cells #[.int .i64 x0, .int .u8 x1, .int .i64 x2] 37)) := ⟨_, rfl⟩
        have HWB : Hid (Below wr.heap.size wr W) := by rw [HW.out]; exact below1 _ _
        obtain ⟨q0, q1, q2⟩ : W.cell? ⟨E, 0, none⟩ = some (.int .i64 x0) ∧ W.cell? ⟨E, 1, none⟩ = some (.int .u8 x1) ∧ W.cell? ⟨E, 2, none⟩ = some (.int .i64 x2) := by rw [HW.out]; exact box_cells wr _ _ _ 37 _ HE.out
        have HGW : Hid (Blk W P 2 (fun i => if i = 0 then .int .i64 s else .slice a' m cap')) := HG.out.of_block (HWB.out.block _ HPL.out)
        have HOWW : Hid (W.ownsRow (P + 1) 37 3 (.slice a' m cap') m (ecells (turnTo l k))) := owns_upto HOW.out (fun k hk => (HOW.out.lt k hk).2) (fun k _ hk => HWB.out.block k hk)
        have g1 : W.cell? ⟨P, 1, none⟩ = some (.slice a' m cap') := HGW.out.cell (i := 1) (by omega)
        have HEI : Hid (EdgesOwn (P + 1) W.heap.size W a' (turnTo l k)) := by
          obtain ⟨a2, cap2, hv, h⟩ := edges_own HOWW.out HM.out
          simp only [Value.slice.injEq] at hv
          rw [hv.1]; exact h
        have HLWW : Hid (Below P w1 W) := HL.out.trans (HWB.out.mono (Nat.le_of_lt HPL.out))
        have HPW : Hid (P + 1 ≤ W.heap.size) := Nat.lt_of_lt_of_le HPL.out HWB.out.size
        go_upto_region 8 with fail
        rw [← HE.out, ← HW.out]
        clear p0 p1 p2 c0 c1 HOW HG HL
        go_wp2_with fail
        refine (l04Put_any (P + 1) W.heap.size a' m cap' (turnTo l k) (turnE (x0, x1, x2)) W HEI.out.toIn (Nat.le_refl _) HM.out (by omega)).mono ?_
        rintro e w3 ⟨a3, m3, cap3, rfl, HM3, HO3, HB3⟩
        have HG3 : Hid (Blk w3 P 2 (fun i => if i = 0 then .int .i64 s else .slice a' m cap')) := HGW.out.of_block (HB3.out.block _ HGW.out.lt)
        have d1 : w3.cell? ⟨P, 1, none⟩ = some (.slice a' m cap') := HG3.out.cell (i := 1) (by omega)
        have df := HG3.out.frozen 1
        have HL3 : Hid (Below P w1 w3) := HLWW.out.trans (HB3.out.mono (by have := HPW.out; omega))
        clear q0 q1 q2 g1
        go_wp2
        go_roundw
        case rel =>
          refine ⟨k + 1, m3, a3, cap3, by go_num, by omega, by show _ = _; rw [HST.out]; exact HM3.out, ?_, ?_, HL3.out.setCell (by simp) _⟩
          · rw [HST.out]
            exact owns_set (owns_low HO3.out HPW.out) (by omega)
          · exact (HG3.out.set 1 (by omega) _).congr (fun i hi => by rcases (show i = 0 ∨ i = 1 by omega) with rfl | rfl <;> simp)
        case measure => simp [intOf]; omega
      · obtain rfl : k = n := by omega
        obtain ⟨g0, g1⟩ := blk_pair_cells HG.out
        obtain ⟨r0, r1⟩ := blk_pair_cells HRR.out
        have rf0 := HRR.out.frozen 0
        have rf1 := HRR.out.frozen 1
        have hBP : B + 1 ≠ P := by have := HS1.out; rw [HP.out]; omega
        have HEO : Hid (EdgesOwn (P + 1) wr.heap.size wr a' (turnTo l k)) := by
          obtain ⟨a2, cap2, hv, h⟩ := edges_own HOW.out HM.out
          simp only [Value.slice.injEq] at hv
          rw [hv.1]; exact h
        have HBP : Hid (B + 1 < P + 1 ∧ w.heap.size ≤ P + 1) := by have := HS1.out; have := HB.out; rw [HP.out]; exact ⟨by omega, by omega⟩
        clear HOW
        go_wp2
        refine bodyPost_ret (v := .agg #[.int .i64 s, .slice a' m cap']) (by simp [results, Try.results24, go_sem, r0, r1]) rfl ?_
        refine ⟨a', m, cap', rfl, by show _ = _; rw [HT.out]; exact HM.out, ?_, ?_⟩
        · rw [HT.out]
          have h := ((HEO.out.setCell (b := B + 1) (j := 0) HBP.out.1 (.int .i64 s)).setCell (b := B + 1) (j := 1) HBP.out.1 (.slice a' m cap'))
          exact h.wide HBP.out.2 (by simp)
        · exact (HLW.out.setCell (by rw [HB.out]; simp) _).setCell (by rw [HB.out]; simp) _
  · subst hs
    have HT : Hid (gturn s l = l) := by show _ = _; unfold gturn; rw [← HS.out]; rfl
    obtain ⟨c0, c1⟩ := blk_pair_cells HG1.out
    go_wp2_with fail
    refine (l04Copy_any lo hi s a n cap l w1 (HA.out.below HB1.out HH.out) (Nat.le_trans HH.out HB1.out.size) HN.out hm).mono ?_
    rintro e w2 ⟨a2, cap2, rfl, HO2, HB2⟩
    have HR2 : Hid (Blk w2 (B + 1) 2 (fun i => if i = 0 then .int .i64 0 else .slice none 0 0)) := HR1.out.of_block (HB2.out.block _ HR1.out.lt)
    obtain ⟨r0, r1⟩ := blk_pair_cells HR2.out
    have rf0 := HR2.out.frozen 0
    have rf1 := HR2.out.frozen 1
    have HEO : Hid (EdgesOwn w1.heap.size w2.heap.size w2 a2 l) := by
      obtain ⟨a3, cap3, hv, h⟩ := edges_own HO2.out HN.out
      simp only [Value.slice.injEq] at hv
      rw [hv.1]; exact h
    have HB2' : Hid (Below w.heap.size w w2) := HB1.out.trans (HB2.out.mono HB1.out.size)
    clear c0 c1 HO2
    go_wp2
    refine bodyPost_ret (v := .agg #[.int .i64 s, .slice a2 n cap2]) (by simp [results, Try.results24, go_sem, r0, r1]) rfl ?_
    refine ⟨a2, n, cap2, rfl, by show _ = _; rw [HT.out]; exact HN.out, ?_, ?_⟩
    · rw [HT.out]
      have h := ((HEO.out.setCell (b := B + 1) (j := 0) (by have := HS1.out; omega) (.int .i64 s)).setCell (b := B + 1) (j := 1) (by have := HS1.out; omega) (.slice a2 n cap2))
      exact h.wide HB1.out.size (by simp)
    · exact (HB2'.out.setCell (by rw [HB.out]; simp) _).setCell (by rw [HB.out]; simp) _
end Go.Proofs.Ytfeimdlkpiacoaa
