/-
  Draws over any drawn graph: DrawTurned, DrawGraphText.
-/
import Derived.Test.YtelikebpddhncaaDrA
namespace Go.Proofs.Ytelikebpddhncaa
open Go.RowKit

set_option maxHeartbeats 1000000 in
set_option maxRecDepth 100000 in
theorem drawTurned_any (w : World) (n cap : Nat) (ao : Option Addr) (hn : n ≤ 1048576) (hc : CodeIn w ao n) :
    Calls Try.prog 33 #[.slice ao n cap] w fun e w' => ∃ (s : Int) (a : Option Addr) (nL cL : Nat) (L : List Ed), e = .returned (gv s a nL cL) ∧ Hid (L.length = nL) ∧ Hid (EdgesIn w.heap.size w'.heap.size w' a L) ∧ Hid (nL ≤ 11) ∧ Hid (Below w.heap.size w w') := by
  obtain ⟨B, HB⟩ : ∃ B, Hid (w.heap.size = B) := ⟨_, rfl⟩
  have HC : Hid (CodeIn w ao n) := hc
  clear hc
  go_enter Try.func33, Try.ntmps33
  go_wp2_with fail
  rw [HB.out]
  generalize hW : World.alloc _ _ = W
  have HC1 : Hid (CodeIn W ao n) := by show CodeIn _ _ _; rw [← hW]; exact HC.out.below (below1 w _)
  have HB1 : Hid (Below B w W) := by show Below _ _ _; rw [← hW, ← HB.out]; exact below1 w _
  have HR1 : Hid (Blk W B 2 (fun i => if i = 0 then .int .i64 0 else .slice none 0 0)) := by show Blk _ _ _ _; rw [← hW]; exact blk_two w B HB.out.symm _ _ _
  clear hW
  refine (new_any W ao n cap hn HC1.out).mono ?_
  rintro e w1 ⟨rfl, hc1, hb1⟩
  obtain ⟨p, HP⟩ : ∃ p, Hid (p = W.heap.size) := ⟨_, rfl⟩
  have HCU : Hid (CurL p ao n cap w1) := by rw [HP.out]; exact ⟨hc1, cur_start HC1.out⟩
  have HPB : Hid (B < p) := by show B < p; rw [HP.out]; exact HR1.out.lt
  have HR2 : Hid (Blk w1 B 2 (fun i => if i = 0 then .int .i64 0 else .slice none 0 0)) := HR1.out.of_block (hb1.block _ HR1.out.lt)
  have HB2 : Hid (Below B w w1) := HB1.out.trans (hb1.mono (by have := HPB.out; have := HP.out; omega))
  rw [← HP.out]
  clear hc1 hb1 HR1 HB1 HC1
  go_wp2_with fail
  refine (l04Any_any w1 p n cap ao HCU.out).mono ?_
  rintro e w2 ⟨s, a, nL, cL, L, rfl, HLN, HE, HGD, HC2, HK2⟩
  have HR3 : Hid (Blk w2 B 2 (fun i => if i = 0 then .int .i64 0 else .slice none 0 0)) := HR2.out.keptBut HK2.out (by have := HPB.out; omega)
  have HB3 : Hid (Below B w w2) := HB2.out.trans (HK2.out.to_below (Nat.le_of_lt HPB.out) (by have := HR2.out.lt; omega))
  have HSZ : Hid (B < w1.heap.size) := HR2.out.lt
  clear HR2 HB2 HCU HC2
  obtain ⟨r0, r1⟩ := blk_pair_cells HR3.out
  have rf0 := HR3.out.frozen 0
  have rf1 := HR3.out.frozen 1
  go_wp2
  refine bodyPost_ret (v := .agg #[.int .i64 s, .slice a nL cL]) (by simp [results, Try.results33, go_sem, r0, r1]) rfl ?_
  have hl := HB.out
  have hz := HSZ.out
  refine ⟨s, a, nL, cL, L, rfl, HLN, ?_, HGD, ?_⟩
  · refine (HE.out.kept (p := fun k => k = B) ?_ (Nat.le_refl _) (fun k h1 _ e => by omega)).wide (by omega) (by simp)
    exact ((KeptP.refl (fun k => k = B) w2).setCell (g := B) rfl _).setCell (g := B) rfl _
  · rw [hl]; exact (HB3.out.setCell (Nat.le_refl _) _).setCell (Nat.le_refl _) _

set_option maxHeartbeats 1000000 in
set_option maxRecDepth 100000 in
theorem drawGText_any (w : World) (n cap : Nat) (ao : Option Addr) (hn : n ≤ 1048576) (hc : CodeIn w ao n) :
    Calls Try.prog 35 #[.slice ao n cap] w fun e w' => ∃ (s : Int) (a : Option Addr) (nL cL : Nat) (L : List Ed), e = .returned (gv s a nL cL) ∧ Hid (L.length = nL) ∧ Hid (EdgesIn w.heap.size w'.heap.size w' a L) ∧ Hid (nL ≤ 11) ∧ Hid (Below w.heap.size w w') := by
  obtain ⟨B, HB⟩ : ∃ B, Hid (w.heap.size = B) := ⟨_, rfl⟩
  have HC : Hid (CodeIn w ao n) := hc
  clear hc
  go_enter Try.func35, Try.ntmps35
  go_wp2_with fail
  rw [HB.out]
  generalize hW : World.alloc _ _ = W
  have HC1 : Hid (CodeIn W ao n) := by show CodeIn _ _ _; rw [← hW]; exact HC.out.below (below1 w _)
  have HB1 : Hid (Below B w W) := by show Below _ _ _; rw [← hW, ← HB.out]; exact below1 w _
  have HR1 : Hid (Blk W B 2 (fun i => if i = 0 then .int .i64 0 else .slice none 0 0)) := by show Blk _ _ _ _; rw [← hW]; exact blk_two w B HB.out.symm _ _ _
  clear hW
  refine (new_any W ao n cap hn HC1.out).mono ?_
  rintro e w1 ⟨rfl, hc1, hb1⟩
  obtain ⟨p, HP⟩ : ∃ p, Hid (p = W.heap.size) := ⟨_, rfl⟩
  have HCU : Hid (CurL p ao n cap w1) := by rw [HP.out]; exact ⟨hc1, cur_start HC1.out⟩
  have HPB : Hid (B < p) := by show B < p; rw [HP.out]; exact HR1.out.lt
  have HR2 : Hid (Blk w1 B 2 (fun i => if i = 0 then .int .i64 0 else .slice none 0 0)) := HR1.out.of_block (hb1.block _ HR1.out.lt)
  have HB2 : Hid (Below B w w1) := HB1.out.trans (hb1.mono (by have := HPB.out; have := HP.out; omega))
  rw [← HP.out]
  clear hc1 hb1 HR1 HB1 HC1
  go_wp2_with fail
  refine (l04Any_any w1 p n cap ao HCU.out).mono ?_
  rintro e w2 ⟨s, a, nL, cL, L, rfl, HLN, HE, HGD, HC2, HK2⟩
  have HR3 : Hid (Blk w2 B 2 (fun i => if i = 0 then .int .i64 0 else .slice none 0 0)) := HR2.out.keptBut HK2.out (by have := HPB.out; omega)
  have HB3 : Hid (Below B w w2) := HB2.out.trans (HK2.out.to_below (Nat.le_of_lt HPB.out) (by have := HR2.out.lt; omega))
  have HSZ : Hid (B < w1.heap.size) := HR2.out.lt
  clear HR2 HB2 HCU HC2
  obtain ⟨r0, r1⟩ := blk_pair_cells HR3.out
  have rf0 := HR3.out.frozen 0
  have rf1 := HR3.out.frozen 1
  go_wp2
  refine bodyPost_ret (v := .agg #[.int .i64 s, .slice a nL cL]) (by simp [results, Try.results35, go_sem, r0, r1]) rfl ?_
  have hl := HB.out
  have hz := HSZ.out
  refine ⟨s, a, nL, cL, L, rfl, HLN, ?_, HGD, ?_⟩
  · refine (HE.out.kept (p := fun k => k = B) ?_ (Nat.le_refl _) (fun k h1 _ e => by omega)).wide (by omega) (by simp)
    exact ((KeptP.refl (fun k => k = B) w2).setCell (g := B) rfl _).setCell (g := B) rfl _
  · rw [hl]; exact (HB3.out.setCell (Nat.le_refl _) _).setCell (Nat.le_refl _) _
end Go.Proofs.Ytelikebpddhncaa
