/-
  impl.ReadPath.
-/
import Derived.Test.YteepbmgdjghfjaaRpD
import Derived.Test.YteepbmgdjghfjaaShpB
import Derived.Test.YteepbmgdjghfjaaRpN
namespace Go.Proofs.Yteepbmgdjghfjaa
open Go.RowKit

set_option maxHeartbeats 2000000 in
set_option maxRecDepth 100000 in
theorem readPath_any (s : ByteArray) (w : World) (hs : s.size ≤ 9223372036854775807) :
    Calls Try.prog 18 #[.string s] w fun e w' => RPost (readP s) w e w' := by
  by_cases h20 : 20 < s.size
  · have hd : (20 : Int) < (s.size : Int) := by omega
    have HN : Hid (readP s = none) := readP_size h20
    obtain ⟨W, HW⟩ : ∃ W, Hid (W = w.alloc (.cells #[.slice none 0 0] 36)) := ⟨_, rfl⟩
    have HBW : Hid (Below w.heap.size w W) := by rw [HW.out]; exact below1 _ _
    have c2 : W.cell? ⟨w.heap.size, 0, none⟩ = some (.slice none 0 0) := by rw [HW.out]; exact (blk_one w w.heap.size rfl _ _).cell (i := 0) (by omega)
    go_enter Try.func18, Try.ntmps18
    go_wp2
    rw [← HW.out]
    refine bodyPost_ret (v := .tuple #[.agg #[.slice none 0 0], .bool false]) (by simp [results, Try.results18, go_sem, c2]) rfl ?_
    rw [HN.out]
    exact ⟨none, 0, 0, false, rfl, rfl, rfl, .inl rfl, HBW⟩
  · have hd : ¬ (20 : Int) < (s.size : Int) := by omega
    obtain ⟨E, HE⟩ : ∃ E, Hid (E = w.heap.size) := ⟨_, rfl⟩
    obtain ⟨W, HW⟩ : ∃ W, Hid (W = (w.alloc (.cells #[.slice none 0 0] 36)).alloc (.cells #[.string s, .int .i64 0, .slice none 0 0, .bool false] 75)) := ⟨_, rfl⟩
    have HBW : Hid (Below w.heap.size w W) := by rw [HW.out]; exact below2 w _ _
    have HSW : Hid (W.heap.size = E + 2) := by rw [HW.out, HE.out]; show _ = _; simp
    have HK2 : Hid (Blk W E 1 (fun _ => .slice none 0 0)) := by rw [HW.out]; exact (blk_one w E HE.out _ _).alloc _
    have HR0 : Hid (RI (E + 2) (E + 1) s W 0 [] false (fun _ => False)) := by
      refine ⟨.slice none 0 0, ?_, LaidO.nil _ _, fun h => h⟩
      rw [HW.out]
      have e : E + 1 = (w.alloc (.cells #[.slice none 0 0] 36)).heap.size := by rw [HE.out]; simp
      rw [e]
      exact blk_new _ #[.string s, .int .i64 0, .slice none 0 0, .bool false] _ _ (fun i hi => by
        have hi2 : i < 4 := hi
        rcases (show i = 0 ∨ i = 1 ∨ i = 2 ∨ i = 3 by omega) with rfl | rfl | rfl | rfl <;> rfl)
    obtain ⟨P, HP⟩ : ∃ P, Hid (P = altP (bt s) s.size (s.size + 1) 0 []) := ⟨_, rfl⟩
    have HC := altOK s (by omega) s.size (E + 2) (E + 1) 0 [] false (fun _ => False) W HR0.out (by rw [HSW.out]; exact Nat.le_refl _) (by simp; omega) (Nat.zero_le _) (by omega)
    rw [← HP.out] at HC
    obtain ⟨Z, HZ⟩ : ∃ Z, Hid (Z = readP s) := ⟨_, rfl⟩
    have HN1 : Hid (P = none → Z = none) := fun h => by rw [HZ.out]; exact readP_none h20 HP.out h
    have HN2 : Hid (∀ a l k, P = some (a, l, k) → Z = if a < s.size then none else if okP l = true then some l else none) := fun a l k h => by rw [HZ.out]; exact readP_some h20 HP.out h
    rw [← HZ.out]
    go_enter Try.func18, Try.ntmps18
    go_upto_region 4 with fail
    rw [← HE.out, ← HW.out]
    clear HW
    go_wp2_with fail
    refine HC.mono ?_
    rintro e w1 ⟨k, a1, l1, f1, U1, rfl, HR1, HU1, HF1, HB1⟩
    clear HC
    have hb1 := HB1.out.1
    have hb2 := HB1.out.2.1
    have hb3 := HB1.out.2.2
    simp only [List.length_nil, Nat.zero_add, Nat.sub_zero] at hb2 hb3
    have HBX1 : Hid (Below E W w1) := HU1.out.1.to_below (by rw [HSW.out]; omega) (fun c hc => (show c = E + 1 ∨ False from hc).elim (fun h => by omega) (fun h => h.elim))
    have HBX1' : Hid (Below (E + 1) W w1) := HU1.out.1.to_below (by rw [HSW.out]; omega) (fun c hc => (show c = E + 1 ∨ False from hc).elim (fun h => by omega) (fun h => h.elim))
    have HBE1 : Hid (Below w.heap.size w w1) := HBW.out.trans (HBX1.out.mono (by rw [HE.out]; exact Nat.le_refl _))
    obtain ⟨v, hbl, hla, hup⟩ := HR1.out
    obtain ⟨a9, cap9, rfl, hpo⟩ := hla.toOwn
    have HPO : Hid (PathOwn (E + 2) w1.heap.size w1 a9 l1) := hpo
    obtain ⟨n9, HN9⟩ : ∃ n, Hid (l1.length = n) := ⟨_, rfl⟩
    rw [HN9.out] at hbl hb3
    have r0 : w1.cell? ⟨E + 1, 0, none⟩ = some (.string s) := hbl.cell (i := 0) (by omega)
    have r1 : w1.cell? ⟨E + 1, 1, none⟩ = some (.int .i64 (a1 : Int)) := hbl.cell (i := 1) (by omega)
    have r2 : w1.cell? ⟨E + 1, 2, none⟩ = some (.slice a9 n9 cap9) := hbl.cell (i := 2) (by omega)
    have r3 : w1.cell? ⟨E + 1, 3, none⟩ = some (.bool f1) := hbl.cell (i := 3) (by omega)
    have HBL : Hid (Blk w1 (E + 1) 4 (rcI s a1 (.slice a9 n9 cap9) f1)) := hbl
    have HK21 : Hid (Blk w1 E 1 (fun _ => .slice none 0 0)) := HK2.out.of_block (HBX1'.out.block E (by omega))
    have hsz1 := HBX1.out.size
    have hS := HSW.out
    clear hbl hla hup hpo
    obtain ⟨W2, HW2⟩ : ∃ W2, Hid (W2 = w1.alloc (.cells #[.slice a9 n9 cap9] 36)) := ⟨_, rfl⟩
    have HBW2 : Hid (Below w1.heap.size w1 W2) := by rw [HW2.out]; exact below1 _ _
    have HBE2 : Hid (Below w.heap.size w W2) := HBE1.out.trans (HBW2.out.mono HBE1.out.size)
    have HK22 : Hid (Blk W2 E 1 (fun _ => .slice none 0 0)) := HK21.out.of_block (HBW2.out.block _ HK21.out.lt)
    have HBX : Hid (Blk W2 w1.heap.size 1 (fun _ => .slice a9 n9 cap9)) := by rw [HW2.out]; exact blk_one w1 _ rfl _ _
    have HPO2 : Hid (PathOwn (E + 2) w1.heap.size W2 a9 l1) := HPO.out.below HBW2.out (Nat.le_refl _)
    have HBL2 : Hid (Blk W2 (E + 1) 4 (rcI s a1 (.slice a9 n9 cap9) f1)) := HBL.out.of_block (HBW2.out.block _ HBL.out.lt)
    have HNO : Hid (∀ wx, Below w.heap.size w wx → Z = none → RPost Z w (.returned (.tuple #[.agg #[.slice none 0 0], .bool false])) wx) := by
      intro wx h1 h2
      rw [h2]
      exact ⟨none, 0, 0, false, rfl, rfl, rfl, .inl rfl, h1⟩
    go_upto_region 6 with fail
    rw [← HW2.out]
    clear r0 r1 r2 r3 HW2
    have r1 : W2.cell? ⟨E + 1, 1, none⟩ = some (.int .i64 (a1 : Int)) := HBL2.out.cell (i := 1) (by omega)
    have r3 : W2.cell? ⟨E + 1, 3, none⟩ = some (.bool f1) := HBL2.out.cell (i := 3) (by omega)
    have c2 := HK22.out.cell (i := 0) (by omega)
    have z2 := HK22.out.frozen 0
    have x0 := HBX.out.cell (i := 0) (by omega)
    have HSETN : Hid (∀ wx, Blk wx E 1 (fun _ => .slice none 0 0) → Blk (wx.setCell ⟨E, 0, none⟩ (.slice none 0 0)) E 1 (fun _ => .slice none 0 0)) := fun wx h => (h.set 0 (by omega) _).congr (fun i hi => by
      obtain rfl : i = 0 := by omega
      simp)
    rcases Bool.eq_false_or_eq_true f1 with hf | hf
    · subst hf
      have HZN : Hid (Z = none) := by
        rcases HF1.out with ⟨_, h | h⟩ | ⟨_, h, _⟩
        · cases h
        · exact HN1.out h
        · cases h
      have k2 := (HSETN.out _ HK22.out).cell (i := 0) (by omega)
      go_wp2
      refine bodyPost_ret (v := .tuple #[.agg #[.slice none 0 0], .bool false]) (by simp [results, Try.results18, go_sem, k2]) rfl ?_
      exact HNO.out _ (HBE2.out.setCell (by rw [HE.out]; exact Nat.le_refl _) _) HZN.out
    · subst hf
      have HZX : Hid (Z = if a1 < s.size then none else if okP l1 = true then some l1 else none) := by
        rcases HF1.out with ⟨h, _⟩ | ⟨_, _, h3⟩
        · cases h
        · exact HN2.out _ _ _ h3
      by_cases hlt : a1 < s.size
      · have hl1 : (a1 : Int) < (s.size : Int) := by omega
        have HZN : Hid (Z = none) := by show _ = _; rw [HZX.out, if_pos hlt]
        have k2 := (HSETN.out _ HK22.out).cell (i := 0) (by omega)
        go_wp2
        refine bodyPost_ret (v := .tuple #[.agg #[.slice none 0 0], .bool false]) (by simp [results, Try.results18, go_sem, k2]) rfl ?_
        exact HNO.out _ (HBE2.out.setCell (by rw [HE.out]; exact Nat.le_refl _) _) HZN.out
      · have hl1 : ¬ (a1 : Int) < (s.size : Int) := by omega
        obtain ⟨R, HRO⟩ : ∃ r, Hid (r = okP l1) := ⟨_, rfl⟩
        rw [if_neg hlt, ← HRO.out] at HZX
        have hn9 : n9 ≤ 1048576 := by omega
        have HKL : Hid (∀ i, i < n9 → (pat l1 i).2.2.length ≤ 1048576) := by
          have h3 : P = some (a1, l1, k) := by
            rcases HF1.out with ⟨h, _⟩ | ⟨_, _, h⟩
            · cases h
            · exact h
          rw [HP.out] at h3
          have hkb := altP_kb (by omega) _ _ _ _ KB.nil h3
          intro i hi
          exact Nat.le_trans (hkb.pat (by rw [HN9.out]; exact hi)) (by omega)
        go_wp2_with fail
        refine (pathOk_any (E + 2) w1.heap.size a9 n9 cap9 l1 R W2 HPO2.out.toIn HBW2.out.size HN9.out hn9 HKL.out HRO.out).mono ?_
        rintro e w3 ⟨rfl, HB3⟩
        have HBE3 : Hid (Below w.heap.size w w3) := HBE2.out.trans (HB3.out.mono HBE2.out.size)
        have HK23 : Hid (Blk w3 E 1 (fun _ => .slice none 0 0)) := HK22.out.of_block (HB3.out.block _ HK22.out.lt)
        have HX3 : Hid (Blk w3 w1.heap.size 1 (fun _ => .slice a9 n9 cap9)) := HBX.out.of_block (HB3.out.block _ HBX.out.lt)
        have HPO3 : Hid (PathOwn (E + 2) w1.heap.size w3 a9 l1) := HPO2.out.below HB3.out HBW2.out.size
        clear c2 z2 x0 r1 r3
        have c2 := HK23.out.cell (i := 0) (by omega)
        have z2 := HK23.out.frozen 0
        have x0 := HX3.out.cell (i := 0) (by omega)
        rcases Bool.eq_false_or_eq_true R with hR | hR
        · subst hR
          have HZS : Hid (Z = some l1) := by show _ = _; rw [HZX.out]; rfl
          have k2 : (w3.setCell ⟨E, 0, none⟩ (.slice a9 n9 cap9)).cell? ⟨E, 0, none⟩ = some (.slice a9 n9 cap9) := (HK23.out.set 0 (by omega) (.slice a9 n9 cap9)).cell (i := 0) (by omega)
          go_wp2
          refine bodyPost_ret (v := .tuple #[.agg #[.slice a9 n9 cap9], .bool true]) (by simp [results, Try.results18, go_sem, k2]) rfl ?_
          rw [HZS.out]
          refine ⟨a9, n9, cap9, true, rfl, rfl, HN9, ?_, HBE3.out.setCell (by rw [HE.out]; exact Nat.le_refl _) _⟩
          exact (HPO3.out.setCell (by omega) _).wide (by have := HE.out; omega) (by have := HB3.out.size; have := HBW2.out.size; simp; omega)
        · subst hR
          have HZN : Hid (Z = none) := by show _ = _; rw [HZX.out]; rfl
          have k2 := (HSETN.out _ HK23.out).cell (i := 0) (by omega)
          go_wp2
          refine bodyPost_ret (v := .tuple #[.agg #[.slice none 0 0], .bool false]) (by simp [results, Try.results18, go_sem, k2]) rfl ?_
          exact HNO.out _ (HBE3.out.setCell (by rw [HE.out]; exact Nat.le_refl _) _) HZN.out
end Go.Proofs.Yteepbmgdjghfjaa
