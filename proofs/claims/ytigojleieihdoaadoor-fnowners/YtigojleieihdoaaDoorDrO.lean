/-
  Drawn places: spec.l01Once, l01Place, DrawOwnerOf.
-/
import Derived.Test.YtigojleieihdoaaDoorDrG
namespace Go.Proofs.YtigojleieihdoaaDoor
open Go.RowKit

set_option maxHeartbeats 400000 in
theorem once_curL (w : World) (p n cap : Nat) (ao : Option Addr) (m : Int) (h0 : 0 < m) (h1 : m ≤ 1000000000) (hc : CurL p ao n cap w) :
    Calls Tryd.prog 62 #[.pointer (some ⟨p, 0, none⟩), .int .i64 m] w fun e w' => ∃ b : Bool, e = .returned (.bool b) ∧ Hid (CurL p ao n cap w') ∧ Hid (KeptBut p w w') := by
  have HC : Hid (CurL p ao n cap w) := hc
  clear hc
  go_enter Tryd.func62, Tryd.ntmps62
  go_wp2_with fail
  refine (HC.out.draw m h0 h1).mono ?_
  rintro e w1 ⟨x, rfl, hx0, hx1, HC2, HK2⟩
  by_cases hx : x = 0
  · subst hx
    go_wp2
    go_ret
    exact ⟨true, rfl, HC2, HK2⟩
  · have hd : (x == 0) = false := by simpa using hx
    have hd2 : decide (x = 0) = false := decide_eq_false hx
    go_wp2
    go_ret
    exact ⟨false, rfl, HC2, HK2⟩

theorem five_cells (w : World) (z0 z1 z2 z3 z4 : Int) (k : Nat) (hk : k < 5) (h0 : -9223372036854775808 ≤ z0 ∧ z0 ≤ 9223372036854775807) (h1 : -9223372036854775808 ≤ z1 ∧ z1 ≤ 9223372036854775807) (h2 : -9223372036854775808 ≤ z2 ∧ z2 ≤ 9223372036854775807) (h3 : -9223372036854775808 ≤ z3 ∧ z3 ≤ 9223372036854775807) (h4 : -9223372036854775808 ≤ z4 ∧ z4 ≤ 9223372036854775807) :
    ∃ z : Int, -9223372036854775808 ≤ z ∧ z ≤ 9223372036854775807 ∧ (w.alloc (.cells #[.int .i64 z0, .int .i64 z1, .int .i64 z2, .int .i64 z3, .int .i64 z4] 3)).cell? ⟨w.heap.size, k, none⟩ = some (.int .i64 z) := by
  rw [cell_of_row _ _ k _ 3 (0, 0) (heap_alloc_new w _)]
  rcases (show k = 0 ∨ k = 1 ∨ k = 2 ∨ k = 3 ∨ k = 4 by omega) with rfl | rfl | rfl | rfl | rfl
  · exact ⟨z0, h0.1, h0.2, rfl⟩
  · exact ⟨z1, h1.1, h1.2, rfl⟩
  · exact ⟨z2, h2.1, h2.2, rfl⟩
  · exact ⟨z3, h3.1, h3.2, rfl⟩
  · exact ⟨z4, h4.1, h4.2, rfl⟩

set_option maxHeartbeats 1000000 in
theorem place_curL (w : World) (p n cap : Nat) (ao : Option Addr) (m : Int) (h0 : 0 < m) (h1 : m ≤ 1000000) (hc : CurL p ao n cap w) :
    Calls Tryd.prog 38 #[.pointer (some ⟨p, 0, none⟩), .int .i64 m] w fun e w' => ∃ x : Int, e = .returned (.int .i64 x) ∧ Hid (CurL p ao n cap w') ∧ Hid (KeptBut p w w') := by
  have HC : Hid (CurL p ao n cap w) := hc
  clear hc
  go_enter Tryd.func38, Tryd.ntmps38
  go_wp2_with fail
  refine (once_curL w p n cap ao 15 (by omega) (by omega) HC.out).mono ?_
  rintro e w1 ⟨b, rfl, HC1, HK1⟩
  rcases Bool.eq_false_or_eq_true b with h | h
  · subst h
    go_wp2_with fail
    generalize hW : World.alloc _ _ = W
    have HCW : Hid (CurL p ao n cap W) := by show CurL _ _ _ _ _; rw [← hW]; exact HC1.out.below (below1 w1 _) HC1.out.lt
    have HKW : Hid (KeptBut p w W) := by show KeptBut _ _ _; rw [← hW]; exact HK1.out.below (below1 w1 _)
    refine (pickInt_cur W p n cap ao w1.heap.size 5 5 (by omega) (by omega) (by have := HC1.out.lt; omega) (by rw [← hW]; simp) (fun k hk => by rw [← hW]; exact five_cells w1 _ _ _ _ _ k hk (by omega) (by omega) (by omega) (by omega) (by omega)) HCW.out.1).mono ?_
    rintro e w2 ⟨x, rfl, _, _, hc2, hk2⟩
    have HC2 : Hid (CurL p ao n cap w2) := ⟨hc2, HCW.out.2⟩
    have HK2 : Hid (KeptBut p w w2) := HKW.out.trans hk2
    clear hc2 hk2 hW
    go_wp2
    go_ret
    exact ⟨x, rfl, HC2, HK2⟩
  · subst h
    go_wp2_with fail
    refine (HC1.out.draw m h0 (by omega)).mono ?_
    rintro e w2 ⟨x, rfl, _, _, HC2, HK2⟩
    have HK3 : Hid (KeptBut p w w2) := HK1.out.trans HK2.out
    go_wp2
    go_ret
    exact ⟨x, rfl, HC2, HK3⟩

set_option maxHeartbeats 1000000 in
theorem drawOwner_any (w : World) (n cap : Nat) (ao : Option Addr) (hn : n ≤ 1048576) (hc : CodeIn w ao n) :
    Calls Tryd.prog 13 #[.slice ao n cap] w fun e w' => ∃ x y : Int, e = .returned (.tuple #[.int .i64 x, .int .i64 y]) ∧ Hid (Below w.heap.size w w') := by
  have HC : Hid (CodeIn w ao n) := hc
  clear hc
  go_enter Tryd.func13, Tryd.ntmps13
  go_wp2_with fail
  refine (new_any w ao n cap hn HC.out).mono ?_
  rintro e w1 ⟨rfl, hc1, hb1⟩
  obtain ⟨p, HP⟩ : ∃ p, Hid (p = w.heap.size) := ⟨_, rfl⟩
  have HCU : Hid (CurL p ao n cap w1) := by rw [HP.out]; exact ⟨hc1, cur_start HC.out⟩
  have HB1 : Hid (Below w.heap.size w w1) := hb1
  rw [← HP.out]
  clear hc1 hb1
  go_wp2_with fail
  refine (place_curL w1 p n cap ao 11 (by omega) (by omega) HCU.out).mono ?_
  rintro e w2 ⟨x, rfl, HC2, HK2⟩
  go_wp2_with fail
  refine (place_curL w2 p n cap ao 8 (by omega) (by omega) HC2.out).mono ?_
  rintro e w3 ⟨y, rfl, HC3, HK3⟩
  have HK4 : Hid (KeptBut p w1 w3) := HK2.out.trans HK3.out
  have HB4 : Hid (Below w.heap.size w w3) := HB1.out.trans (HK4.out.to_below (by rw [HP.out]; exact Nat.le_refl _) HB1.out.size)
  go_wp2
  go_ret2
  exact ⟨x, y, rfl, HB4⟩
end Go.Proofs.YtigojleieihdoaaDoor
