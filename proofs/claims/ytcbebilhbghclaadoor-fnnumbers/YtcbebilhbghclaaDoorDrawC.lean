/-
  What is drawn for numbers and texts: l01Number, l01Text, l01Long, DrawVarText, DrawHex.
-/
import Derived.Test.YtcbebilhbghclaaDoorDrawB
namespace Go.Proofs.YtcbebilhbghclaaDoor
open Go.RowKit

theorem KeptBut.alloc {g : Nat} {w w1 : World} (h : KeptBut g w w1) (o : Obj) : KeptBut g w (w1.alloc o) :=
  h.below ((Below.refl _ w1).alloc (Nat.le_refl _) o)
theorem Cur.keep {p n cap : Nat} {ao : Option Addr} {w w' : World} (h : Cur p ao n cap w) (hb : Below w.heap.size w w') : Cur p ao n cap w' := by
  obtain ⟨i, x, hc⟩ := h
  refine ⟨i, x, (hb.block p hc.lt).trans hc.blk, hc.le, hc.small, ?_⟩
  rcases hc.code with h | ⟨b, off, e, hne, hs, hz⟩
  · exact .inl h
  · refine .inr ⟨b, off, e, hne, Nat.lt_of_lt_of_le hs hb.size, fun k hk => ?_⟩
    obtain ⟨z, h0, h1, hcc⟩ := hz k hk
    exact ⟨z, h0, h1, (hb.cell hs).trans hcc⟩
theorem Cur.lt {p n cap : Nat} {ao : Option Addr} {w : World} (h : Cur p ao n cap w) : p < w.heap.size := by
  obtain ⟨i, x, hc⟩ := h
  exact hc.lt

theorem ten_cells (w : World) : ∀ k, k < 10 → ∃ z : Int, -9223372036854775808 ≤ z ∧ z ≤ 9223372036854775807 ∧
    (w.alloc (.cells #[.int .i64 (-1), .int .i64 0, .int .i64 127, .int .i64 128, .int .i64 16383, .int .i64 16384, .int .i64 1000000000, .int .i64 1000000001, .int .i64 9223372036854775807, .int .i64 (-9223372036854775808)] 3)).cell? ⟨w.heap.size, k, none⟩ = some (.int .i64 z) := by
  intro k hk
  rw [cell_of_row _ w.heap.size k _ 3 (0, 0) (heap_alloc_new w _)]
  match k, hk with
  | 0, _ => exact ⟨-1, by omega, by omega, rfl⟩
  | 1, _ => exact ⟨0, by omega, by omega, rfl⟩
  | 2, _ => exact ⟨127, by omega, by omega, rfl⟩
  | 3, _ => exact ⟨128, by omega, by omega, rfl⟩
  | 4, _ => exact ⟨16383, by omega, by omega, rfl⟩
  | 5, _ => exact ⟨16384, by omega, by omega, rfl⟩
  | 6, _ => exact ⟨1000000000, by omega, by omega, rfl⟩
  | 7, _ => exact ⟨1000000001, by omega, by omega, rfl⟩
  | 8, _ => exact ⟨9223372036854775807, by omega, by omega, rfl⟩
  | 9, _ => exact ⟨-9223372036854775808, by omega, by omega, rfl⟩
  | n + 10, h => omega

set_option maxHeartbeats 1000000 in
set_option maxRecDepth 100000 in
theorem number_cur (w : World) (p n cap : Nat) (ao : Option Addr) (hc : Cur p ao n cap w) :
    Calls Tryd.prog 25 #[.pointer (some ⟨p, 0, none⟩)] w fun e w' => ∃ x : Int, e = .returned (.int .i64 x) ∧ -9223372036854775808 ≤ x ∧ x ≤ 9223372036854775807 ∧ Cur p ao n cap w' ∧ KeptBut p w w' := by
  have HC : Hid (Cur p ao n cap w) := hc
  clear hc
  go_enter Tryd.func25, Tryd.ntmps25
  go_wp2_with fail
  refine (below_cur _ p n cap ao 4 (by omega) (by omega) HC.out).mono ?_
  rintro e w1 ⟨x, rfl, hx0, hx1, hc1, hk1⟩
  have HC1 : Hid (Cur p ao n cap w1) := hc1
  have HK1 : Hid (KeptBut p w w1) := hk1
  clear hc1 hk1
  by_cases h0 : x = 0
  · have e0 : (x == 0) = true := by simp; omega
    have HT := ten_cells w1
    have HT' : Hid (∀ k, k < 10 → ∃ z : Int, -9223372036854775808 ≤ z ∧ z ≤ 9223372036854775807 ∧
      (w1.alloc (.cells #[.int .i64 (-1), .int .i64 0, .int .i64 127, .int .i64 128, .int .i64 16383, .int .i64 16384, .int .i64 1000000000, .int .i64 1000000001, .int .i64 9223372036854775807, .int .i64 (-9223372036854775808)] 3)).cell? ⟨w1.heap.size, k, none⟩ = some (.int .i64 z)) := HT
    clear HT h0
    go_wp2_with fail
    refine (pickInt_cur _ p n cap ao w1.heap.size 10 10 (by omega) (by omega) ?_ ?_ HT'.out ?_).mono ?_
    · have := HC1.out.lt; omega
    · simp
    · exact HC1.out.keep ((Below.refl _ w1).alloc (Nat.le_refl _) _)
    · rintro e w2 ⟨z, rfl, hz0, hz1, hc2, hk2⟩
      have HC2 : Hid (Cur p ao n cap w2) := hc2
      have HK2 : Hid (KeptBut p w w2) := (HK1.out.alloc _).trans hk2
      clear hc2 hk2
      go_wp2
      go_ret
      exact ⟨_, rfl, hz0, hz1, HC2.out, HK2.out⟩
  · have e0 : (x == 0) = false := by simp; omega
    by_cases h1 : x = 1
    · have e1 : (x == 1) = true := by simp; omega
      clear h0 h1
      go_wp2_with fail
      refine (below_cur _ p n cap ao 1000000000 (by omega) (by omega) HC1.out).mono ?_
      rintro e w2 ⟨z, rfl, hz0, hz1, hc2, hk2⟩
      have HC2 : Hid (Cur p ao n cap w2) := hc2
      have HK2 : Hid (KeptBut p w w2) := HK1.out.trans hk2
      clear hc2 hk2
      go_wp2
      go_ret
      exact ⟨_, rfl, by omega, by omega, HC2.out, HK2.out⟩
    · have e1 : (x == 1) = false := by simp; omega
      clear h0 h1
      go_wp2_with fail
      refine (below_cur _ p n cap ao 400 (by omega) (by omega) HC1.out).mono ?_
      rintro e w2 ⟨z, rfl, hz0, hz1, hc2, hk2⟩
      have HC2 : Hid (Cur p ao n cap w2) := hc2
      have HK2 : Hid (KeptBut p w w2) := HK1.out.trans hk2
      clear hc2 hk2
      go_wp2
      go_ret
      exact ⟨_, rfl, by omega, by omega, HC2.out, HK2.out⟩

set_option maxHeartbeats 400000 in
theorem drawVar_any (w : World) (ao : Option Addr) (n cap : Nat) (hn : n ≤ 1048576) (hc : CodeIn w ao n) :
    Calls Tryd.prog 8 #[.slice ao n cap] w fun e w' => ∃ x : Int, e = .returned (.int .i64 x) ∧ -9223372036854775808 ≤ x ∧ x ≤ 9223372036854775807 ∧ Below w.heap.size w w' := by
  have HC : Hid (CodeIn w ao n) := hc
  clear hc
  go_enter Tryd.func8, Tryd.ntmps8
  go_wp2_with fail
  refine (new_any _ ao n cap hn HC.out).mono ?_
  rintro e w1 ⟨rfl, hc1, hb1⟩
  have HC1 : Hid (Cur w.heap.size ao n cap w1) := hc1
  have HB1 : Hid (Below w.heap.size w w1) := hb1
  clear hc1 hb1
  go_wp2_with fail
  refine (number_cur _ _ n cap ao HC1.out).mono ?_
  rintro e w2 ⟨x, rfl, hx0, hx1, _, hk2⟩
  have HB2 : Hid (Below w.heap.size w w2) := HB1.out.trans (hk2.to_below (Nat.le_refl _) HB1.out.size)
  clear hk2
  go_wp2
  go_ret
  exact ⟨_, rfl, hx0, hx1, HB2.out⟩
end Go.Proofs.YtcbebilhbghclaaDoor
