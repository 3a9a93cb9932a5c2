/-
  What is drawn for numbers and texts: l01Number, l01Text, l01Long, DrawVarText, DrawHex.
-/
import Derived.Test.YtelikebpddhncaaDrawB
namespace Go.Proofs.Ytelikebpddhncaa
open Go.RowKit

theorem KeptBut.alloc {g : Nat} {w w1 : World} (h : KeptBut g w w1) (o : Obj) : KeptBut g w (w1.alloc o) :=
  h.below ((Below.refl _ w1).alloc (Nat.le_refl _) o)
theorem Cur.keep {p n cap : Nat} {ao : Option Addr} {w w' : World} (h : Cur p ao n cap w) (hb : Below w.heap.size w w') : Cur p ao n cap w' := by
  obtain ⟨i, x, hc⟩ := h
  refine ⟨i, x, (hb.block p hc.lt).trans hc.blk, hc.le, hc.small, ?_⟩
  rcases hc.code with h | ⟨b, off, e, hne, hs, hz⟩
  · exact .inl h
  · refine .inr ⟨b, off, e, hne, Nat.lt_of_lt_of_le hs hb.size, fun k hk => ?_⟩
    obtain ⟨z, h0, h1, hcc⟩ := hz k hk
    exact ⟨z, h0, h1, (hb.cell hs).trans hcc⟩
theorem Cur.lt {p n cap : Nat} {ao : Option Addr} {w : World} (h : Cur p ao n cap w) : p < w.heap.size := by
  obtain ⟨i, x, hc⟩ := h
  exact hc.lt

theorem ten_cells (w : World) : ∀ k, k < 10 → ∃ z : Int, -9223372036854775808 ≤ z ∧ z ≤ 9223372036854775807 ∧
    (w.alloc (.cells #[.int .i64 (-1), .int .i64 0, .int .i64 127, .int .i64 128, .int .i64 16383, .int .i64 16384, .int .i64 1000000000, .int .i64 1000000001, .int .i64 9223372036854775807, .int .i64 (-9223372036854775808)] 3)).cell? ⟨w.heap.size, k, none⟩ = some (.int .i64 z) := by
  intro k hk
  rw [cell_of_row _ w.heap.size k _ 3 (0, 0) (heap_alloc_new w _)]
  match k, hk with
  | 0, _ => exact ⟨-1, by omega, by omega, rfl⟩
  | 1, _ => exact ⟨0, by omega, by omega, rfl⟩
  | 2, _ => exact ⟨127, by omega, by omega, rfl⟩
  | 3, _ => exact ⟨128, by omega, by omega, rfl⟩
  | 4, _ => exact ⟨16383, by omega, by omega, rfl⟩
  | 5, _ => exact ⟨16384, by omega, by omega, rfl⟩
  | 6, _ => exact ⟨1000000000, by omega, by omega, rfl⟩
  | 7, _ => exact ⟨1000000001, by omega, by omega, rfl⟩
  | 8, _ => exact ⟨9223372036854775807, by omega, by omega, rfl⟩
  | 9, _ => exact ⟨-9223372036854775808, by omega, by omega, rfl⟩
  | n + 10, h => omega

end Go.Proofs.Ytelikebpddhncaa
