/-
  The walk of FnRowsLess.
-/
import Derived.Test.YtelikebpddhncaaDRow
namespace Go.Proofs.Ytelikebpddhncaa
open Go.RowKit

theorem rowLt_flip (l m : List Int) : cmpRow l m = - cmpRow m l := by
  induction l generalizing m with
  | nil => cases m <;> simp [cmpRow]
  | cons x xs ih =>
    cases m with
    | nil => simp [cmpRow]
    | cons y ys =>
      simp only [cmpRow]
      by_cases h1 : x < y
      · rw [if_pos h1, if_neg (by omega), if_pos h1]
      · by_cases h2 : y < x
        · rw [if_neg h1, if_pos h2, if_pos h2]; rfl
        · rw [if_neg h1, if_neg h2, if_neg h2, if_neg h1, ih]
theorem cmpRow_zero (l m : List Int) : cmpRow l m = 0 ↔ l = m := by
  induction l generalizing m with
  | nil => cases m <;> simp [cmpRow]
  | cons x xs ih =>
    cases m with
    | nil => simp [cmpRow]
    | cons y ys =>
      simp only [cmpRow]
      by_cases h1 : x < y
      · rw [if_pos h1]; simp; omega
      · by_cases h2 : y < x
        · rw [if_neg h1, if_pos h2]; simp; omega
        · rw [if_neg h1, if_neg h2, ih]
          obtain rfl : x = y := by omega
          simp
/-- of two rows one is ahead, or they are the same -/
theorem row_tri (l m : List Int) : (rowLt l m = true ∧ rowLt m l = false ∧ decide (l = m) = false) ∨ (rowLt l m = false ∧ rowLt m l = true ∧ decide (l = m) = false) ∨ (rowLt l m = false ∧ rowLt m l = false ∧ decide (l = m) = true) := by
  have h1 := rowLt_flip l m
  have h2 := cmpRow_zero l m
  unfold rowLt
  by_cases h : cmpRow l m < 0
  · left; refine ⟨by simp [h], by simp; omega, ?_⟩
    rw [decide_eq_false]; intro e; have := h2.2 e; omega
  · by_cases h' : 0 < cmpRow l m
    · right; left; refine ⟨by simp; omega, by simp; omega, ?_⟩
      rw [decide_eq_false]; intro e; have := h2.2 e; omega
    · right; right; refine ⟨by simp; omega, by simp; omega, ?_⟩
      rw [decide_eq_true]; exact h2.1 (by omega)

/-- what the law's end asks, with the rows' own answers -/
theorem lit_row (w : World) (o : Obj) : RowIn 0 ((w.alloc (.cells #[.int .i64 1] 3)).alloc o).heap.size ((w.alloc (.cells #[.int .i64 1] 3)).alloc o) (some ⟨w.heap.size, 0, none⟩) [1] := by
  refine .inr ⟨w.heap.size, 0, rfl, Nat.zero_le _, by simp; omega, fun i hi => ?_⟩
  have hi' : i = 0 := by simpa using hi
  subst hi'
  exact ((blk_one w _ rfl _ _).alloc _).cell (i := 0) (by omega)
theorem lit_row2 (w : World) (b : Nat) (hb : b = w.heap.size) : RowIn 0 (w.alloc (.cells #[.int .i64 1, .int .i64 0] 3)).heap.size (w.alloc (.cells #[.int .i64 1, .int .i64 0] 3)) (some ⟨b, 0, none⟩) [1, 0] := by
  subst hb
  refine .inr ⟨w.heap.size, 0, rfl, Nat.zero_le _, by simp, fun i hi => ?_⟩
  have hi' : i < 2 := by simpa using hi
  have hk := blk_two w w.heap.size rfl (.int .i64 1) (.int .i64 0) 3
  rw [Nat.zero_add, hk.cell hi']
  rcases i with _ | _ | i
  · rfl
  · rfl
  · omega

end Go.Proofs.Ytelikebpddhncaa
