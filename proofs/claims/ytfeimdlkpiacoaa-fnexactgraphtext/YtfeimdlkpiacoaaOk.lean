/-
  Right bags: itemOk, impl.BagOk; what a right bag is.
-/
import Derived.Test.YtfeimdlkpiacoaaItemC
namespace Go.Proofs.Ytfeimdlkpiacoaa
open Go.RowKit

/-- the item at place i is right, and its row comes behind the one ahead of it -/
def okAt (l : List It) (i : Nat) : Bool := okItem (at' l i).1 (at' l i).2 && (decide (i = 0) || (rowLt (at' l (i - 1)).1 (at' l i).1 && decide ((at' l (i - 1)).1.length = (at' l i).1.length)))
/-- the items ahead of place k are right -/
def okTo (l : List It) : Nat → Bool
  | 0 => true
  | k + 1 => okTo l k && okAt l k
/-- a right bag -/
def okBag (l : List It) : Bool := decide (l.length ≤ 300) && okTo l l.length

theorem okTo_false {l : List It} {k n : Nat} (h : k < n) (hk : okAt l k = false) : okTo l n = false := by
  induction n with
  | zero => omega
  | succ n ih =>
    simp only [okTo]
    rcases Nat.lt_or_ge k n with h1 | h1
    · rw [ih h1]; rfl
    · obtain rfl : k = n := by omega
      rw [hk]; simp
theorem okTo_at {l : List It} {k n : Nat} (h : okTo l n = true) (hk : k < n) : okAt l k = true := by
  rcases hv : okAt l k with _ | _
  · rw [okTo_false hk hv] at h; cases h
  · rfl
theorem okBag_no {l : List It} {k : Nat} (h : k < l.length) (hk : okAt l k = false) : okBag l = false := by unfold okBag; rw [okTo_false h hk]; simp
theorem okBag_len {l : List It} (h : okBag l = true) : l.length ≤ 300 := by unfold okBag at h; simp at h; exact h.1
theorem okBag_at {l : List It} (h : okBag l = true) {k : Nat} (hk : k < l.length) : okAt l k = true := by unfold okBag at h; simp only [Bool.and_eq_true] at h; exact okTo_at h.2 hk
theorem okBag_of {l : List It} (h : l.length ≤ 300) (hk : ∀ k, k < l.length → okAt l k = true) : okBag l = true := by
  rcases hv : okTo l l.length with _ | _
  · exfalso
    have : ∀ n, n ≤ l.length → okTo l n = true := by
      intro n
      induction n with
      | zero => intro _; rfl
      | succ n ih => intro hn; simp only [okTo]; rw [ih (by omega), hk n (by omega)]; rfl
    rw [this _ (Nat.le_refl _)] at hv; cases hv
  · unfold okBag; rw [hv]; simp [h]
theorem okAt_no {l : List It} {i : Nat} (h : okItem (at' l i).1 (at' l i).2 = false) : okAt l i = false := by unfold okAt; rw [h]; rfl
theorem okAt_zero {l : List It} (h : okItem (at' l 0).1 (at' l 0).2 = true) : okAt l 0 = true := by unfold okAt; rw [h]; rfl
theorem okAt_pos {l : List It} {i : Nat} (h : okItem (at' l i).1 (at' l i).2 = true) (hi : i ≠ 0) : okAt l i = (rowLt (at' l (i - 1)).1 (at' l i).1 && decide ((at' l (i - 1)).1.length = (at' l i).1.length)) := by unfold okAt; rw [h]; simp [hi]

theorem below1 (w : World) (o1 : Obj) : Below w.heap.size w (w.alloc o1) := (Below.refl _ _).alloc (Nat.le_refl _) _

end Go.Proofs.Ytfeimdlkpiacoaa
