/-
  How much a bag holds (BagSize), how often a row is there (BagTimes), by the program and by the model.
-/
import Derived.Test.YtfeimdlkpiacoaaOkC
namespace Go.Proofs.Ytfeimdlkpiacoaa
open Go.RowKit

/-- all Times ahead of place k -/
def sumTo (l : List It) : Nat → Int
  | 0 => 0
  | k + 1 => sumTo l k + (at' l k).2
def sizeOfBag (l : List It) : Int := if okBag l = true then min (sumTo l l.length) 1000000 else 0

theorem okAt_item {l : List It} {i : Nat} (h : okAt l i = true) : okItem (at' l i).1 (at' l i).2 = true := by
  unfold okAt at h; simp only [Bool.and_eq_true] at h; exact h.1
theorem okItem_times {r : List Int} {t : Int} (h : okItem r t = true) : 1 ≤ t ∧ t ≤ 1000000 := by
  unfold okItem at h; simp only [Bool.and_eq_true, decide_eq_true_eq] at h; exact h.2
theorem sumTo_bound {l : List It} (h : okBag l = true) (k : Nat) (hk : k ≤ l.length) : 0 ≤ sumTo l k ∧ sumTo l k ≤ k * 1000000 := by
  induction k with
  | zero => simp [sumTo]
  | succ k ih =>
    have := ih (by omega)
    have ht := okItem_times (okAt_item (okBag_at h (k := k) (by omega)))
    simp only [sumTo]
    omega

theorem min_step (s t : Int) (ht : 0 ≤ t) : min (min s 1000000 + t) 1000000 = min (s + t) 1000000 := by omega

/-- how often a row is there -/
def timesOf : List It → List Int → Int
  | [], _ => 0
  | x :: xs, q => if x.1 = q then x.2 else timesOf xs q
theorem timesOf_step {l : List It} {k : Nat} (h : k < l.length) (q : List Int) : timesOf (l.drop k) q = if (at' l k).1 = q then (at' l k).2 else timesOf (l.drop (k + 1)) q := by
  have e : at' l k = l[k] := by simp [at', List.getD, h]
  rw [e, List.drop_eq_getElem_cons h]; rfl
theorem timesOf_end {l : List It} {k : Nat} (h : l.length ≤ k) (q : List Int) : timesOf (l.drop k) q = 0 := by rw [List.drop_eq_nil_of_le h]; rfl

end Go.Proofs.Ytfeimdlkpiacoaa
