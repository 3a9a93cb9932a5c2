/-
  Lists of items: how long they are (szItemS, szBag), made new (toItemS, toBag), held against one another (eqItemS, eqBag); lists of items that are owned.
-/
import Derived.Test.YtfeimdlkpiacoaaItemA
import Derived.Laws.MakeOwn
namespace Go.Proofs.Ytfeimdlkpiacoaa
open Go.RowKit

/-- the item at a place -/
abbrev at' (l : List It) (i : Nat) : It := l.getD i ([], 0)
/-- the numbers of all rows ahead of place k -/
def rowsLen (l : List It) : Nat → Nat
  | 0 => 0
  | k + 1 => rowsLen l k + (at' l k).1.length
theorem rowsLen_mono (l : List It) {i k : Nat} (h : i ≤ k) : rowsLen l i ≤ rowsLen l k := by
  induction k with
  | zero => obtain rfl : i = 0 := by omega
            exact Nat.le_refl _
  | succ k ih =>
    rcases Nat.lt_or_ge i (k + 1) with h1 | h1
    · have := ih (by omega); simp [rowsLen]; omega
    · obtain rfl : i = k + 1 := by omega
      exact Nat.le_refl _
theorem row_le (l : List It) {i k : Nat} (h : i < k) : (at' l i).1.length ≤ rowsLen l k := by
  have := rowsLen_mono l (i := i + 1) (k := k) (by omega)
  simp only [rowsLen] at this
  omega

end Go.Proofs.Ytfeimdlkpiacoaa
