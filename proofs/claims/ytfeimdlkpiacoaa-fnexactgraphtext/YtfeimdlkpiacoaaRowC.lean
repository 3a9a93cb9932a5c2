/-
  Rows: slices.Equal, the model's RowLess; rows that are right (itemOk, l03Row); how long they are (szIntS, szItem).
-/
import Derived.Test.YtfeimdlkpiacoaaRowB
namespace Go.Proofs.Ytfeimdlkpiacoaa
open Go.RowKit

theorem rowLt_none {l m : List Int} (h : l = []) : rowLt l m = decide (0 < m.length) := by
  subst h; cases m <;> simp [rowLt, cmpRow]

theorem rowLt_of {l m : List Int} {c : Int} (h : cmpRow l m = c) : rowLt l m = decide (c < 0) := by unfold rowLt; rw [h]

set_option maxHeartbeats 400000 in
theorem l01In_any (x lo hi : Int) (w : World) : Calls Try.prog 31 #[.int .i64 x, .int .i64 lo, .int .i64 hi] w fun e w' => e = .returned (.bool (decide (lo ≤ x) && decide (x ≤ hi))) ∧ w = w' := by
  by_cases h1 : lo ≤ x
  · have hd1 : decide (lo ≤ x) = true := decide_eq_true h1
    by_cases h2 : x ≤ hi
    · have hd : decide (x ≤ hi) = true := decide_eq_true h2
      rw [hd1, hd]
      go_enter Try.func31, Try.ntmps31
      go_wp2
      go_ret
      exact ⟨rfl, rfl⟩
    · have hd : decide (x ≤ hi) = false := decide_eq_false h2
      rw [hd1, hd]
      go_enter Try.func31, Try.ntmps31
      go_wp2
      go_ret
      exact ⟨rfl, rfl⟩
  · have hd1 : decide (lo ≤ x) = false := decide_eq_false h1
    rw [hd1]
    go_enter Try.func31, Try.ntmps31
    go_wp2
    go_ret
    exact ⟨by simp, rfl⟩

/-- the numbers of a row are right -/
def okNums (l : List Int) : Bool := l.all fun x => decide (0 ≤ x) && decide (x ≤ 99)
/-- a row is right -/
def okRow (l : List Int) : Bool := okNums l && decide (l.length ≤ 4)
/-- an item is right -/
def okItem (l : List Int) (t : Int) : Bool := okRow l && (decide (1 ≤ t) && decide (t ≤ 1000000))

theorem okNums_step {l : List Int} {k : Nat} (h : k < l.length) : okNums (l.drop k) = ((decide (0 ≤ l.getD k 0) && decide (l.getD k 0 ≤ 99)) && okNums (l.drop (k + 1))) := by
  have e : l.getD k 0 = l[k] := by simp [List.getD, h]
  rw [e, List.drop_eq_getElem_cons h]; rfl
theorem okNums_end {l : List Int} {k : Nat} (h : l.length ≤ k) : okNums (l.drop k) = true := by
  rw [List.drop_eq_nil_of_le h]; rfl

end Go.Proofs.Ytfeimdlkpiacoaa
