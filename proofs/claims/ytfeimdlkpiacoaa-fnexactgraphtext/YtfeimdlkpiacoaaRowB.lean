/-
  Rows held against one another (slices.Compare, RowLess), rows that are right (itemOk, l03Row), how long they are (szIntS, szItem).
-/
import Derived.Test.YtfeimdlkpiacoaaRow
namespace Go.Proofs.Ytfeimdlkpiacoaa
open Go.RowKit

/-- -1, 0 or 1: a row ahead of another, the same, behind it -/
def cmpRow : List Int → List Int → Int
  | [], [] => 0
  | [], _ :: _ => -1
  | _ :: _, [] => 1
  | x :: xs, y :: ys => if x < y then -1 else if y < x then 1 else cmpRow xs ys

/-- a row ahead of another -/
def rowLt (l m : List Int) : Bool := decide (cmpRow l m < 0)

theorem cmpRow_step {l m : List Int} {k : Nat} (h : k < l.length) (h' : k < m.length) :
    cmpRow (l.drop k) (m.drop k) = if l.getD k 0 < m.getD k 0 then -1 else if m.getD k 0 < l.getD k 0 then 1 else cmpRow (l.drop (k + 1)) (m.drop (k + 1)) := by
  rw [List.drop_eq_getElem_cons h, List.drop_eq_getElem_cons h']
  simp [cmpRow, List.getD, h, h']

theorem cmpRow_behind {l m : List Int} {k : Nat} (h : k < l.length) (h' : m.length ≤ k) : cmpRow (l.drop k) (m.drop k) = 1 := by
  rw [List.drop_eq_getElem_cons h, List.drop_eq_nil_of_le h']
  simp [cmpRow]

theorem cmpRow_end {l m : List Int} {k : Nat} (h : l.length ≤ k) (h' : k < m.length) : cmpRow (l.drop k) (m.drop k) = -1 := by
  rw [List.drop_eq_nil_of_le h, List.drop_eq_getElem_cons h']
  simp [cmpRow]

theorem cmpRow_both {l m : List Int} {k : Nat} (h : l.length ≤ k) (h' : m.length ≤ k) : cmpRow (l.drop k) (m.drop k) = 0 := by
  rw [List.drop_eq_nil_of_le h, List.drop_eq_nil_of_le h']
  rfl

set_option maxHeartbeats 400000 in
theorem isNaN_any (x : Int) (w : World) : Calls Try.prog 83 #[.int .i64 x] w fun e w' => e = .returned (.bool false) ∧ w = w' := by
  go_enter Try.func83, Try.ntmps83
  go_wp2
  go_ret
  exact ⟨rfl, rfl⟩

/-- of two ints -/
def cmpI (x y : Int) : Int := if x < y then -1 else if y < x then 1 else 0

set_option maxHeartbeats 400000 in
theorem compare_any (x y : Int) (w : World) : Calls Try.prog 66 #[.int .i64 x, .int .i64 y] w fun e w' => e = .returned (.int .i64 (cmpI x y)) ∧ w = w' := by
  by_cases h1 : x < y
  · have hd : decide (x < y) = true := decide_eq_true h1
    have hr : cmpI x y = -1 := by unfold cmpI; rw [if_pos h1]
    rw [hr]
    clear hr
    go_enter Try.func66, Try.ntmps66
    go_wp2_with fail
    refine (isNaN_any x w).mono ?_
    rintro e w' ⟨rfl, rfl⟩
    go_wp2_with fail
    refine (isNaN_any y w).mono ?_
    rintro e w' ⟨rfl, rfl⟩
    go_wp2
    go_ret
    exact ⟨rfl, rfl⟩
  · have hd : decide (x < y) = false := decide_eq_false h1
    by_cases h2 : y < x
    · have hd2 : decide (y < x) = true := decide_eq_true h2
      have hr : cmpI x y = 1 := by unfold cmpI; rw [if_neg h1, if_pos h2]
      rw [hr]
      clear hr
      go_enter Try.func66, Try.ntmps66
      go_wp2_with fail
      refine (isNaN_any x w).mono ?_
      rintro e w' ⟨rfl, rfl⟩
      go_wp2_with fail
      refine (isNaN_any y w).mono ?_
      rintro e w' ⟨rfl, rfl⟩
      go_wp2
      go_ret
      exact ⟨rfl, rfl⟩
    · have hd2 : decide (y < x) = false := decide_eq_false h2
      have hr : cmpI x y = 0 := by unfold cmpI; rw [if_neg h1, if_neg h2]
      rw [hr]
      clear hr
      go_enter Try.func66, Try.ntmps66
      go_wp2_with fail
      refine (isNaN_any x w).mono ?_
      rintro e w' ⟨rfl, rfl⟩
      go_wp2_with fail
      refine (isNaN_any y w).mono ?_
      rintro e w' ⟨rfl, rfl⟩
      go_wp2
      go_ret
      exact ⟨rfl, rfl⟩

theorem cmpRow_none {l m : List Int} (h : l = []) : cmpRow l m = if 0 < m.length then -1 else 0 := by
  subst h; cases m <;> simp [cmpRow]

end Go.Proofs.Ytfeimdlkpiacoaa
