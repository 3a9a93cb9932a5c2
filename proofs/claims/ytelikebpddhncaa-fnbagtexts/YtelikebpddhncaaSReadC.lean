/-
  ReadVar of both packages, at every argument.
-/
import Derived.Test.YtelikebpddhncaaSReadB
namespace Go.Proofs.Ytelikebpddhncaa.sp
open Go.RowKit

/-- nothing stands there -/
def noVar (s : ByteArray) (a : Int) : Prop := a < 0 ∨ (s.size : Int) < a ∨ rdv s a.toNat = none
/-- n stands there, p is behind it -/
structure isVar (s : ByteArray) (a : Int) (n p : Nat) : Prop where
  lo : 0 ≤ a
  hi : a ≤ s.size
  rd : rdv s a.toNat = some (n, p)
  num : n ≤ 1000000000
  place : p ≤ s.size
theorem var_cases (s : ByteArray) (a : Int) : noVar s a ∨ ∃ n p, isVar s a n p := by
  by_cases h : 0 ≤ a ∧ a ≤ s.size
  · cases hr : rdv s a.toNat with
    | none => exact .inl (.inr (.inr hr))
    | some x =>
      have := rdv_le (n := x.1) (p := x.2) (show a.toNat ≤ s.size by omega) hr
      exact .inr ⟨x.1, x.2, h.1, h.2, hr, this.1, this.2⟩
  · refine .inl ?_
    unfold noVar
    omega

set_option maxHeartbeats 400000 in
set_option maxRecDepth 100000 in
theorem ReadVar_out (s : ByteArray) (a : Int) (w : World) (ha : a < 0 ∨ (s.size : Int) < a) :
    Calls Try.prog 95 #[.string s, .int .i64 a] w fun e w' => e = .returned (.tuple #[.int .i64 0, .int .i64 0, .bool false]) ∧ Below w.heap.size w w' := by
  by_cases h : a < 0
  · clear ha
    go_enter Try.func95, Try.ntmps95
    go_wp2
    go_ret3
    exact ⟨rfl, Below.refl _ _⟩
  · have h1 : (s.size : Int) < a := by omega
    clear ha
    go_enter Try.func95, Try.ntmps95
    go_wp2
    go_ret3
    exact ⟨rfl, Below.refl _ _⟩
set_option maxHeartbeats 400000 in
set_option maxRecDepth 100000 in
theorem sReadVar_out (s : ByteArray) (a : Int) (w : World) (ha : a < 0 ∨ (s.size : Int) < a) :
    Calls Try.prog 100 #[.string s, .int .i64 a] w fun e w' => e = .returned (.tuple #[.int .i64 0, .int .i64 0, .bool false]) ∧ Below w.heap.size w w' := by
  have HA : Hid (a < 0 ∨ (s.size : Int) < a) := ha
  clear ha
  go_enter Try.func100, Try.ntmps100
  go_wp2_with (go_at_call 66; refine (l01In_no _ _ _ _ HA.out).mono ?_; rintro e w' ⟨rfl, rfl⟩)
  go_ret3
  exact ⟨rfl, Below.refl _ _⟩

theorem ReadVar_no (s : ByteArray) (a : Int) (w : World) (hs : s.size ≤ 1048576) (h : noVar s a) :
    Calls Try.prog 95 #[.string s, .int .i64 a] w fun e w' => e = .returned (.tuple #[.int .i64 0, .int .i64 0, .bool false]) ∧ Below w.heap.size w w' := by
  by_cases ho : a < 0 ∨ (s.size : Int) < a
  · exact ReadVar_out s a w ho
  · obtain ⟨k, rfl⟩ := Int.eq_ofNat_of_zero_le (show 0 ≤ a by omega)
    have hn : rdv s k = none := by
      rcases h with h | h | h
      · omega
      · omega
      · exact h
    have := ReadVar_any s k w hs (by omega)
    rw [hn] at this
    exact this
theorem sReadVar_no (s : ByteArray) (a : Int) (w : World) (hs : s.size ≤ 1048576) (h : noVar s a) :
    Calls Try.prog 100 #[.string s, .int .i64 a] w fun e w' => e = .returned (.tuple #[.int .i64 0, .int .i64 0, .bool false]) ∧ Below w.heap.size w w' := by
  by_cases ho : a < 0 ∨ (s.size : Int) < a
  · exact sReadVar_out s a w ho
  · obtain ⟨k, rfl⟩ := Int.eq_ofNat_of_zero_le (show 0 ≤ a by omega)
    have hn : rdv s k = none := by
      rcases h with h | h | h
      · omega
      · omega
      · exact h
    have := sReadVar_any s k w hs (by omega)
    rw [hn] at this
    exact this
theorem ReadVar_yes (s : ByteArray) (a : Int) (n p : Nat) (w : World) (hs : s.size ≤ 1048576) (h : isVar s a n p) :
    Calls Try.prog 95 #[.string s, .int .i64 a] w fun e w' => e = .returned (.tuple #[.int .i64 (n : Int), .int .i64 (p : Int), .bool true]) ∧ Below w.heap.size w w' := by
  obtain ⟨k, rfl⟩ := Int.eq_ofNat_of_zero_le h.lo
  have hi := h.hi
  have hr : rdv s k = some (n, p) := h.rd
  have := ReadVar_any s k w hs (by omega)
  rw [hr] at this
  exact this
theorem sReadVar_yes (s : ByteArray) (a : Int) (n p : Nat) (w : World) (hs : s.size ≤ 1048576) (h : isVar s a n p) :
    Calls Try.prog 100 #[.string s, .int .i64 a] w fun e w' => e = .returned (.tuple #[.int .i64 (n : Int), .int .i64 (p : Int), .bool true]) ∧ Below w.heap.size w w' := by
  obtain ⟨k, rfl⟩ := Int.eq_ofNat_of_zero_le h.lo
  have hi := h.hi
  have hr : rdv s k = some (n, p) := h.rd
  have := sReadVar_any s k w hs (by omega)
  rw [hr] at this
  exact this

end Go.Proofs.Ytelikebpddhncaa.sp
