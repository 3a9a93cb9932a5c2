/-
  ShortText of both packages.
-/
import Derived.Test.YtcbebilhbghclaaReadC
namespace Go.Proofs.Ytcbebilhbghclaa
open Go.RowKit

theorem varB_len : ∀ f n, (varB f n).length ≤ f + 1
  | 0, n => by simp [varB]
  | f + 1, n => by
    have := varB_len f (n / 128)
    unfold varB
    split <;> simp <;> omega

set_option maxHeartbeats 400000 in
theorem sShort_yes (s : ByteArray) (w : World) (hs : s.size ≤ 20000) :
    Calls Try.prog 13 #[.string s] w fun e w' => e = .returned (.tuple #[.string (⟨(varB 9 s.size).toArray⟩ ++ s), .bool true]) ∧ Below w.heap.size w w' := by
  have hl := varB_len 9 s.size
  go_enter Try.func13, Try.ntmps13
  go_wp2_with (go_at_call 22; refine (l01Var_any _ _ (by omega)).mono ?_; rintro e w1 ⟨rfl, hb1⟩)
  go_ret2
  exact ⟨rfl, hb1⟩

set_option maxHeartbeats 400000 in
theorem Short_yes (s : ByteArray) (w : World) (hs : s.size ≤ 20000) :
    Calls Try.prog 14 #[.string s] w fun e w' => e = .returned (.tuple #[.string (⟨(varB 9 s.size).toArray⟩ ++ s), .bool true]) ∧ Below w.heap.size w w' := by
  have hl := varB_len 9 s.size
  go_enter Try.func14, Try.ntmps14
  go_wp2_with (go_at_call 10; refine (VarText_yes _ _ (by omega)).mono ?_; rintro e w1 ⟨rfl, hb1⟩)
  go_ret2
  exact ⟨rfl, hb1⟩

set_option maxHeartbeats 400000 in
theorem sShort_no (s : ByteArray) (w : World) (hs : (20000 : Int) < (s.size : Int)) :
    Calls Try.prog 13 #[.string s] w fun e w' => e = .returned (.tuple #[.string ⟨#[]⟩, .bool false]) ∧ Below w.heap.size w w' := by
  go_enter Try.func13, Try.ntmps13
  go_wp2
  go_ret2
  exact ⟨rfl, Below.refl _ _⟩

set_option maxHeartbeats 400000 in
theorem Short_no (s : ByteArray) (w : World) (hs : (20000 : Int) < (s.size : Int)) :
    Calls Try.prog 14 #[.string s] w fun e w' => e = .returned (.tuple #[.string ⟨#[]⟩, .bool false]) ∧ Below w.heap.size w w' := by
  go_enter Try.func14, Try.ntmps14
  go_wp2
  go_ret2
  exact ⟨rfl, Below.refl _ _⟩
end Go.Proofs.Ytcbebilhbghclaa
