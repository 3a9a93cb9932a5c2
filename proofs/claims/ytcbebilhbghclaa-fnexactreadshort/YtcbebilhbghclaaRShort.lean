/-
  ReadShort of both packages.
-/
import Derived.Test.YtcbebilhbghclaaReadC
import Derived.Test.YtcbebilhbghclaaShelf
namespace Go.Proofs.Ytcbebilhbghclaa
open Go.RowKit

set_option maxHeartbeats 400000 in
theorem newText_any (s : ByteArray) (w : World) (hs : s.size ≤ 281474976710656) :
    Calls Try.prog 23 #[.string s] w fun e w' => e = .returned (.string s) ∧ Below w.heap.size w w' := by
  go_enter Try.func23, Try.ntmps23
  go_wp2_with (first | (go_at_call 28; refine (Try.stringslite_Clone _ _ hs).mono ?_; rintro e w1 ⟨rfl, hb1⟩) | go_in)
  go_ret
  exact ⟨rfl, hb1⟩

/-- no short text stands there -/
def noShort (s : ByteArray) (a : Int) : Prop := noVar s a ∨ ∃ n p, isVar s a n p ∧ (20000 < n ∨ s.size < p + n)
structure isShort (s : ByteArray) (a : Int) (n p : Nat) : Prop where
  var : isVar s a n p
  short : n ≤ 20000
  fits : p + n ≤ s.size
theorem short_cases (s : ByteArray) (a : Int) : noShort s a ∨ ∃ n p, isShort s a n p := by
  rcases var_cases s a with h | ⟨n, p, h⟩
  · exact .inl (.inl h)
  · by_cases h2 : 20000 < n ∨ s.size < p + n
    · exact .inl (.inr ⟨n, p, h, h2⟩)
    · exact .inr ⟨n, p, h, by omega, by omega⟩

set_option maxHeartbeats 400000 in
theorem sRShort_no (s : ByteArray) (a : Int) (w : World) (hs : s.size ≤ 1048576) (h : noShort s a) :
    Calls Try.prog 15 #[.string s, .int .i64 a] w fun e w' => e = .returned (.tuple #[.string ⟨#[]⟩, .int .i64 0, .bool false]) ∧ Below w.heap.size w w' := by
  rcases h with h | ⟨n, p, h, hn⟩
  · have HV : Hid (noVar s a) := h
    clear h
    go_enter Try.func15, Try.ntmps15
    go_wp2_with (go_at_call 11; refine (sReadVar_no _ _ _ hs HV.out).mono ?_; rintro e w1 ⟨rfl, hb1⟩)
    go_ret3
    exact ⟨rfl, hb1⟩
  · have HV : Hid (isVar s a n p) := h
    have hp := h.place
    have hn1 := h.num
    by_cases hb : (20000 : Int) < (n : Int)
    · clear hn h
      go_enter Try.func15, Try.ntmps15
      go_wp2_with (go_at_call 11; refine (sReadVar_yes _ _ n p _ hs HV.out).mono ?_; rintro e w1 ⟨rfl, hb1⟩)
      go_ret3
      exact ⟨rfl, hb1⟩
    · have hd : (s.size : Int) - (p : Int) < (n : Int) := by omega
      clear hn h
      go_enter Try.func15, Try.ntmps15
      go_wp2_with (go_at_call 11; refine (sReadVar_yes _ _ n p _ hs HV.out).mono ?_; rintro e w1 ⟨rfl, hb1⟩)
      go_ret3
      exact ⟨rfl, hb1⟩
set_option maxHeartbeats 400000 in
theorem RShort_no (s : ByteArray) (a : Int) (w : World) (hs : s.size ≤ 1048576) (h : noShort s a) :
    Calls Try.prog 16 #[.string s, .int .i64 a] w fun e w' => e = .returned (.tuple #[.string ⟨#[]⟩, .int .i64 0, .bool false]) ∧ Below w.heap.size w w' := by
  rcases h with h | ⟨n, p, h, hn⟩
  · have HV : Hid (noVar s a) := h
    clear h
    go_enter Try.func16, Try.ntmps16
    go_wp2_with (go_at_call 12; refine (ReadVar_no _ _ _ hs HV.out).mono ?_; rintro e w1 ⟨rfl, hb1⟩)
    go_ret3
    exact ⟨rfl, hb1⟩
  · have HV : Hid (isVar s a n p) := h
    have hp := h.place
    have hn1 := h.num
    by_cases hb : (20000 : Int) < (n : Int)
    · clear hn h
      go_enter Try.func16, Try.ntmps16
      go_wp2_with (go_at_call 12; refine (ReadVar_yes _ _ n p _ hs HV.out).mono ?_; rintro e w1 ⟨rfl, hb1⟩)
      go_ret3
      exact ⟨rfl, hb1⟩
    · have hd : (s.size : Int) - (p : Int) < (n : Int) := by omega
      clear hn h
      go_enter Try.func16, Try.ntmps16
      go_wp2_with (go_at_call 12; refine (ReadVar_yes _ _ n p _ hs HV.out).mono ?_; rintro e w1 ⟨rfl, hb1⟩)
      go_ret3
      exact ⟨rfl, hb1⟩

set_option maxHeartbeats 400000 in
theorem sRShort_yes (s : ByteArray) (a : Int) (n p : Nat) (w : World) (hs : s.size ≤ 1048576) (h : isShort s a n p) :
    Calls Try.prog 15 #[.string s, .int .i64 a] w fun e w' => e = .returned (.tuple #[.string (s.extract p (p + n)), .int .i64 ((p : Int) + (n : Int)), .bool true]) ∧ Below w.heap.size w w' := by
  have HV : Hid (isVar s a n p) := h.var
  have hn := h.short
  have hf := h.fits
  have hd : (n : Int) ≤ (s.size : Int) - (p : Int) := by omega
  have hd2 : (p : Int) + (n : Int) ≤ (s.size : Int) := by omega
  clear h
  go_enter Try.func15, Try.ntmps15
  go_wp2_with (go_at_call 11; refine (sReadVar_yes _ _ n p _ hs HV.out).mono ?_; rintro e w1 ⟨rfl, hb1⟩)
  go_ret3
  exact ⟨rfl, hb1⟩
set_option maxHeartbeats 400000 in
theorem RShort_yes (s : ByteArray) (a : Int) (n p : Nat) (w : World) (hs : s.size ≤ 1048576) (h : isShort s a n p) :
    Calls Try.prog 16 #[.string s, .int .i64 a] w fun e w' => e = .returned (.tuple #[.string (s.extract p (p + n)), .int .i64 ((p : Int) + (n : Int)), .bool true]) ∧ Below w.heap.size w w' := by
  have HV : Hid (isVar s a n p) := h.var
  have hn := h.short
  have hf := h.fits
  have hd : (n : Int) ≤ (s.size : Int) - (p : Int) := by omega
  have hd2 : (p : Int) + (n : Int) ≤ (s.size : Int) := by omega
  have HZ : Hid ((s.extract p (p + n)).size ≤ 281474976710656) := by
    show (s.extract p (p + n)).size ≤ 281474976710656
    rw [ByteArray.size_extract]; omega
  clear h
  go_enter Try.func16, Try.ntmps16
  go_wp2_with (first | (go_at_call 12; refine (ReadVar_yes _ _ n p _ hs HV.out).mono ?_; rintro e w1 ⟨rfl, hb1⟩) | (go_at_call 23; refine (newText_any _ _ HZ.out).mono ?_; rintro e w2 ⟨rfl, hb2⟩))
  go_ret3
  exact ⟨rfl, hb1.trans (hb2.mono hb1.size)⟩
end Go.Proofs.Ytcbebilhbghclaa
