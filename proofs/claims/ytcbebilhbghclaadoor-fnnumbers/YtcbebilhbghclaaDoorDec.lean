/-
  Decimal of both packages.
-/
import Derived.Test.YtcbebilhbghclaaDoorBase
import Derived.Test.YtcbebilhbghclaaDoorShelf
namespace Go.Proofs.YtcbebilhbghclaaDoor
open Go.RowKit

/-- at the head of each round: u is left of U, t is told -/
structure DAt (U u : Nat) (t : ByteArray) : Prop where
  le : u ≤ U
  rel : digsOf u ++ t.data.toList = digsOf U
theorem DAt.len {U u : Nat} {t : ByteArray} (h : DAt U u t) (hU : U ≤ 9223372036854775808) : t.size ≤ 20 := by
  have h1 := congrArg List.length h.rel
  have h2 : (digsOf U).length ≤ 20 := by
    unfold digsOf
    split
    · simp
    · exact dec_len 19 U (by omega)
  have : t.data.size = t.size := rfl
  simp at h1
  omega
theorem DAt.next {U u : Nat} {t : ByteArray} (h : DAt U u t) (hu : u ≠ 0) : DAt U (u / 10) (⟨#[fig (u % 10)]⟩ ++ t) := by
  refine ⟨by have := h.le; omega, ?_⟩
  rw [← h.rel, digs_step hu]
  simp

theorem DAt.done {U : Nat} {t : ByteArray} (h : DAt U 0 t) (hU : U ≠ 0) : t.data.toList = Lib.decDigits U := by
  have := h.rel
  unfold digsOf at this
  rw [if_neg hU] at this
  simpa using this

theorem conv_one (wr : World) (c : UInt8) (x : Int) (hx : x = (c.toNat : Int)) :
    (convert 22 9 (.slice (some ⟨wr.heap.size, 0, none⟩) 1 1)).run Tryd.prog (wr.alloc (.cells #[.int .u8 x] 5)) = .ok (.string ⟨#[c]⟩) (wr.alloc (.cells #[.int .u8 x] 5)) := by
  subst hx
  refine run_convert_bytes_back _ 22 9 5 ⟨wr.heap.size, 0, none⟩ 1 [c] Tryd.underlying22 Tryd.underlying5 Tryd.underlying9 fun j hj => ?_
  have := cell_one_new wr (.int .u8 (c.toNat : Int)) 5 j (.int .u8 (c.toNat : Int))
  have hj0 : j = 0 := by simpa using hj
  subst hj0
  exact this rfl
theorem figI_neg (u : Nat) (h : (u : Int) % 10 ≤ 0) : figI (-((u : Int) % 10)) = ((fig (u % 10)).toNat : Int) := by
  unfold figI
  rw [show (-((u : Int) % 10)).toNat = u % 10 by omega]
theorem figI_mod (u : Nat) : figI ((u : Int) % 10) = ((fig (u % 10)).toNat : Int) := by
  unfold figI
  rw [show ((u : Int) % 10).toNat = u % 10 by omega]

set_option maxHeartbeats 1000000 in
set_option maxRecDepth 100000 in
theorem sDecimal_pos (U : Nat) (w : World) (h0 : U ≠ 0) (h1 : U ≤ 9223372036854775807) :
    Calls Tryd.prog 18 #[.int .i64 (U : Int)] w fun e w' => e = .returned (.string ⟨(Lib.decDigits U).toArray⟩) ∧ Below w.heap.size w w' := by
  have hz : ((U : Int) == 0) = false := by simp; omega
  have HZ : Hid (U ≠ 0) := h0
  clear h0
  go_enter Tryd.func18, Tryd.ntmps18
  go_wp2
  go_loopw [0, 4, 5] (fun n s d wr => ∃ (u : Nat) (t : ByteArray), n = .int .i64 (u : Int) ∧ s = .string t ∧ DAt U u t ∧ Below w.heap.size w wr) (fun n _ _ _ => (intOf n).toNat)
  case atStart => exact ⟨U, ⟨#[]⟩, rfl, rfl, ⟨by omega, by simp⟩, Below.refl _ _⟩
  case round =>
    obtain ⟨u, t, rfl, rfl, hD, hbel⟩ := hrel
    have HD : Hid (DAt U u t) := hD
    have hle := hD.le
    have hlen := hD.len (by omega)
    have hsz := hbel.size
    clear hD
    by_cases hu : u = 0
    · subst hu
      have HE : Hid (t.data.toList = Lib.decDigits U) := HD.out.done HZ.out
      go_wp2
      go_ret
      exact ⟨by rw [← HE.out]; rfl, hbel⟩
    · have hne : ((u : Int) != 0) = true := by simp; omega
      have HU : Hid (u ≠ 0) := hu
      have hconv := conv_one wr (fig (u % 10)) (figI ((u : Int) % 10)) (figI_mod u)
      clear hu
      go_wp2_with fail
      refine (l01Figure_any _ _ (by omega) (by omega)).mono ?_
      rintro e w1 ⟨rfl, rfl⟩
      go_wp2
      go_roundw
      case rel => exact ⟨u / 10, _, by go_num, rfl, HD.out.next HU.out, hbel.alloc hsz _⟩
      case measure => have := HU.out; simp [intOf]; omega

set_option maxHeartbeats 1000000 in
set_option maxRecDepth 100000 in
theorem sDecimal_neg (U : Nat) (w : World) (h0 : U ≠ 0) (h1 : U ≤ 9223372036854775808) :
    Calls Tryd.prog 18 #[.int .i64 (-(U : Int))] w fun e w' => e = .returned (.string (⟨#[45]⟩ ++ ⟨(Lib.decDigits U).toArray⟩)) ∧ Below w.heap.size w w' := by
  have hz : ((-(U : Int)) == 0) = false := by simp; omega
  have hneg : -(U : Int) < 0 := by omega
  have hU0 : 0 < U := by omega
  have HZ : Hid (U ≠ 0) := h0
  clear h0
  go_enter Tryd.func18, Tryd.ntmps18
  go_wp2
  go_loopw [0, 4, 5] (fun n s d wr => ∃ (u : Nat) (t : ByteArray), n = .int .i64 (-(u : Int)) ∧ s = .string t ∧ DAt U u t ∧ Below w.heap.size w wr) (fun n _ _ _ => (-(intOf n)).toNat)
  case atStart => exact ⟨U, ⟨#[]⟩, rfl, rfl, ⟨by omega, by simp⟩, Below.refl _ _⟩
  case round =>
    obtain ⟨u, t, rfl, rfl, hD, hbel⟩ := hrel
    have HD : Hid (DAt U u t) := hD
    have hle := hD.le
    have hlen := hD.len (by omega)
    have hsz := hbel.size
    clear hD
    by_cases hu : u = 0
    · subst hu
      have HE : Hid (t.data.toList = Lib.decDigits U) := HD.out.done HZ.out
      go_wp2
      go_ret
      exact ⟨by rw [← HE.out]; rfl, hbel⟩
    · have hne : ((-(u : Int)) != 0) = true := by simp; omega
      have HU : Hid (u ≠ 0) := hu
      have hm1 : (-(u : Int)).tmod 10 = -((u : Int) % 10) := by rw [Int.neg_tmod, Int.tmod_eq_emod_of_nonneg (by omega)]
      have hm2 : (-(u : Int)).tdiv 10 = -((u : Int) / 10) := by rw [Int.neg_tdiv, Int.tdiv_eq_ediv_of_nonneg (by omega)]
      have hconv := conv_one wr (fig (u % 10)) (figI ((u : Int) % 10)) (figI_mod u)
      clear hu
      go_wp2_with fail
      · refine (l01Figure_any _ _ (by omega) (by omega)).mono ?_
        rintro e w1 ⟨rfl, rfl⟩
        go_wp2
        go_roundw
        case rel => exact ⟨u / 10, _, by go_num, rfl, HD.out.next HU.out, hbel.alloc hsz _⟩
        case measure => have := HU.out; simp [intOf]; omega
      · have hm0 : (u : Int) % 10 ≤ 0 := by assumption
        have hconv2 := conv_one wr (fig (u % 10)) (figI (-((u : Int) % 10))) (figI_neg u hm0)
        refine (l01Figure_any _ _ (by omega) (by omega)).mono ?_
        rintro e w1 ⟨rfl, rfl⟩
        go_wp2
        go_roundw
        case rel => exact ⟨u / 10, _, by go_num, rfl, HD.out.next HU.out, hbel.alloc hsz _⟩
        case measure => have := HU.out; simp [intOf]; omega

set_option maxHeartbeats 400000 in
theorem sDecimal_zero (w : World) :
    Calls Tryd.prog 18 #[.int .i64 0] w fun e w' => e = .returned (.string ⟨#[48]⟩) ∧ Below w.heap.size w w' := by
  go_enter Tryd.func18, Tryd.ntmps18
  go_wp2
  go_ret
  exact ⟨rfl, Below.refl _ _⟩

theorem sDecimal_any (n : Int) (w : World) (h0 : -9223372036854775808 ≤ n) (h1 : n ≤ 9223372036854775807) :
    Calls Tryd.prog 18 #[.int .i64 n] w fun e w' => e = .returned (.string ⟨(Lib.itoa n).toArray⟩) ∧ Below w.heap.size w w' := by
  rcases Int.lt_trichotomy n 0 with hn | rfl | hn
  · obtain ⟨U, rfl⟩ : ∃ U : Nat, n = -(U : Int) := ⟨n.natAbs, by omega⟩
    have e : (⟨(Lib.itoa (-(U : Int))).toArray⟩ : ByteArray) = ⟨#[45]⟩ ++ ⟨(Lib.decDigits U).toArray⟩ := by
      unfold Lib.itoa
      rw [if_pos hn, Int.natAbs_neg, Int.natAbs_natCast]
      apply ByteArray.ext
      simp
    rw [e]
    exact sDecimal_neg U w (by omega) (by omega)
  · have e : (⟨(Lib.itoa 0).toArray⟩ : ByteArray) = ⟨#[48]⟩ := by
      unfold Lib.itoa
      rw [if_neg (by omega), dec_small (by decide)]
      rfl
    rw [e]
    exact sDecimal_zero w
  · obtain ⟨U, rfl⟩ := Int.eq_ofNat_of_zero_le (show 0 ≤ n by omega)
    have e : (⟨(Lib.itoa (U : Int)).toArray⟩ : ByteArray) = ⟨(Lib.decDigits U).toArray⟩ := by
      unfold Lib.itoa
      rw [if_neg (by omega), Int.toNat_natCast]
    rw [e]
    exact sDecimal_pos U w (by omega) (by omega)

theorem below_grow (w : World) (k : Nat) (os : Array Obj) : Below w.heap.size w (Sort.grow (w.drewN k) os) :=
  ⟨rfl, rfl, rfl, by simp [Sort.grow], fun j hj => by simp [Sort.grow, Array.getElem?_append_left hj]⟩

set_option maxHeartbeats 400000 in
theorem Decimal_any (n : Int) (w : World) (h0 : -9223372036854775808 ≤ n) (h1 : n ≤ 9223372036854775807) (htab : Lib.TabIs Tryd.prog w "internal/strconv.uint64pow10" .u64 Lib.pow10Tab) :
    Calls Tryd.prog 12 #[.int .i64 n] w fun e w' => e = .returned (.string ⟨(Lib.itoa n).toArray⟩) ∧ Below w.heap.size w w' := by
  have HT : Hid (Lib.TabIs Tryd.prog w "internal/strconv.uint64pow10" .u64 Lib.pow10Tab) := htab
  clear htab
  go_enter Tryd.func12, Tryd.ntmps12
  go_wp2_with (go_at_call 28; refine (Tryd.strconv_Itoa _ h0 h1 _ HT.out).mono ?_; rintro e w1 ⟨rfl, k, os, rfl⟩)
  go_ret
  exact ⟨rfl, below_grow w k os⟩
end Go.Proofs.YtcbebilhbghclaaDoor
