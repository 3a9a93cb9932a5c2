/-
  ReadDecimal of both packages.
-/
import Derived.Test.YtcbebilhbghclaaDoorFig
import Derived.Test.YtcbebilhbghclaaDoorTab
import Derived.BigQuiet
import Derived.Deep.RegionHeld
namespace Go.Proofs.YtcbebilhbghclaaDoor
open Go.RowKit

theorem itoa_nat (n : Nat) : Lib.itoa (n : Int) = Lib.decDigits n := by
  unfold Lib.itoa
  rw [if_neg (by omega), Int.toNat_natCast]
theorem itoa_neg_ne {n : Int} (h : n < 0) {l : List UInt8} (hd : ∀ c ∈ l, isDig c) : Lib.itoa n ≠ l := by
  intro e
  unfold Lib.itoa at e
  rw [if_pos h] at e
  have := hd 45 (by rw [← e]; simp)
  unfold isDig at this
  simp at this

set_option maxHeartbeats 1000000 in
set_option maxRecDepth 100000 in
theorem RDec_yes (s : ByteArray) (n : Nat) (w : World) (hd : isDec s n) (ht : Lib.TabIs Tryd.prog w "internal/strconv.uint64pow10" .u64 Lib.pow10Tab) :
    Calls Tryd.prog 11 #[.string s] w fun e w' => e = .returned (.tuple #[.int .i64 (n : Int), .bool true]) ∧ Below w.heap.size w w' := by
  have hs := hd.size
  have hn := hd.le
  have HD : Hid (isDec s n) := hd
  have HT : Hid (Lib.TabIs Tryd.prog w "internal/strconv.uint64pow10" .u64 Lib.pow10Tab) := ht
  have hall : ∀ c ∈ s.data.toList, isDig c := by rw [hd.is]; exact dec_dig n
  have HA : Hid (∀ c ∈ s.data.toList, isDig c) := hall
  have HV : Hid (valW 0 s.data.toList = (n : Int)) := by
    show valW 0 s.data.toList = (n : Int)
    have := valW_eq s.data.toList 0 hall (by rw [hd.is, dec_val]; omega)
    rw [hd.is, dec_val] at this
    rw [hd.is]; exact this
  clear hd ht hall
  go_enter Tryd.func11, Tryd.ntmps11
  go_wp2_with fail
  refine (figures10 s _ (by omega)).mono ?_
  rintro e w1 ⟨rfl, ⟨_, rfl⟩ | ⟨hn, _⟩⟩
  · rw [HV.out]
    go_wp2_with fail
    refine (Decimal_any _ _ (by omega) (by omega) HT.out).mono ?_
    rintro e w1 ⟨rfl, hb1⟩
    rw [itoa_nat, ← HD.out.is]
    go_wp2
    go_ret2
    exact ⟨rfl, hb1⟩
  · exact absurd HA.out hn

theorem toL (s : ByteArray) : s.toList = s.data.toList := by
  obtain ⟨⟨l⟩⟩ := s
  simp
theorem wrap64_range (x : Int) : -9223372036854775808 ≤ wrap64 x ∧ wrap64 x ≤ 9223372036854775807 := by
  unfold wrap64
  omega
theorem valW_range (l : List UInt8) : ∀ x : Int, -9223372036854775808 ≤ x → x ≤ 9223372036854775807 → -9223372036854775808 ≤ valW x l ∧ valW x l ≤ 9223372036854775807 := by
  induction l with
  | nil => intro x h0 h1; exact ⟨h0, h1⟩
  | cons c l ih => intro x _ _; exact ih _ (wrap64_range _).1 (wrap64_range _).2
theorem itoa_ne {s : ByteArray} {v : Int} (hn : noDec s) (hd : ∀ c ∈ s.data.toList, isDig c) (hv : v ≤ 1000000000) : (Lib.itoa v == s.toList) = false := by
  rw [toL, beq_eq_false_iff_ne]
  rcases (show v < 0 ∨ 0 ≤ v by omega) with h | h
  · exact itoa_neg_ne h hd
  · obtain ⟨n, rfl⟩ := Int.eq_ofNat_of_zero_le h
    rw [itoa_nat]
    exact fun e => hn n (by omega) e.symm

set_option maxHeartbeats 1000000 in
set_option maxRecDepth 100000 in
theorem RDec_no (s : ByteArray) (w : World) (hs : s.size ≤ 1048576) (hd : noDec s) (ht : Lib.TabIs Tryd.prog w "internal/strconv.uint64pow10" .u64 Lib.pow10Tab) :
    Calls Tryd.prog 11 #[.string s] w fun e w' => e = .returned (.tuple #[.int .i64 0, .bool false]) ∧ Below w.heap.size w w' := by
  have HD : Hid (noDec s) := hd
  have HT : Hid (Lib.TabIs Tryd.prog w "internal/strconv.uint64pow10" .u64 Lib.pow10Tab) := ht
  clear hd ht
  go_enter Tryd.func11, Tryd.ntmps11
  go_wp2_with fail
  refine (figures10 s _ hs).mono ?_
  rintro e w1 ⟨rfl, ⟨hall, rfl⟩ | ⟨hn, x, rfl⟩⟩
  · obtain ⟨hr0, hr1⟩ := valW_range s.data.toList 0 (by omega) (by omega)
    generalize valW 0 s.data.toList = v at *
    by_cases hv : 1000000000 < v
    · clear hall
      go_wp2
      go_ret2
      exact ⟨rfl, Below.refl _ _⟩
    · have hcmp := itoa_ne HD.out hall (show v ≤ 1000000000 by omega)
      clear hall
      go_wp2_with fail
      refine (Decimal_any _ _ hr0 hr1 HT.out).mono ?_
      rintro e w1 ⟨rfl, hb1⟩
      go_wp2
      go_ret2
      exact ⟨rfl, hb1⟩
  · clear hn
    go_wp2
    go_ret2
    exact ⟨rfl, Below.refl _ _⟩

/-- the model's loop -/
structure SAt (s : ByteArray) (k n : Nat) : Prop where
  le : k ≤ s.size
  num : n = valD 0 (s.data.toList.take k)
  digs : ∀ c ∈ s.data.toList.take k, isDig c
  lt : n < 10 ^ k
theorem SAt.next {s : ByteArray} {k n : Nat} (h : SAt s k n) (hlt : k < s.size) (h1 : (48 : Int) ≤ (s[k].toNat : Int)) (h2 : (s[k].toNat : Int) ≤ 57) : SAt s (k + 1) (10 * n + (s[k].toNat - 48)) := by
  refine ⟨by omega, ?_, ?_, ?_⟩
  · rw [take_next s k hlt, valD_snoc, ← h.num]
  · rw [take_next s k hlt]
    intro c hc
    rcases List.mem_append.1 hc with hc | hc
    · exact h.digs c hc
    · simp at hc; subst hc; exact ⟨by omega, by omega⟩
  · have := h.lt; rw [Nat.pow_succ]; omega
theorem SAt.all {s : ByteArray} {k n : Nat} (h : SAt s k n) (hlt : ¬ k < s.size) : (∀ c ∈ s.data.toList, isDig c) ∧ n = valD 0 s.data.toList := by
  have h1 := h.digs
  have h2 := h.num
  rw [take_all s k hlt] at h1 h2
  exact ⟨h1, h2⟩
theorem SAt.small {s : ByteArray} {k n : Nat} (h : SAt s k n) (hs : s.size ≤ 10) : n < 10000000000 := by
  have := h.lt
  have h2 := Nat.pow_le_pow_right (n := 10) (by omega) (show k ≤ 10 by have := h.le; omega)
  omega
theorem itoa_eq {s : ByteArray} {n : Nat} (hd : isDec s n) : (Lib.itoa (n : Int) == s.toList) = true := by
  rw [toL, beq_iff_eq, itoa_nat]
  exact hd.is.symm
theorem itoa_ne2 {s : ByteArray} {n : Nat} (hd : noDec s) (hn : n ≤ 1000000000) : (Lib.itoa (n : Int) == s.toList) = false := by
  rw [toL, beq_eq_false_iff_ne, itoa_nat]
  exact fun e => hd n hn e.symm

set_option maxHeartbeats 1000000 in
set_option maxRecDepth 100000 in
theorem sRDec_any (s : ByteArray) (w : World) (hs : s.size ≤ 10) :
    Calls Tryd.prog 19 #[.string s] w fun e w' => ((∃ n, isDec s n ∧ e = .returned (.tuple #[.int .i64 (n : Int), .bool true])) ∨ (noDec s ∧ e = .returned (.tuple #[.int .i64 0, .bool false]))) ∧ Below w.heap.size w w' := by
  go_enter Tryd.func19, Tryd.ntmps19
  go_wp2
  go_loop [4, 5] (fun x p => ∃ k n : Nat, x = .int .i64 (n : Int) ∧ p = .int .i64 k ∧ SAt s k n) (fun _ p => s.size - (intOf p).toNat)
  case atStart => exact ⟨0, 0, rfl, rfl, by omega, by simp [valD], by simp, by simp⟩
  case round =>
    obtain ⟨k, n, rfl, rfl, hF⟩ := hrel
    have HF : Hid (SAt s k n) := hF
    have hle := hF.le
    have hsm := hF.small hs
    by_cases hlt : k < s.size
    · clear hF
      have hc : (s[k].toNat : Int) < 256 := by have := s[k].toNat_lt; omega
      by_cases h1 : (48 : Int) ≤ (s[k].toNat : Int)
      · by_cases h2 : (s[k].toNat : Int) ≤ 57
        · go_wp2
          go_round
          case rel => exact ⟨k + 1, 10 * n + (s[k].toNat - 48), by go_num, by go_num, HF.out.next hlt h1 h2⟩
          case measure => simp [intOf]; omega
        · have HN : Hid (noDec s) := fun m _ e => not_dig s k hlt (by omega) (by rw [e]; exact dec_dig m)
          go_wp2
          go_ret2
          exact ⟨.inr ⟨HN.out, rfl⟩, Below.refl _ _⟩
      · have HN : Hid (noDec s) := fun m _ e => not_dig s k hlt (by omega) (by rw [e]; exact dec_dig m)
        go_wp2
        go_ret2
        exact ⟨.inr ⟨HN.out, rfl⟩, Below.refl _ _⟩
    · obtain ⟨hall, hnum⟩ := hF.all hlt
      have HA : Hid (∀ m, isDec s m → m = n) := fun m hm => by rw [hnum, hm.is, dec_val]
      clear hF hall hnum
      rcases dec_cases s with hd | ⟨m, hd⟩
      · have HN : Hid (noDec s) := hd
        clear hd
        by_cases hbig : (1000000000 : Int) < (n : Int)
        · go_wp2
          go_ret2
          exact ⟨.inr ⟨HN.out, rfl⟩, Below.refl _ _⟩
        · have hcmp := itoa_ne2 (n := n) HN.out (by omega)
          go_wp2_with fail
          refine (sDecimal_any _ _ (by omega) (by omega)).mono ?_
          rintro e w1 ⟨rfl, hb1⟩
          go_wp2
          go_ret2
          exact ⟨.inr ⟨HN.out, rfl⟩, hb1⟩
      · obtain rfl := HA.out m hd
        have hcmp := itoa_eq hd
        have hm := hd.le
        have HD : Hid (isDec s m) := hd
        clear hd
        go_wp2_with fail
        refine (sDecimal_any _ _ (by omega) (by omega)).mono ?_
        rintro e w1 ⟨rfl, hb1⟩
        go_wp2
        go_ret2
        exact ⟨.inl ⟨m, HD.out, rfl⟩, hb1⟩

set_option maxHeartbeats 400000 in
theorem sRDec_long (s : ByteArray) (w : World) (hs : (10 : Int) < (s.size : Int)) :
    Calls Tryd.prog 19 #[.string s] w fun e w' => e = .returned (.tuple #[.int .i64 0, .bool false]) ∧ Below w.heap.size w w' := by
  go_enter Tryd.func19, Tryd.ntmps19
  go_wp2
  go_ret2
  exact ⟨rfl, Below.refl _ _⟩

theorem dec_unique {s : ByteArray} {n m : Nat} (h : isDec s n) (k : isDec s m) : n = m := by
  rw [← dec_val n, ← h.is, k.is, dec_val]
theorem sRDec_yes (s : ByteArray) (n : Nat) (w : World) (hd : isDec s n) :
    Calls Tryd.prog 19 #[.string s] w fun e w' => e = .returned (.tuple #[.int .i64 (n : Int), .bool true]) ∧ Below w.heap.size w w' := by
  refine (sRDec_any s w hd.size).mono ?_
  rintro e w' ⟨⟨m, hm, rfl⟩ | ⟨hn, _⟩, hb⟩
  · rw [dec_unique hm hd]; exact ⟨rfl, hb⟩
  · exact absurd hd.is (hn n hd.le)
theorem sRDec_no (s : ByteArray) (w : World) (hd : noDec s) :
    Calls Tryd.prog 19 #[.string s] w fun e w' => e = .returned (.tuple #[.int .i64 0, .bool false]) ∧ Below w.heap.size w w' := by
  by_cases hs : s.size ≤ 10
  · refine (sRDec_any s w hs).mono ?_
    rintro e w' ⟨⟨m, hm, rfl⟩ | ⟨_, rfl⟩, hb⟩
    · exact absurd hm.is (hd m hm.le)
    · exact ⟨rfl, hb⟩
  · exact sRDec_long s w (by omega)
end Go.Proofs.YtcbebilhbghclaaDoor
