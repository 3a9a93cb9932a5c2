/-
  What is written is read back: numbers in bytes, short texts, figures, decimal figures.
-/
import Derived.Test.YtcbebilhbghclaaDoorWdB
import Derived.Test.YtcbebilhbghclaaDoorRDec
namespace Go.Proofs.YtcbebilhbghclaaDoor.wd
open Go.RowKit

theorem varB_stable : ∀ (f g n : Nat), n < 128 ^ (f + 1) → f ≤ g → varB g n = varB f n
  | 0, g, n, h, _ => by rw [varB_small g n (by simp at h; omega), varB_small 0 n (by simp at h; omega)]
  | f + 1, 0, n, _, hg => by omega
  | f + 1, g + 1, n, h, hg => by
    by_cases hn : 127 < n
    · rw [varB_big _ _ hn, varB_big _ _ hn, varB_stable f g (n / 128) (by rw [Nat.pow_succ] at h; omega) (by omega)]
    · rw [varB_small _ _ (by omega), varB_small _ _ (by omega)]

theorem mod_div_mul (n sc : Nat) : n % 128 * sc + n / 128 * (sc * 128) = n * sc := by
  have h := Nat.div_add_mod n 128
  have e : n / 128 * (sc * 128) = 128 * (n / 128) * sc := by rw [Nat.mul_comm sc 128, ← Nat.mul_assoc, Nat.mul_comm (n / 128) 128]
  rw [e, ← Nat.add_mul, Nat.add_comm, h]

theorem rd_varB (rest : List UInt8) : ∀ (f n F acc sc k : Nat), n < 128 ^ (f + 1) → f < F → acc + n * sc ≤ 1000000000 → (k = 0 ∨ 0 < n) →
    rd F acc sc k (varB f n ++ rest) = some (acc + n * sc, k + (varB f n).length)
  | f, n, 0, acc, sc, k, _, hF, _, _ => by omega
  | 0, n, F + 1, acc, sc, k, h, _, hle, hk => by
    have hn : n < 128 := by simpa using h
    have hc : (UInt8.ofNat n).toNat = n := by simp; omega
    simp only [varB, List.cons_append, List.nil_append, rd, hc, List.length_cons, List.length_nil]
    rw [if_pos hn, show n % 128 = n by omega, if_neg (by omega)]
  | f + 1, n, F + 1, acc, sc, k, h, hF, hle, hk => by
    by_cases hn : 127 < n
    · have hc : (UInt8.ofNat (n % 128 + 128)).toNat = n % 128 + 128 := by simp; omega
      have e := mod_div_mul n sc
      have ih := rd_varB rest f (n / 128) F (acc + n % 128 * sc) (sc * 128) (k + 1) (by rw [Nat.pow_succ] at h; omega) (by omega) (by omega) (.inr (by omega))
      rw [varB_big _ _ hn]
      simp only [List.cons_append, rd, hc, List.length_cons]
      rw [if_neg (by omega), show (n % 128 + 128) % 128 = n % 128 by omega, ih]
      simp only [Option.some.injEq, Prod.mk.injEq]
      omega
    · have hc : (UInt8.ofNat n).toNat = n := by simp; omega
      rw [varB_small _ _ (by omega)]
      simp only [List.cons_append, List.nil_append, rd, hc, List.length_cons, List.length_nil]
      rw [if_pos (by omega), show n % 128 = n by omega, if_neg (by omega)]

theorem rdv_back {s : ByteArray} {a n : Nat} {rest : List UInt8} (hn : n ≤ 1000000000) (h : s.data.toList.drop a = varB 9 n ++ rest) : rdv s a = some (n, a + (varB 9 n).length) := by
  have e := varB_stable 4 9 n (by omega) (by omega)
  unfold rdv
  rw [h, e, rd_varB rest 4 n 5 0 1 0 (by omega) (by omega) (by omega) (.inl rfl)]
  simp

theorem VarText_rt (n : Nat) (w : World) (hn : n ≤ 1000000000) :
    Calls Tryd.prog 9 #[.int .i64 (n : Int)] w fun e w' => ∃ V : ByteArray, e = .returned (.tuple #[.string V, .bool true]) ∧ V.data.toList = varB 9 n ∧ V.size ≤ 10 ∧ Below w.heap.size w w' := by
  refine (VarText_yes n w hn).mono ?_
  rintro e w' ⟨rfl, hb⟩
  exact ⟨_, rfl, rfl, by simpa [ByteArray.size] using varB_len 9 n, hb⟩
theorem ReadVar_rt (n : Nat) (V : ByteArray) (w : World) (hn : n ≤ 1000000000) (hV : V.data.toList = varB 9 n) (hs : V.size ≤ 10) :
    Calls Tryd.prog 10 #[.string (⟨#[120]⟩ ++ V ++ ⟨#[121]⟩), .int .i64 1] w fun e w' => e = .returned (.tuple #[.int .i64 (n : Int), .int .i64 ((V.size : Int) + 1), .bool true]) ∧ Below w.heap.size w w' := by
  have hz : (⟨#[120]⟩ ++ V ++ ⟨#[121]⟩ : ByteArray).size = V.size + 2 := by
    simp only [ByteArray.size_append]
    show 1 + V.size + 1 = V.size + 2
    omega
  have hd : (⟨#[120]⟩ ++ V ++ ⟨#[121]⟩ : ByteArray).data.toList.drop 1 = varB 9 n ++ [121] := by simp [hV]
  have hl : (varB 9 n).length = V.size := by rw [← hV]; rfl
  have hr := rdv_back hn hd
  refine (ReadVar_yes _ 1 n (1 + (varB 9 n).length) w (by rw [hz]; omega) ⟨by omega, by rw [hz]; omega, hr, hn, by rw [hz]; omega⟩).mono ?_
  rintro e w' ⟨rfl, hb⟩
  refine ⟨?_, hb⟩
  rw [show ((1 + (varB 9 n).length : Nat) : Int) = (V.size : Int) + 1 by rw [hl]; omega]

theorem ShortText_rt (t : ByteArray) (w : World) (ht : t.size ≤ 300) :
    Calls Tryd.prog 14 #[.string t] w fun e w' => ∃ A : ByteArray, e = .returned (.tuple #[.string A, .bool true]) ∧ A.data.toList = varB 9 t.size ++ t.data.toList ∧ A.size ≤ 400 ∧ Below w.heap.size w w' := by
  refine (Short_yes t w (by omega)).mono ?_
  rintro e w' ⟨rfl, hb⟩
  refine ⟨_, rfl, by simp, ?_, hb⟩
  have := varB_len 9 t.size
  rw [ByteArray.size_append]
  show (varB 9 t.size).toArray.size + t.size ≤ 400
  simp; omega
theorem ReadShort_rt (t A : ByteArray) (w : World) (ht : t.size ≤ 300) (hA : A.data.toList = varB 9 t.size ++ t.data.toList) (hs : A.size ≤ 400) :
    Calls Tryd.prog 15 #[.string A, .int .i64 0] w fun e w' => e = .returned (.tuple #[.string t, .int .i64 (A.size : Int), .bool true]) ∧ Below w.heap.size w w' := by
  have hts : t.data.size = t.size := rfl
  have hz : A.size = (varB 9 t.size).length + t.size := by
    have := congrArg List.length hA
    have e : A.data.size = A.size := rfl
    simp at this; omega
  have hr : rdv A 0 = some (t.size, 0 + (varB 9 t.size).length) := rdv_back (by omega) (by simpa using hA)
  have hx : A.extract (0 + (varB 9 t.size).length) (0 + (varB 9 t.size).length + t.size) = t := by
    apply ByteArray.ext
    apply Array.toList_inj.1
    rw [Lib.extract_data, hA, Nat.zero_add, List.drop_append_of_le_length (Nat.le_refl _), List.drop_length, List.nil_append, Nat.add_sub_cancel_left]
    exact List.take_of_length_le (by simp only [Array.length_toList]; omega)
  refine (RShort_yes A 0 t.size (0 + (varB 9 t.size).length) w (by omega) ⟨⟨by omega, by omega, hr, by omega, by omega⟩, by omega, by omega⟩).mono ?_
  rintro e w' ⟨rfl, hb⟩
  refine ⟨?_, hb⟩
  rw [hx, show ((0 + (varB 9 t.size).length : Nat) : Int) + (t.size : Int) = (A.size : Int) by omega]

theorem hv_fig (x : Nat) (h : x < 16) : hv (fig x) = some x := by
  match x, h with
  | 0, _ => rfl
  | 1, _ => rfl
  | 2, _ => rfl
  | 3, _ => rfl
  | 4, _ => rfl
  | 5, _ => rfl
  | 6, _ => rfl
  | 7, _ => rfl
  | 8, _ => rfl
  | 9, _ => rfl
  | 10, _ => rfl
  | 11, _ => rfl
  | 12, _ => rfl
  | 13, _ => rfl
  | 14, _ => rfl
  | 15, _ => rfl
  | n + 16, h => omega
theorem unhex_hex (l : List UInt8) : unhexL (hexL l) = some l := by
  induction l with
  | nil => rfl
  | cons c l ih =>
    have hc : c.toNat < 256 := c.toNat_lt
    simp only [hexL, List.flatMap_cons, List.cons_append, List.nil_append, unhexL, hv_fig (c.toNat / 16) (by omega), hv_fig (c.toNat % 16) (by omega)]
    have e : UInt8.ofNat (16 * (c.toNat / 16) + c.toNat % 16) = c := by rw [Nat.div_add_mod]; simp
    rw [e]
    unfold hexL at ih
    rw [ih]
    rfl
theorem Hex_rt (t : ByteArray) (w : World) (ht : t.size ≤ 300) :
    Calls Tryd.prog 16 #[.string t] w fun e w' => ∃ h : ByteArray, e = .returned (.tuple #[.string h, .bool true]) ∧ h.data.toList = hexL t.data.toList ∧ h.size = 2 * t.size ∧ Below w.heap.size w w' := by
  refine (Hex_any t w (by omega)).mono ?_
  rintro e w' ⟨rfl, hb⟩
  refine ⟨_, rfl, rfl, ?_, hb⟩
  have hts : t.data.size = t.size := rfl
  show (hexL t.data.toList).toArray.size = 2 * t.size
  rw [List.size_toArray, hex_len, Array.length_toList, hts]
theorem Unhex_rt (t h : ByteArray) (w : World) (ht : t.size ≤ 300) (hh : h.data.toList = hexL t.data.toList) (hs : h.size = 2 * t.size) :
    Calls Tryd.prog 17 #[.string h] w fun e w' => e = .returned (.tuple #[.string t, .bool true]) ∧ Below w.heap.size w w' := by
  refine (Unhex_yes h t.data.toList w ⟨by omega, by omega, by rw [hh]; exact unhex_hex _⟩).mono ?_
  rintro e w' ⟨rfl, hb⟩
  exact ⟨rfl, hb⟩

theorem Dec_rt (n : Nat) (w : World) (hn : n ≤ 1000000000) (htab : Lib.TabIs Tryd.prog w "internal/strconv.uint64pow10" .u64 Lib.pow10Tab) :
    Calls Tryd.prog 12 #[.int .i64 (n : Int)] w fun e w' => ∃ D : ByteArray, e = .returned (.string D) ∧ isDec D n ∧ Below w.heap.size w w' := by
  refine (Decimal_any (n : Int) w (by omega) (by omega) htab).mono ?_
  rintro e w' ⟨rfl, hb⟩
  exact ⟨_, rfl, ⟨hn, by rw [itoa_nat]⟩, hb⟩
end Go.Proofs.YtcbebilhbghclaaDoor.wd
