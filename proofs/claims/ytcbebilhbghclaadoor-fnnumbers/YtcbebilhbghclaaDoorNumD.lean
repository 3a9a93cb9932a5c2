/-
  The plain mathematics of decimal figures: the number of a text of figures, with wrap-round and without.
-/
import Derived.Test.YtcbebilhbghclaaDoorBase
namespace Go.Proofs.YtcbebilhbghclaaDoor
open Go.RowKit

def isDig (c : UInt8) : Prop := 48 ≤ c.toNat ∧ c.toNat ≤ 57
/-- the number of these figures, x ahead of them -/
def valD (x : Nat) (l : List UInt8) : Nat := l.foldl (fun n c => 10 * n + (c.toNat - 48)) x
/-- the same in 64 bits -/
def stepW (n : Int) (c : UInt8) : Int := wrap64 (wrap64 (n * 10) + ((c.toNat : Int) - 48))
def valW (x : Int) (l : List UInt8) : Int := l.foldl stepW x

theorem valD_snoc (x : Nat) (l : List UInt8) (c : UInt8) : valD x (l ++ [c]) = 10 * valD x l + (c.toNat - 48) := by simp [valD]
theorem valW_snoc (x : Int) (l : List UInt8) (c : UInt8) : valW x (l ++ [c]) = stepW (valW x l) c := by simp [valW]
theorem valD_ge (l : List UInt8) : ∀ x, x ≤ valD x l := by
  induction l with
  | nil => intro x; simp [valD]
  | cons c l ih => intro x; have := ih (10 * x + (c.toNat - 48)); simp only [valD, List.foldl_cons] at this ⊢; omega
theorem wrap64_id {x : Int} (h0 : 0 ≤ x) (h1 : x ≤ 9223372036854775807) : wrap64 x = x := by
  unfold wrap64
  omega
theorem valW_eq (l : List UInt8) : ∀ x : Nat, (∀ c ∈ l, isDig c) → valD x l ≤ 9223372036854775807 → valW x l = valD x l := by
  induction l with
  | nil => intro x _ _; simp [valW, valD]
  | cons c l ih =>
    intro x hd h
    have hc := hd c (by simp)
    unfold isDig at hc
    have hge := valD_ge l (10 * x + (c.toNat - 48))
    have e : stepW x c = ((10 * x + (c.toNat - 48) : Nat) : Int) := by
      simp only [valD, List.foldl_cons] at h hge
      unfold stepW
      rw [wrap64_id (x := (x : Int) * 10) (by omega) (by omega), wrap64_id (by omega) (by omega)]
      omega
    have := ih (10 * x + (c.toNat - 48)) (fun y hy => hd y (by simp [hy])) (by simpa [valD] using h)
    simp only [valW, valD, List.foldl_cons] at this ⊢
    rw [e]
    exact this

theorem dec_dig : ∀ (n : Nat), ∀ c ∈ Lib.decDigits n, isDig c := by
  intro n
  induction n using Nat.strongRecOn with
  | _ n ih =>
    by_cases h : n < 10
    · rw [dec_small h]
      intro c hc
      simp at hc
      subst hc
      unfold isDig
      simp; omega
    · rw [dec_big h]
      intro c hc
      rcases List.mem_append.1 hc with hc | hc
      · exact ih (n / 10) (by omega) c hc
      · simp at hc
        subst hc
        unfold isDig
        simp; omega
theorem dec_val : ∀ (n : Nat), valD 0 (Lib.decDigits n) = n := by
  intro n
  induction n using Nat.strongRecOn with
  | _ n ih =>
    by_cases h : n < 10
    · rw [dec_small h]
      simp [valD]; omega
    · rw [dec_big h, valD_snoc, ih (n / 10) (by omega)]
      simp; omega

theorem dec_len2 : ∀ (k u : Nat), u < 10 ^ (k + 1) → (Lib.decDigits u).length ≤ k + 1
  | 0, u, h => by rw [dec_small (by simpa using h)]; simp
  | k + 1, u, h => by
    by_cases h1 : u < 10
    · rw [dec_small h1]; simp
    · rw [dec_big h1]
      have := dec_len2 k (u / 10) (by rw [Nat.pow_succ] at h; omega)
      simp; omega

/-- the number in 0 .. 1000000000 whose numeral this is, or none -/
def noDec (s : ByteArray) : Prop := ∀ n : Nat, n ≤ 1000000000 → s.data.toList ≠ Lib.decDigits n
structure isDec (s : ByteArray) (n : Nat) : Prop where
  le : n ≤ 1000000000
  is : s.data.toList = Lib.decDigits n
theorem dec_cases (s : ByteArray) : noDec s ∨ ∃ n, isDec s n := by
  by_cases h : ∃ n, isDec s n
  · exact .inr h
  · exact .inl fun n hn e => h ⟨n, hn, e⟩
theorem isDec.size {s : ByteArray} {n : Nat} (h : isDec s n) : s.size ≤ 10 := by
  have h1 : (Lib.decDigits n).length ≤ 10 := dec_len2 9 n (by have := h.le; omega)
  have := congrArg List.length h.is
  have e : s.data.size = s.size := rfl
  simp at this
  omega
end Go.Proofs.YtcbebilhbghclaaDoor
