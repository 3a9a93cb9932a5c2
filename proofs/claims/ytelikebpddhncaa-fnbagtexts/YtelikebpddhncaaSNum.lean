/-
  The plain mathematics of a number in bytes: how it is read, and that what is read is what is written.
-/
import Derived.Test.YtelikebpddhncaaSBase
namespace Go.Proofs.Ytelikebpddhncaa.sp

/-- what is read: f bytes at most, acc so far, the next byte counts sc, k bytes are behind -/
def rd : Nat → Nat → Nat → Nat → List UInt8 → Option (Nat × Nat)
  | 0, _, _, _, _ => none
  | _ + 1, _, _, _, [] => none
  | f + 1, acc, sc, k, b :: l =>
    if b.toNat < 128 then (if (b.toNat = 0 ∧ 0 < k) ∨ 1000000000 < acc + b.toNat % 128 * sc then none else some (acc + b.toNat % 128 * sc, k + 1))
    else rd f (acc + b.toNat % 128 * sc) (sc * 128) (k + 1) l

def rdv (s : ByteArray) (a : Nat) : Option (Nat × Nat) := (rd 5 0 1 0 (s.data.toList.drop a)).map fun x => (x.1, a + x.2)

theorem rd_end (f acc sc k a : Nat) (l : List UInt8) (h : l.length ≤ a) : rd f acc sc k (l.drop a) = none := by
  rw [List.drop_of_length_le h]; cases f <;> rfl
theorem rd_cons (f acc sc k a : Nat) (l : List UInt8) (h : a < l.length) : rd (f + 1) acc sc k (l.drop a) =
    if l[a].toNat < 128 then (if (l[a].toNat = 0 ∧ 0 < k) ∨ 1000000000 < acc + l[a].toNat % 128 * sc then none else some (acc + l[a].toNat % 128 * sc, k + 1))
    else rd f (acc + l[a].toNat % 128 * sc) (sc * 128) (k + 1) (l.drop (a + 1)) := by
  rw [List.drop_eq_getElem_cons h]; rfl

theorem rd_le : ∀ (f acc sc k : Nat) (l : List UInt8) (n p : Nat), rd f acc sc k l = some (n, p) → n ≤ 1000000000 ∧ p ≤ k + l.length
  | 0, _, _, _, _, _, _, h => by simp [rd] at h
  | _ + 1, _, _, _, [], _, _, h => by simp [rd] at h
  | f + 1, acc, sc, k, b :: l, n, p, h => by
    simp only [rd] at h
    split at h
    · split at h
      · cases h
      · simp only [Option.some.injEq, Prod.mk.injEq] at h
        simp only [List.length_cons]; omega
    · have := rd_le f _ _ _ l n p h
      simp only [List.length_cons]; omega

theorem rdv_le {s : ByteArray} {a n p : Nat} (ha : a ≤ s.size) (h : rdv s a = some (n, p)) : n ≤ 1000000000 ∧ p ≤ s.size := by
  unfold rdv at h
  cases hr : rd 5 0 1 0 (s.data.toList.drop a) with
  | none => simp [hr] at h
  | some x =>
    simp [hr] at h
    have := rd_le _ _ _ _ _ x.1 x.2 hr
    simp at this
    have hs : s.data.size = s.size := rfl
    omega

/-- the number of these bytes -/
def valB : List UInt8 → Nat
  | [] => 0
  | b :: l => b.toNat % 128 + 128 * valB l

theorem valB_snoc (l : List UInt8) (c : UInt8) : valB (l ++ [c]) = valB l + c.toNat % 128 * 128 ^ l.length := by
  induction l with
  | nil => simp [valB]
  | cons b l ih =>
    simp only [List.cons_append, valB, ih, List.length_cons, Nat.pow_succ]
    rw [Nat.mul_add, Nat.mul_comm (128 ^ l.length) 128, ← Nat.mul_assoc, ← Nat.mul_assoc, Nat.mul_comm 128 (c.toNat % 128)]
    omega

theorem valB_pos (l : List UInt8) (c : UInt8) (hc : c.toNat < 128) (h0 : c.toNat ≠ 0) : 0 < valB (l ++ [c]) := by
  induction l with
  | nil => simp [valB]; omega
  | cons b l ih => simp only [List.cons_append, valB]; omega

theorem valB_lt (l : List UInt8) : valB l < 128 ^ l.length := by
  induction l with
  | nil => simp [valB]
  | cons b l ih => simp only [valB, List.length_cons, Nat.pow_succ]; omega

theorem varB_val (c : UInt8) (hc : c.toNat < 128) (h0 : c.toNat ≠ 0) : ∀ (pre : List UInt8) (f : Nat), (∀ x ∈ pre, 128 ≤ x.toNat) → pre.length ≤ f → varB f (valB (pre ++ [c])) = pre ++ [c]
  | [], f, _, _ => by
    simp only [List.nil_append, valB]
    rw [varB_small _ _ (by omega)]
    have : c.toNat % 128 + 128 * 0 = c.toNat := by omega
    rw [this]; simp
  | b :: l, 0, _, h => by simp at h
  | b :: l, f + 1, hp, h => by
    have hb := hp b (by simp)
    have hlt : b.toNat < 256 := b.toNat_lt
    have ih := varB_val c hc h0 l f (fun x hx => hp x (by simp [hx])) (by simpa using h)
    have hpos := valB_pos l c hc h0
    simp only [List.cons_append, valB]
    rw [varB_big _ _ (by omega)]
    have e1 : (b.toNat % 128 + 128 * valB (l ++ [c])) % 128 + 128 = b.toNat := by omega
    have e2 : (b.toNat % 128 + 128 * valB (l ++ [c])) / 128 = valB (l ++ [c]) := by omega
    rw [e1, e2, ih]; simp

theorem varB_last : ∀ (f n : Nat), n < 128 ^ (f + 1) → 0 < n → ∃ l c, varB f n = l ++ [c] ∧ c.toNat ≠ 0
  | 0, n, h, h0 => ⟨[], UInt8.ofNat n, rfl, by simp at h ⊢; omega⟩
  | f + 1, n, h, h0 => by
    by_cases hn : 127 < n
    · obtain ⟨l, c, e, hc⟩ := varB_last f (n / 128) (by rw [Nat.pow_succ] at h; omega) (by omega)
      exact ⟨UInt8.ofNat (n % 128 + 128) :: l, c, by rw [varB_big _ _ hn, e]; rfl, hc⟩
    · exact ⟨[], UInt8.ofNat n, by rw [varB_small _ _ (by omega)]; rfl, by simp; omega⟩

/-- a longer form is not what is written -/
theorem varB_longer (pre : List UInt8) (c : UInt8) (h0 : c.toNat = 0) (hp : 0 < pre.length) (f : Nat) (hf : pre.length < f) : varB f (valB (pre ++ [c])) ≠ pre ++ [c] := by
  intro h
  rw [valB_snoc, h0] at h
  by_cases hv : valB pre = 0
  · rw [hv] at h
    have h2 := congrArg List.length h
    rw [varB_small _ _ (by simp)] at h2
    simp only [List.length_append, List.length_cons, List.length_nil] at h2
    omega
  · have hlt := valB_lt pre
    have : (128 : Nat) ^ pre.length ≤ 128 ^ (f + 1) := Nat.pow_le_pow_right (by omega) (by omega)
    obtain ⟨l, d, e, hd⟩ := varB_last f (valB pre + 0 % 128 * 128 ^ pre.length) (by simp; omega) (by simp; omega)
    rw [e] at h
    have := List.append_inj_right' h rfl
    simp at this
    subst this
    exact hd h0

theorem varB_iff (pre : List UInt8) (c : UInt8) (hc : c.toNat < 128) (hp : ∀ x ∈ pre, 128 ≤ x.toNat) (hl : pre.length < 9) :
    (varB 9 (valB (pre ++ [c])) = pre ++ [c]) ↔ ¬ (c.toNat = 0 ∧ 0 < pre.length) := by
  constructor
  · rintro h ⟨h0, h1⟩
    exact varB_longer pre c h0 h1 9 hl h
  · intro h
    by_cases h0 : c.toNat = 0
    · have : pre = [] := by
        cases pre with
        | nil => rfl
        | cons b l => exact absurd ⟨h0, by simp⟩ h
      subst this
      simp only [List.nil_append, valB, h0]
      rw [varB_small _ _ (by omega)]
      simp
      exact UInt8.toNat_inj.1 (by simp [h0])
    · exact varB_val c hc h0 pre 9 hp (by omega)

end Go.Proofs.Ytelikebpddhncaa.sp
