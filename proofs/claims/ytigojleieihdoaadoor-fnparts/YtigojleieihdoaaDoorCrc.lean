/-
  The check sum in plain mathematics: one step, eight steps, four bytes; four steps at once by a table; that one byte that is another makes another sum.
-/
import Derived.Test.YtigojleieihdoaaDoorRows
import Derived.Laws.BitsAllLaws
namespace Go.Proofs.YtigojleieihdoaaDoor

theorem xor_zero_eq {x y : Nat} (h : x ^^^ y = 0) : x = y := by
  have e : x ^^^ y ^^^ y = 0 ^^^ y := by rw [h]
  rwa [Nat.xor_assoc, Nat.xor_self, Nat.xor_zero, Nat.zero_xor] at e

/-- one step -/
def step (x : Nat) : Nat := if x % 2 = 1 then x / 2 ^^^ 3558460437 else x / 2
def steps : Nat → Nat → Nat
  | 0, x => x
  | k + 1, x => steps k (step x)
/-- a byte more -/
def upd (s : Nat) (c : UInt8) : Nat := steps 8 (s ^^^ c.toNat)
def crc (s : Nat) (l : List UInt8) : Nat := l.foldl upd s

theorem lt32 {x : Nat} (h : x < 4294967296) : x < 2 ^ 32 := h
theorem xor_lt {x y : Nat} (hx : x < 4294967296) (hy : y < 4294967296) : x ^^^ y < 4294967296 := Nat.xor_lt_two_pow (n := 32) hx hy
theorem step_lt {x : Nat} (h : x < 4294967296) : step x < 4294967296 := by
  unfold step
  split
  · exact xor_lt (by omega) (by omega)
  · omega
theorem steps_lt : ∀ (k x : Nat), x < 4294967296 → steps k x < 4294967296
  | 0, _, h => h
  | k + 1, _, h => steps_lt k _ (step_lt h)
theorem byte_lt (c : UInt8) : c.toNat < 4294967296 := by have := c.toNat_lt; omega
theorem upd_lt {s : Nat} (c : UInt8) (h : s < 4294967296) : upd s c < 4294967296 := steps_lt 8 _ (xor_lt h (byte_lt c))
theorem crc_lt : ∀ (l : List UInt8) (s : Nat), s < 4294967296 → crc s l < 4294967296
  | [], _, h => h
  | c :: l, s, h => crc_lt l (upd s c) (upd_lt c h)

/-- a step goes bit by bit -/
theorem step_xor (x y : Nat) : step (x ^^^ y) = step x ^^^ step y := by
  unfold step
  have hd : (x ^^^ y) / 2 = x / 2 ^^^ y / 2 := Nat.xor_div_two
  have hm : (x ^^^ y) % 2 = 1 ↔ ¬ (x % 2 = 1 ↔ y % 2 = 1) := Nat.xor_mod_two_eq_one
  by_cases h1 : x % 2 = 1 <;> by_cases h2 : y % 2 = 1 <;> simp [h1, h2, hm, hd]
  · rw [Nat.xor_assoc, Nat.xor_comm 3558460437, Nat.xor_assoc, Nat.xor_self, Nat.xor_zero]
  · rw [Nat.xor_assoc, Nat.xor_comm _ 3558460437, ← Nat.xor_assoc]
  · rw [Nat.xor_assoc]
theorem steps_xor : ∀ (k x y : Nat), steps k (x ^^^ y) = steps k x ^^^ steps k y
  | 0, _, _ => rfl
  | k + 1, x, y => by simp only [steps, step_xor, steps_xor k]
theorem steps_succ : ∀ (k x : Nat), steps (k + 1) x = step (steps k x)
  | 0, _ => rfl
  | k + 1, x => by rw [steps, steps_succ k]; rfl
theorem steps_add : ∀ (j k x : Nat), steps (j + k) x = steps k (steps j x)
  | 0, k, x => by simp [steps]
  | j + 1, k, x => by rw [show j + 1 + k = (j + k) + 1 by omega, steps, steps_add j k]; rfl

theorem step_zero {x : Nat} (h : x < 4294967296) (hz : step x = 0) : x = 0 := by
  unfold step at hz
  split at hz
  · exfalso
    have := xor_zero_eq hz
    omega
  · omega
theorem steps_zero : ∀ (k x : Nat), x < 4294967296 → steps k x = 0 → x = 0
  | 0, _, _, h => h
  | k + 1, _, h, hz => step_zero h (steps_zero k _ (step_lt h) hz)
theorem steps_inj {k x y : Nat} (hx : x < 4294967296) (hy : y < 4294967296) (h : steps k x = steps k y) : x = y := by
  have : steps k (x ^^^ y) = 0 := by rw [steps_xor, h, Nat.xor_self]
  exact xor_zero_eq (steps_zero k _ (xor_lt hx hy) this)
theorem xor_left {s x y : Nat} (h : s ^^^ x = s ^^^ y) : x = y := by
  have := congrArg (s ^^^ ·) h
  simpa [← Nat.xor_assoc] using this
theorem upd_inj_byte {s : Nat} {c d : UInt8} (hs : s < 4294967296) (h : upd s c = upd s d) : c = d :=
  UInt8.toNat_inj.1 (xor_left (steps_inj (xor_lt hs (byte_lt c)) (xor_lt hs (byte_lt d)) h))
theorem upd_inj_sum {s t : Nat} {c : UInt8} (hs : s < 4294967296) (ht : t < 4294967296) (h : upd s c = upd t c) : s = t := by
  have := steps_inj (xor_lt hs (byte_lt c)) (xor_lt ht (byte_lt c)) h
  rw [Nat.xor_comm s, Nat.xor_comm t] at this
  exact xor_left this
theorem crc_inj_sum : ∀ (l : List UInt8) {s t : Nat}, s < 4294967296 → t < 4294967296 → crc s l = crc t l → s = t
  | [], _, _, _, _, h => h
  | c :: l, _, _, hs, ht, h => upd_inj_sum hs ht (crc_inj_sum l (upd_lt c hs) (upd_lt c ht) h)
theorem crc_append (s : Nat) (a b : List UInt8) : crc s (a ++ b) = crc (crc s a) b := by simp [crc]
/-- one byte that is another makes another sum -/
theorem crc_other {s : Nat} (a b : List UInt8) {c d : UInt8} (hs : s < 4294967296) (h : crc s (a ++ c :: b) = crc s (a ++ d :: b)) : c = d := by
  rw [crc_append, crc_append] at h
  have ha := crc_lt a s hs
  exact upd_inj_byte ha (crc_inj_sum b (upd_lt c ha) (upd_lt d ha) h)

/-- the table of four steps -/
def tab16 : List Nat := [0, 1166650509, 2333301018, 3466261911, 3189058079, 4221339282, 889615109, 1888477064, 3558460437, 2442158232, 1594529039, 444807554, 1779230218, 797264519, 3776954128, 2761298845]
def half (s : Nat) : Nat := s / 16 ^^^ tab16.getD (s % 16) 0
theorem step_split (x : Nat) : step x = x / 2 ^^^ step (x % 2) := by
  have hb : x % 2 = 0 ∨ x % 2 = 1 := by omega
  rcases hb with h | h
  · rw [h]; simp [step, h]
  · rw [h]; simp [step, h]
theorem half_steps (x : Nat) : steps 4 x = half x := by
  have h4 : steps 4 x = x / 16 ^^^ step (x / 8 % 2) ^^^ steps 2 (x / 4 % 2) ^^^ steps 3 (x / 2 % 2) ^^^ steps 4 (x % 2) := by
    have e1 := step_split x
    have e2 := step_split (x / 2)
    have e3 := step_split (x / 4)
    have e4 := step_split (x / 8)
    rw [show x / 2 / 2 = x / 4 by omega] at e2
    rw [show x / 4 / 2 = x / 8 by omega] at e3
    rw [show x / 8 / 2 = x / 16 by omega] at e4
    show steps 3 (step x) = _
    rw [e1, steps_xor]
    show steps 2 (step (x / 2)) ^^^ steps 4 (x % 2) = _
    rw [e2, steps_xor]
    show steps 1 (step (x / 4)) ^^^ steps 3 (x / 2 % 2) ^^^ steps 4 (x % 2) = _
    rw [e3, steps_xor]
    show step (x / 8) ^^^ steps 2 (x / 4 % 2) ^^^ steps 3 (x / 2 % 2) ^^^ steps 4 (x % 2) = _
    rw [e4]
  rw [h4]
  unfold half
  have hr : x % 16 < 16 := Nat.mod_lt _ (by omega)
  have r1 : x / 8 % 2 = x % 16 / 8 % 2 := by omega
  have r2 : x / 4 % 2 = x % 16 / 4 % 2 := by omega
  have r3 : x / 2 % 2 = x % 16 / 2 % 2 := by omega
  have r4 : x % 2 = x % 16 % 2 := by omega
  rw [r1, r2, r3, r4]
  simp only [Nat.xor_assoc]
  congr 1
  have key : ∀ r, r < 16 → step (r / 8 % 2) ^^^ (steps 2 (r / 4 % 2) ^^^ (steps 3 (r / 2 % 2) ^^^ steps 4 (r % 2))) = tab16.getD r 0 := by decide
  exact key _ hr
theorem half_lt {x : Nat} (h : x < 4294967296) : half x < 4294967296 := by rw [← half_steps]; exact steps_lt 4 x h
theorem upd_halves (s : Nat) (c : UInt8) : upd s c = half (half (s ^^^ c.toNat)) := by
  unfold upd
  rw [steps_add 4 4, half_steps, half_steps]

/-- the sum in four bytes -/
def four (x : Nat) : List UInt8 := [UInt8.ofNat (x / 16777216), UInt8.ofNat (x / 65536), UInt8.ofNat (x / 256), UInt8.ofNat x]
theorem four_len (x : Nat) : (four x).length = 4 := rfl
theorem four_inj {x y : Nat} (hx : x < 4294967296) (hy : y < 4294967296) (h : four x = four y) : x = y := by
  simp only [four, List.cons.injEq] at h
  obtain ⟨h1, h2, h3, h4, _⟩ := h
  have t1 := congrArg UInt8.toNat h1
  have t2 := congrArg UInt8.toNat h2
  have t3 := congrArg UInt8.toNat h3
  have t4 := congrArg UInt8.toNat h4
  simp at t1 t2 t3 t4
  omega

/-- the sum of a text -/
def sumL (l : List UInt8) : Nat := crc 4294967295 l
theorem sumL_lt (l : List UInt8) : sumL l < 4294967296 := crc_lt l _ (by omega)
theorem sumL_snoc (l : List UInt8) (c : UInt8) : sumL (l ++ [c]) = crc (sumL l) [c] := crc_append _ _ _
/-- a text with its sum behind it -/
def sealL (l : List UInt8) : List UInt8 := l ++ four (sumL l)
/-- a text that bears its sum -/
def Bears (l : List UInt8) : Prop := four (sumL (l.take (l.length - 4))) = l.drop (l.length - 4)
theorem bears_seal (l : List UInt8) : Bears (sealL l) := by
  have hl : (sealL l).length - 4 = l.length := by simp [sealL, four_len]
  unfold Bears
  rw [hl]
  simp [sealL]
/-- with one byte that is another it doesn't -/
theorem bears_not (l : List UInt8) (i : Nat) (c : UInt8) (hi : i < (sealL l).length) (hc : c ≠ (sealL l)[i]) : ¬ Bears ((sealL l).set i c) := by
  have hl : ((sealL l).set i c).length - 4 = l.length := by simp [sealL, four_len]
  intro h
  unfold Bears at h
  rw [hl] at h
  by_cases hlt : i < l.length
  · have e1 : (sealL l).set i c = l.set i c ++ four (sumL l) := by rw [sealL, List.set_append, if_pos hlt]
    rw [e1, List.take_left' (by simp), List.drop_left' (by simp)] at h
    have h2 := four_inj (sumL_lt _) (sumL_lt _) h
    have e2 : l = l.take i ++ l[i] :: l.drop (i + 1) := by simp
    have e3 : l.set i c = l.take i ++ c :: l.drop (i + 1) := by rw [List.set_eq_take_append_cons_drop, if_pos hlt]
    rw [e3] at h2
    have h3 : crc 4294967295 (l.take i ++ c :: l.drop (i + 1)) = crc 4294967295 (l.take i ++ l[i] :: l.drop (i + 1)) := by rw [← e2]; exact h2
    have := crc_other _ _ (by omega) h3
    apply hc
    rw [this]
    simp only [sealL]
    rw [List.getElem_append_left hlt]
  · have hi2 : i - l.length < (four (sumL l)).length := by simp [sealL] at hi; omega
    have e1 : (sealL l).set i c = l ++ (four (sumL l)).set (i - l.length) c := by rw [sealL, List.set_append, if_neg hlt]
    rw [e1, List.take_left' rfl, List.drop_left' rfl] at h
    have h2 := congrArg (fun x => x[i - l.length]?) h
    simp only [List.getElem?_set_self hi2] at h2
    apply hc
    rw [List.getElem?_eq_getElem hi2] at h2
    have := Option.some.inj h2
    rw [← this]
    simp only [sealL]
    rw [List.getElem_append_right (by omega)]

end Go.Proofs.YtigojleieihdoaaDoor
