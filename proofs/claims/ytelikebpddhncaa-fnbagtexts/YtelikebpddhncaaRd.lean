/-
  The plain mathematics of reading a bag: numbers one behind the other, items, a bag; what is read is what was written.
-/
import Derived.Test.YtelikebpddhncaaSReadC
import Derived.Test.YtelikebpddhncaaTxt
namespace Go.Proofs.Ytelikebpddhncaa
open Go.RowKit sp

theorem varB_stable : ∀ (f g n : Nat), n < 128 ^ (f + 1) → f ≤ g → varB g n = varB f n
  | 0, g, n, h, _ => by rw [varB_small g n (by simp at h; omega), varB_small 0 n (by simp at h; omega)]
  | f + 1, 0, n, _, hg => by omega
  | f + 1, g + 1, n, h, hg => by
    by_cases hn : 127 < n
    · rw [varB_big _ _ hn, varB_big _ _ hn, varB_stable f g (n / 128) (by rw [Nat.pow_succ] at h; omega) (by omega)]
    · rw [varB_small _ _ (by omega), varB_small _ _ (by omega)]
theorem mod_div_mul (n sc : Nat) : n % 128 * sc + n / 128 * (sc * 128) = n * sc := by
  have h := Nat.div_add_mod n 128
  have e : n / 128 * (sc * 128) = 128 * (n / 128) * sc := by rw [Nat.mul_comm sc 128, ← Nat.mul_assoc, Nat.mul_comm (n / 128) 128]
  rw [e, ← Nat.add_mul, Nat.add_comm, h]
theorem rd_varB (rest : List UInt8) : ∀ (f n F acc sc k : Nat), n < 128 ^ (f + 1) → f < F → acc + n * sc ≤ 1000000000 → (k = 0 ∨ 0 < n) →
    rd F acc sc k (varB f n ++ rest) = some (acc + n * sc, k + (varB f n).length)
  | f, n, 0, acc, sc, k, _, hF, _, _ => by omega
  | 0, n, F + 1, acc, sc, k, h, _, hle, hk => by
    have hn : n < 128 := by simpa using h
    have hc : (UInt8.ofNat n).toNat = n := by simp; omega
    simp only [varB, List.cons_append, List.nil_append, rd, hc, List.length_cons, List.length_nil]
    rw [if_pos hn, show n % 128 = n by omega, if_neg (by omega)]
  | f + 1, n, F + 1, acc, sc, k, h, hF, hle, hk => by
    by_cases hn : 127 < n
    · have hc : (UInt8.ofNat (n % 128 + 128)).toNat = n % 128 + 128 := by simp; omega
      have e := mod_div_mul n sc
      have ih := rd_varB rest f (n / 128) F (acc + n % 128 * sc) (sc * 128) (k + 1) (by rw [Nat.pow_succ] at h; omega) (by omega) (by omega) (.inr (by omega))
      rw [varB_big _ _ hn]
      simp only [List.cons_append, rd, hc, List.length_cons]
      rw [if_neg (by omega), show (n % 128 + 128) % 128 = n % 128 by omega, ih]
      simp only [Option.some.injEq, Prod.mk.injEq]
      omega
    · have hc : (UInt8.ofNat n).toNat = n := by simp; omega
      rw [varB_small _ _ (by omega)]
      simp only [List.cons_append, List.nil_append, rd, hc, List.length_cons, List.length_nil]
      rw [if_pos (by omega), show n % 128 = n by omega, if_neg (by omega)]
/-- what is written is read -/
theorem rd_back {n : Nat} (hn : n ≤ 1000000000) (rest : List UInt8) : rd 5 0 1 0 (varB 9 n ++ rest) = some (n, (varB 9 n).length) := by
  rw [varB_stable 4 9 n (by omega) (by omega), rd_varB rest 4 n 5 0 1 0 (by omega) (by omega) (by omega) (.inl rfl)]
  simp
/-- what is read was written so -/
theorem rd_shape : ∀ (f acc sc k : Nat) (l : List UInt8) (n p : Nat), rd f acc sc k l = some (n, p) →
    ∃ pre c rest, l = pre ++ c :: rest ∧ (∀ x ∈ pre, 128 ≤ x.toNat) ∧ c.toNat < 128 ∧ ¬ (c.toNat = 0 ∧ 0 < k + pre.length) ∧ n = acc + sc * valB (pre ++ [c]) ∧ p = k + pre.length + 1 ∧ pre.length < f ∧ n ≤ 1000000000
  | 0, _, _, _, _, _, _, h => by simp [rd] at h
  | f + 1, _, _, _, [], _, _, h => by simp [rd] at h
  | f + 1, acc, sc, k, b :: l, n, p, h => by
    simp only [rd] at h
    by_cases hb : b.toNat < 128
    · rw [if_pos hb] at h
      by_cases hz : (b.toNat = 0 ∧ 0 < k) ∨ 1000000000 < acc + b.toNat % 128 * sc
      · rw [if_pos hz] at h; cases h
      · rw [if_neg hz] at h
        simp only [Option.some.injEq, Prod.mk.injEq] at h
        obtain ⟨rfl, rfl⟩ := h
        refine ⟨[], b, l, rfl, by simp, hb, ?_, ?_, by simp, by simp, by omega⟩
        · intro h2; exact hz (.inl (by simpa using h2))
        · simp [valB, Nat.mul_comm]
    · rw [if_neg hb] at h
      obtain ⟨pre, c, rest, rfl, h1, h2, h3, h4, h5, h6, h7⟩ := rd_shape f _ _ _ l n p h
      refine ⟨b :: pre, c, rest, rfl, ?_, h2, ?_, ?_, ?_, ?_, h7⟩
      · intro x hx
        rcases List.mem_cons.1 hx with rfl | hx
        · omega
        · exact h1 x hx
      · intro ⟨e1, _⟩; exact h3 ⟨e1, by omega⟩
      · rw [h4]; simp only [List.cons_append, valB]
        rw [Nat.mul_add, Nat.mul_comm sc (b.toNat % 128), Nat.mul_assoc]; omega
      · rw [h5, List.length_cons]; omega
      · rw [List.length_cons]; omega
theorem rd_is {l : List UInt8} {n p : Nat} (h : rd 5 0 1 0 l = some (n, p)) : l = varB 9 n ++ l.drop p ∧ n ≤ 1000000000 := by
  obtain ⟨pre, c, rest, rfl, h1, h2, h3, h4, h5, h6, h7⟩ := rd_shape 5 0 1 0 l n p h
  have hv : varB 9 n = pre ++ [c] := by
    rw [h4, Nat.zero_add, Nat.one_mul]
    exact (varB_iff pre c h2 h1 (by omega)).2 (by simpa using h3)
  refine ⟨?_, h7⟩
  rw [hv, h5, Nat.zero_add]
  have e : (pre ++ c :: rest).drop (pre.length + 1) = rest := by
    rw [show pre ++ c :: rest = (pre ++ [c]) ++ rest by simp]
    rw [List.drop_append_of_le_length (by simp)]
    simp
  rw [e]; simp

/-- what is left to read; none: it has failed -/
abbrev St := Option (List UInt8)
/-- the next number, most at most -/
def rn : St → Nat → Nat × St
  | none, _ => (0, none)
  | some r, most => match rd 5 0 1 0 r with
    | none => (0, none)
    | some (n, k) => if most < n then (0, none) else (n, some (r.drop k))
theorem rn_none (most : Nat) : rn none most = (0, none) := rfl
theorem rn_of_none {r : List UInt8} {most : Nat} (h : rd 5 0 1 0 r = none) : rn (some r) most = (0, none) := by show (match rd 5 0 1 0 r with | none => ((0, none) : Nat × St) | some (n, k) => if most < n then (0, none) else (n, some (r.drop k))) = _; rw [h]
theorem rn_of_some {r : List UInt8} {most n k : Nat} (h : rd 5 0 1 0 r = some (n, k)) : rn (some r) most = if most < n then (0, none) else (n, some (r.drop k)) := by show (match rd 5 0 1 0 r with | none => ((0, none) : Nat × St) | some (n, k) => if most < n then (0, none) else (n, some (r.drop k))) = _; rw [h]
theorem rn_iff {r r' : List UInt8} {most n : Nat} (hm : most ≤ 1000000000) : rn (some r) most = (n, some r') ↔ n ≤ most ∧ r = varB 9 n ++ r' := by
  constructor
  · intro h
    rcases hv : rd 5 0 1 0 r with _ | ⟨m, k⟩
    · rw [rn_of_none hv] at h; simp at h
    · rw [rn_of_some hv] at h
      by_cases hlt : most < m
      · rw [if_pos hlt] at h; simp at h
      · rw [if_neg hlt] at h
        simp only [Prod.mk.injEq, Option.some.injEq] at h
        obtain ⟨rfl, rfl⟩ := h
        exact ⟨by omega, (rd_is hv).1⟩
  · rintro ⟨h1, rfl⟩
    rw [rn_of_some (rd_back (by omega) _), if_neg (by omega)]
    simp
theorem rn_le (st : St) (most : Nat) : (rn st most).1 ≤ most := by
  unfold rn
  split
  · simp
  · rename_i r
    split
    · simp
    · split
      · simp
      · simp; omega
theorem rn_some {st : St} {most n : Nat} {r' : List UInt8} (h : rn st most = (n, some r')) : ∃ r, st = some r := by
  cases st with
  | none => simp [rn] at h
  | some r => exact ⟨r, rfl⟩

/-- m numbers, most at most each -/
def readNums (most : Nat) : Nat → St → List Int × St
  | 0, st => ([], st)
  | m + 1, st =>
    let x := rn st most
    let y := readNums most m x.2
    ((x.1 : Int) :: y.1, y.2)
/-- an item -/
def readItem (st : St) : It × St :=
  let x := rn st 4
  let y := readNums 99 x.1 x.2
  let z := rn y.2 1000000
  ((y.1, (z.1 : Int)), z.2)
/-- m items -/
def readItems : Nat → St → List It × St
  | 0, st => ([], st)
  | m + 1, st =>
    let x := readItem st
    let y := readItems m x.2
    (x.1 :: y.1, y.2)
/-- a bag as the program reads it -/
def implRead (s : List UInt8) : List It × Bool :=
  let x := rn (some s) 300
  let y := readItems x.1 x.2
  (y.1, decide (y.2 = some []) && okBag y.1)

theorem readNums_len (most m : Nat) (st : St) : (readNums most m st).1.length = m := by
  induction m generalizing st with
  | zero => rfl
  | succ m ih => simp [readNums, ih]
theorem readItems_len (m : Nat) (st : St) : (readItems m st).1.length = m := by
  induction m generalizing st with
  | zero => rfl
  | succ m ih => simp [readItems, ih]
theorem rn_fail {most : Nat} {st : St} (h : st = none) : (rn st most).2 = none := by subst h; rfl
theorem readNums_fail (most m : Nat) : (readNums most m none).2 = none := by
  induction m with
  | zero => rfl
  | succ m ih => simp only [readNums, rn_none]; exact ih
theorem readItem_fail : (readItem none).2 = none := by
  simp only [readItem, rn_none, readNums]
theorem readItems_fail (m : Nat) : (readItems m none).2 = none := by
  induction m with
  | zero => rfl
  | succ m ih => simp only [readItems, readItem_fail]; exact ih
theorem some_of_ne {st : St} (h : st ≠ none) : ∃ r, st = some r := by cases st with
  | none => exact absurd rfl h
  | some r => exact ⟨r, rfl⟩
theorem vb_nat (n : Nat) : vb (n : Int) = varB 9 n := by simp [vb]

theorem readNums_is {most m : Nat} (hm : most ≤ 1000000000) {r r' : List UInt8} {l : List Int} (h : readNums most m (some r) = (l, some r')) : r = vt l ++ r' := by
  induction m generalizing r l with
  | zero => simp [readNums] at h; obtain ⟨rfl, rfl⟩ := h; simp [vt]
  | succ m ih =>
    simp only [readNums, Prod.mk.injEq] at h
    obtain ⟨rfl, h2⟩ := h
    have hne : (rn (some r) most).2 ≠ none := by intro e; rw [e, readNums_fail] at h2; cases h2
    obtain ⟨r1, hr1⟩ := some_of_ne hne
    have e1 : rn (some r) most = ((rn (some r) most).1, some r1) := by rw [← hr1]
    have h3 := (rn_iff hm).1 e1
    rw [hr1] at h2 ⊢
    have h4 := ih (l := (readNums most m (some r1)).1) (r := r1) (by rw [← h2])
    have e2 : vt (((rn (some r) most).1 : Int) :: (readNums most m (some r1)).1) = vb ((rn (some r) most).1 : Int) ++ vt (readNums most m (some r1)).1 := by simp [vt]
    rw [e2, vb_nat, List.append_assoc, ← h4]
    exact h3.2
theorem readNums_back {most : Nat} (hm : most ≤ 1000000000) (l : List Int) (hl : ∀ x ∈ l, 0 ≤ x ∧ x ≤ most) (r' : List UInt8) : readNums most l.length (some (vt l ++ r')) = (l, some r') := by
  induction l with
  | nil => simp [readNums, vt]
  | cons x xs ih =>
    obtain ⟨n, rfl⟩ := Int.eq_ofNat_of_zero_le (hl x (by simp)).1
    have hn := (hl _ (List.mem_cons_self ..)).2
    have e2 : vt ((n : Int) :: xs) ++ r' = varB 9 n ++ (vt xs ++ r') := by simp [vt, vb]
    have e3 : rn (some (varB 9 n ++ (vt xs ++ r'))) most = (n, some (vt xs ++ r')) := (rn_iff hm).2 ⟨by omega, rfl⟩
    rw [e2]
    simp only [List.length_cons, readNums, e3]
    rw [ih (fun y hy => hl y (List.mem_cons_of_mem _ hy))]
theorem readItem_is {r r' : List UInt8} {x : It} (h : readItem (some r) = (x, some r')) : r = itemTxt x ++ r' := by
  simp only [readItem, Prod.mk.injEq] at h
  obtain ⟨rfl, h2⟩ := h
  have hne2 : (readNums 99 (rn (some r) 4).1 (rn (some r) 4).2).2 ≠ none := by intro e; rw [e] at h2; cases h2
  have hne1 : (rn (some r) 4).2 ≠ none := by intro e; rw [e, readNums_fail] at hne2; exact hne2 rfl
  obtain ⟨r1, hr1⟩ := some_of_ne hne1
  rw [hr1] at h2 hne2 ⊢
  obtain ⟨r2, hr2⟩ := some_of_ne hne2
  rw [hr2] at h2 ⊢
  have a1 := ((rn_iff (most := 4) (by omega)).1 (show rn (some r) 4 = ((rn (some r) 4).1, some r1) by rw [← hr1])).2
  have a2 := readNums_is (most := 99) (by omega) (show readNums 99 (rn (some r) 4).1 (some r1) = ((readNums 99 (rn (some r) 4).1 (some r1)).1, some r2) by rw [← hr2])
  have a3 := ((rn_iff (most := 1000000) (by omega)).1 (show rn (some r2) 1000000 = ((rn (some r2) 1000000).1, some r') by rw [← h2])).2
  unfold itemTxt
  rw [readNums_len, vb_nat, vb_nat, List.append_assoc, List.append_assoc, ← a3, ← a2]
  exact a1
theorem readItem_back {x : It} (hx : okItem x.1 x.2 = true) (r' : List UInt8) : readItem (some (itemTxt x ++ r')) = (x, some r') := by
  have h1 := okItem_row hx
  have h2 := okItem_times hx
  obtain ⟨t, ht⟩ := Int.eq_ofNat_of_zero_le (show 0 ≤ x.2 by omega)
  have e0 : itemTxt x ++ r' = varB 9 x.1.length ++ (vt x.1 ++ (varB 9 t ++ r')) := by unfold itemTxt; rw [vb_nat, ht, vb_nat]; simp
  have a1 : rn (some (itemTxt x ++ r')) 4 = (x.1.length, some (vt x.1 ++ (varB 9 t ++ r'))) := by rw [e0]; exact (rn_iff (by omega)).2 ⟨h1.1, rfl⟩
  have a2 : readNums 99 x.1.length (some (vt x.1 ++ (varB 9 t ++ r'))) = (x.1, some (varB 9 t ++ r')) := readNums_back (by omega) x.1 (fun y hy => by
    obtain ⟨i, hi, rfl⟩ := List.getElem_of_mem hy
    have := h1.2 i hi
    simpa [List.getD, hi] using this) _
  have a3 : rn (some (varB 9 t ++ r')) 1000000 = (t, some r') := (rn_iff (by omega)).2 ⟨by omega, rfl⟩
  simp only [readItem, a1, a2, a3]
  rw [← ht]
theorem readItems_is {m : Nat} {r r' : List UInt8} {l : List It} (h : readItems m (some r) = (l, some r')) : r = l.flatMap itemTxt ++ r' := by
  induction m generalizing r l with
  | zero => simp [readItems] at h; obtain ⟨rfl, rfl⟩ := h; simp
  | succ m ih =>
    simp only [readItems, Prod.mk.injEq] at h
    obtain ⟨rfl, h2⟩ := h
    have hne : (readItem (some r)).2 ≠ none := by intro e; rw [e, readItems_fail] at h2; cases h2
    obtain ⟨r1, hr1⟩ := some_of_ne hne
    have a1 := readItem_is (show readItem (some r) = ((readItem (some r)).1, some r1) by rw [← hr1])
    rw [hr1] at h2 ⊢
    have h4 := ih (l := (readItems m (some r1)).1) (r := r1) (by rw [← h2])
    rw [List.flatMap_cons, List.append_assoc, ← h4]
    exact a1
theorem readItems_back (l : List It) (hl : ∀ x ∈ l, okItem x.1 x.2 = true) (r' : List UInt8) : readItems l.length (some (l.flatMap itemTxt ++ r')) = (l, some r') := by
  induction l with
  | nil => simp [readItems]
  | cons x xs ih =>
    rw [List.flatMap_cons, List.append_assoc]
    simp only [List.length_cons, readItems, readItem_back (hl x (List.mem_cons_self ..))]
    rw [ih (fun y hy => hl y (List.mem_cons_of_mem _ hy))]
theorem txt_all (l : List It) : txtTo l l.length = varB 9 l.length ++ l.flatMap itemTxt := by unfold txtTo; rw [vb_nat, List.take_length]
theorem ok_items {l : List It} (h : okBag l = true) : ∀ x ∈ l, okItem x.1 x.2 = true := by
  intro x hx
  obtain ⟨i, hi, rfl⟩ := List.getElem_of_mem hx
  have := ok_item h hi
  simpa [at', List.getD, hi] using this
/-- the program reads just the texts of right bags -/
theorem implRead_yes {s : List UInt8} (h : (implRead s).2 = true) : okBag (implRead s).1 = true ∧ s = txtTo (implRead s).1 (implRead s).1.length := by
  simp only [implRead, Bool.and_eq_true, decide_eq_true_eq] at h ⊢
  obtain ⟨h1, h2⟩ := h
  have hne : (rn (some s) 300).2 ≠ none := by intro e; rw [e, readItems_fail] at h1; cases h1
  obtain ⟨r1, hr1⟩ := some_of_ne hne
  have a1 := ((rn_iff (most := 300) (by omega)).1 (show rn (some s) 300 = ((rn (some s) 300).1, some r1) by rw [← hr1])).2
  rw [hr1] at h1 h2 ⊢
  have a2 := readItems_is (show readItems (rn (some s) 300).1 (some r1) = ((readItems (rn (some s) 300).1 (some r1)).1, some []) by rw [← h1])
  refine ⟨h2, ?_⟩
  rw [txt_all, readItems_len]
  rw [List.append_nil] at a2
  rw [← a2]
  exact a1
theorem implRead_back {l : List It} (h : okBag l = true) : implRead (txtTo l l.length) = (l, true) := by
  have h3 := okBag_len h
  have a1 : rn (some (txtTo l l.length)) 300 = (l.length, some (l.flatMap itemTxt)) := by rw [txt_all]; exact (rn_iff (by omega)).2 ⟨h3, rfl⟩
  have a2 : readItems l.length (some (l.flatMap itemTxt)) = (l, some []) := by have := readItems_back l (ok_items h) []; rwa [List.append_nil] at this
  simp only [implRead, a1, a2, h]
  simp
end Go.Proofs.Ytelikebpddhncaa
