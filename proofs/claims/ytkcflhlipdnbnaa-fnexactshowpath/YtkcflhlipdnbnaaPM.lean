/-
  Relations of vertices, in plain mathematics: one behind the other, any of two, again and again; bits that tell one.
-/
import Derived.WalkKit
namespace Go.Proofs.Ytkcflhlipdnbnaa
open Go.RowKit

/-- which vertex leads to which -/
abbrev Rl := Nat → Nat → Bool
def noR : Rl := fun _ _ => false
def idR : Rl := fun i j => decide (i = j)
def orR (A B : Rl) : Rl := fun i j => A i j || B i j
def behR (n : Nat) (A B : Rl) : Rl := fun i j => (List.range n).any fun k => A i k && B k j
def itR (n : Nat) (K : Rl) : Nat → Rl
  | 0 => K
  | r + 1 => orR (itR n K r) (behR n (itR n K r) K)
def plusR (n : Nat) (K : Rl) : Rl := itR n K n
def starR (n : Nat) (K : Rl) : Rl := orR (plusR n K) idR

theorem orR_iff {A B : Rl} {i j : Nat} : orR A B i j = true ↔ A i j = true ∨ B i j = true := by simp [orR]
theorem idR_iff {i j : Nat} : idR i j = true ↔ i = j := by simp [idR]
theorem behR_iff {n : Nat} {A B : Rl} {i j : Nat} : behR n A B i j = true ↔ ∃ k, k < n ∧ A i k = true ∧ B k j = true := by simp [behR]

/-- once, or more often -/
inductive TC (n : Nat) (K : Rl) : Nat → Nat → Prop
  | one {i j : Nat} : K i j = true → TC n K i j
  | more {i k j : Nat} : TC n K i k → k < n → K k j = true → TC n K i j

theorem itR_tc {n : Nat} {K : Rl} : ∀ (r : Nat) {i j : Nat}, itR n K r i j = true → TC n K i j
  | 0, _, _, h => .one h
  | r + 1, i, j, h => by
    rcases orR_iff.1 h with h | h
    · exact itR_tc r h
    · obtain ⟨k, hk, h1, h2⟩ := behR_iff.1 h
      exact .more (itR_tc r h1) hk h2
theorem itR_mono {n : Nat} {K : Rl} {r : Nat} {i j : Nat} (h : itR n K r i j = true) : itR n K (r + 1) i j = true := orR_iff.2 (.inl h)
theorem countP_lt {p q : Nat → Bool} : ∀ (l : List Nat), (∀ x ∈ l, p x = true → q x = true) → (∃ x ∈ l, q x = true ∧ p x = false) → l.countP p < l.countP q
  | [], _, h => by obtain ⟨x, hx, _⟩ := h; simp at hx
  | y :: l, hpq, h => by
    have hle : l.countP p ≤ l.countP q := List.countP_mono_left (fun x hx => hpq x (List.mem_cons_of_mem _ hx))
    rw [List.countP_cons, List.countP_cons]
    obtain ⟨x, hx, h1, h2⟩ := h
    rcases List.mem_cons.1 hx with rfl | hx
    · rw [h1, h2]; simp; omega
    · have := countP_lt l (fun x hx => hpq x (List.mem_cons_of_mem _ hx)) ⟨x, hx, h1, h2⟩
      have hy := hpq y (List.mem_cons_self ..)
      rcases hp : p y with _ | _
      · simp; omega
      · rw [hy hp]; simp; omega
/-- behind so many rounds nothing more comes, or so many are there -/
theorem itR_grows (n : Nat) (K : Rl) (i : Nat) : ∀ r, (∀ k, k < n → itR n K (r + 1) i k = itR n K r i k) ∨ r ≤ (List.range n).countP (itR n K r i)
  | 0 => .inr (Nat.zero_le _)
  | r + 1 => by
    have next : (∀ k, k < n → itR n K (r + 1) i k = itR n K r i k) → ∀ k, k < n → itR n K (r + 2) i k = itR n K (r + 1) i k := by
      intro h k hk
      have hb : behR n (itR n K (r + 1)) K i k = behR n (itR n K r) K i k := by
        rw [Bool.eq_iff_iff, behR_iff, behR_iff]
        constructor
        · rintro ⟨m, hm, h1, h2⟩; exact ⟨m, hm, by rw [← h m hm]; exact h1, h2⟩
        · rintro ⟨m, hm, h1, h2⟩; exact ⟨m, hm, by rw [h m hm]; exact h1, h2⟩
      show (itR n K (r + 1) i k || behR n (itR n K (r + 1)) K i k) = (itR n K r i k || behR n (itR n K r) K i k)
      rw [h k hk, hb]
    rcases itR_grows n K i r with h | h
    · exact .inl (next h)
    · by_cases hs : ∀ k, k < n → itR n K (r + 1) i k = itR n K r i k
      · exact .inl (next hs)
      · right
        obtain ⟨k, hk⟩ := Classical.not_forall.1 hs
        obtain ⟨hkn, hne⟩ := Classical.not_imp.1 hk
        have : (List.range n).countP (itR n K r i) < (List.range n).countP (itR n K (r + 1) i) := by
          refine countP_lt _ (fun x _ h => itR_mono h) ⟨k, List.mem_range.2 hkn, ?_⟩
          rcases h0 : itR n K r i k with _ | _
          · rcases h1 : itR n K (r + 1) i k with _ | _
            · rw [h0, h1] at hne; exact absurd rfl hne
            · exact ⟨rfl, rfl⟩
          · rw [h0, itR_mono h0] at hne; exact absurd rfl hne
        omega
theorem countP_full {p : Nat → Bool} : ∀ (l : List Nat), l.length ≤ l.countP p → ∀ x ∈ l, p x = true
  | [], _, x, hx => by simp at hx
  | y :: l, h, x, hx => by
    rw [List.countP_cons, List.length_cons] at h
    have hle := List.countP_le_length (p := p) (l := l)
    have hy : p y = true := by
      rcases hp : p y with _ | _
      · rw [hp] at h; simp at h; omega
      · rfl
    rcases List.mem_cons.1 hx with rfl | hx
    · exact hy
    · rw [hy] at h; simp at h; exact countP_full l (by omega) x hx
theorem itR_stable (n : Nat) (K : Rl) (i : Nat) : ∀ k, k < n → itR n K (n + 1) i k = itR n K n i k := by
  rcases itR_grows n K i n with h | h
  · exact h
  · intro k hk
    have := countP_full (List.range n) (by simpa using h) k (List.mem_range.2 hk)
    rw [this, itR_mono this]
theorem plusR_iff {n : Nat} {K : Rl} {i j : Nat} (hj : j < n) : plusR n K i j = true ↔ TC n K i j := by
  constructor
  · exact itR_tc n
  · intro h
    induction h with
    | one h =>
      have : ∀ r, itR n K r i _ = true := fun r => by
        induction r with
        | zero => exact h
        | succ r ih => exact itR_mono ih
      exact this n
    | more h1 hk h2 ih =>
      have := ih hk
      show itR n K n _ _ = true
      rw [← itR_stable n K _ _ hj]
      exact orR_iff.2 (.inr (behR_iff.2 ⟨_, hk, this, h2⟩))
theorem TC.cons {n : Nat} {K : Rl} {i k j : Nat} (h1 : K i k = true) (hk : k < n) (h2 : TC n K k j) : TC n K i j := by
  induction h2 with
  | one h => exact .more (.one h1) hk h
  | more _ hm h ih => exact .more ih hm h
theorem TC.first {n : Nat} {K : Rl} {i j : Nat} (h : TC n K i j) : K i j = true ∨ ∃ k, k < n ∧ K i k = true ∧ TC n K k j := by
  induction h with
  | one h => exact .inl h
  | more h1 hk h ih =>
    right
    rcases ih with h3 | ⟨m, hm, h3, h4⟩
    · exact ⟨_, hk, h3, .one h⟩
    · exact ⟨m, hm, h3, .more h4 hk h⟩
theorem TC.flip {n : Nat} {K : Rl} {i j : Nat} (h : TC n K i j) : ∀ {L : Rl}, (∀ a b, K a b = L b a) → TC n L j i := by
  intro L hL
  induction h with
  | one h => exact .one (by rw [← hL]; exact h)
  | more _ hk h ih => exact TC.cons (by rw [← hL]; exact h) hk ih
theorem TC.flipIn {n : Nat} {K L : Rl} {i j : Nat} (h : TC n K i j) (hi : i < n) (hj : j < n) (hL : ∀ a b, a < n → b < n → K a b = L b a) : TC n L j i := by
  induction h with
  | one h => exact .one (by rw [← hL _ _ hi hj]; exact h)
  | more _ hk h ih => exact TC.cons (by rw [← hL _ _ hk hj]; exact h) hk (ih hk)
theorem TC.congr {n : Nat} {K L : Rl} {i j : Nat} (h : TC n K i j) (hi : i < n) (hj : j < n) (hL : ∀ a b, a < n → b < n → K a b = L a b) : TC n L i j := by
  induction h with
  | one h => exact .one (by rw [← hL _ _ hi hj]; exact h)
  | more _ hk h ih => exact .more (ih hk) hk (by rw [← hL _ _ hk hj]; exact h)

/-- bits that tell a relation -/
def Rep (n : Nat) (f : Nat → Nat) (R : Rl) : Prop := ∀ i, i < n → ∀ j, (f i).testBit j = (decide (j < n) && R i j)
def orF (f g : Nat → Nat) : Nat → Nat := fun v => f v ||| g v
def idF : Nat → Nat := fun v => 2 ^ v
def thenTo (f g : Nat → Nat) (v : Nat) : Nat → Nat
  | 0 => 0
  | m + 1 => if (f v).testBit m = true then thenTo f g v m ||| g m else thenTo f g v m
def thenF (f g : Nat → Nat) : Nat → Nat := fun v => thenTo f g v 13
theorem thenTo_bit (f g : Nat → Nat) (v j : Nat) : ∀ m, (thenTo f g v m).testBit j = true ↔ ∃ k, k < m ∧ (f v).testBit k = true ∧ (g k).testBit j = true
  | 0 => by simp [thenTo]
  | m + 1 => by
    have ih := thenTo_bit f g v j m
    unfold thenTo
    constructor
    · intro h
      split at h
      · rename_i hm
        rw [Nat.testBit_or, Bool.or_eq_true] at h
        rcases h with h | h
        · obtain ⟨k, hk, h1⟩ := ih.1 h; exact ⟨k, by omega, h1⟩
        · exact ⟨m, by omega, hm, h⟩
      · obtain ⟨k, hk, h1⟩ := ih.1 h; exact ⟨k, by omega, h1⟩
    · rintro ⟨k, hk, h1, h2⟩
      by_cases e : k = m
      · subst e; rw [if_pos h1, Nat.testBit_or, h2, Bool.or_true]
      · have := ih.2 ⟨k, by omega, h1, h2⟩
        split
        · rw [Nat.testBit_or, this, Bool.true_or]
        · exact this
theorem Rep.or {n : Nat} {f g : Nat → Nat} {A B : Rl} (h : Rep n f A) (h' : Rep n g B) : Rep n (orF f g) (orR A B) := by
  intro i hi j
  show (f i ||| g i).testBit j = _
  rw [Nat.testBit_or, h i hi, h' i hi, orR]
  cases decide (j < n) <;> simp
theorem Rep.id (n : Nat) : Rep n idF idR := by
  intro i hi j
  show (2 ^ i).testBit j = _
  rw [Nat.testBit_two_pow, idR]
  by_cases e : i = j
  · subst e; simp [hi]
  · simp [e]
theorem Rep.none (n : Nat) : Rep n (fun _ => 0) noR := by
  intro i hi j; simp [noR]
theorem Rep.beh {n : Nat} {f g : Nat → Nat} {A B : Rl} (hn : n ≤ 13) (h : Rep n f A) (h' : Rep n g B) : Rep n (thenF f g) (behR n A B) := by
  intro i hi j
  rw [Bool.eq_iff_iff, thenF, thenTo_bit, Bool.and_eq_true, decide_eq_true_eq, behR_iff]
  constructor
  · rintro ⟨k, hk, h1, h2⟩
    rw [h i hi, Bool.and_eq_true, decide_eq_true_eq] at h1
    rw [h' k h1.1, Bool.and_eq_true, decide_eq_true_eq] at h2
    exact ⟨h2.1, k, h1.1, h1.2, h2.2⟩
  · rintro ⟨hj, k, hk, h1, h2⟩
    exact ⟨k, by omega, by rw [h i hi]; simp [hk, h1], by rw [h' k hk]; simp [hj, h2]⟩
theorem Rep.congr {n : Nat} {f : Nat → Nat} {A B : Rl} (h : Rep n f A) (e : ∀ i j, i < n → j < n → A i j = B i j) : Rep n f B := by
  intro i hi j
  rw [h i hi]
  by_cases hj : j < n
  · rw [e i j hi hj]
  · simp [hj]
/-- what again and again holds while it goes on -/
structure Again (n : Nat) (K : Rl) (f : Nat → Nat) : Prop where
  low : ∀ i, i < n → (f i).testBit i = true
  up : ∀ i, i < n → ∀ j, (f i).testBit j = true → j < n ∧ starR n K i j = true
theorem Again.start (n : Nat) (K : Rl) : Again n K idF := by
  refine ⟨fun i _ => by simp [idF], fun i hi j h => ?_⟩
  simp [idF, Nat.testBit_two_pow] at h
  subst h
  exact ⟨hi, orR_iff.2 (.inr (idR_iff.2 rfl))⟩
theorem Again.step {n : Nat} {K : Rl} {f g : Nat → Nat} (h : Again n K f) (hg : Rep n g K) : Again n K (orF f (thenF f g)) := by
  refine ⟨fun i hi => by show (f i ||| _).testBit i = true; rw [Nat.testBit_or, h.low i hi, Bool.true_or], fun i hi j hj => ?_⟩
  have hj2 : (f i ||| thenF f g i).testBit j = true := hj
  rw [Nat.testBit_or, Bool.or_eq_true] at hj2
  rcases hj2 with h1 | h1
  · exact h.up i hi j h1
  · rw [thenF, thenTo_bit] at h1
    obtain ⟨k, _, h2, h3⟩ := h1
    obtain ⟨hk, h4⟩ := h.up i hi k h2
    rw [hg k hk, Bool.and_eq_true, decide_eq_true_eq] at h3
    refine ⟨h3.1, orR_iff.2 (.inl ((plusR_iff h3.1).2 ?_))⟩
    rcases orR_iff.1 h4 with h5 | h5
    · exact .more ((plusR_iff hk).1 h5) hk h3.2
    · obtain rfl := idR_iff.1 h5; exact .one h3.2
theorem Again.done {n : Nat} {K : Rl} {f g : Nat → Nat} (hn : n ≤ 13) (h : Again n K f) (hg : Rep n g K) (he : ∀ i, i < 13 → orF f (thenF f g) i = f i) : Rep n f (starR n K) := by
  intro i hi j
  rw [Bool.eq_iff_iff, Bool.and_eq_true, decide_eq_true_eq]
  have closed : ∀ k m, (f i).testBit k = true → k < n → m < n → K k m = true → (f i).testBit m = true := by
    intro k m h1 hk hm h2
    rw [← he i (by omega)]
    show (f i ||| thenF f g i).testBit m = true
    rw [Nat.testBit_or, Bool.or_eq_true, thenF, thenTo_bit]
    exact .inr ⟨k, by omega, h1, by rw [hg k hk]; simp [hm, h2]⟩
  constructor
  · intro h1; exact h.up i hi j h1
  · rintro ⟨hj, h1⟩
    rcases orR_iff.1 h1 with h2 | h2
    · have ht := (plusR_iff hj).1 h2
      clear h1 h2
      induction ht with
      | one h3 => exact closed i _ (h.low i hi) hi hj h3
      | more _ hk h3 ih => exact closed _ _ (ih hk) hk hj h3
    · obtain rfl := idR_iff.1 h2; exact h.low i hi
theorem plus_beh {n : Nat} {K : Rl} {i j : Nat} (hj : j < n) : behR n K (starR n K) i j = plusR n K i j := by
  rw [Bool.eq_iff_iff, behR_iff, plusR_iff hj]
  constructor
  · rintro ⟨k, hk, h1, h2⟩
    rcases orR_iff.1 h2 with h3 | h3
    · exact TC.cons h1 hk ((plusR_iff hj).1 h3)
    · obtain rfl := idR_iff.1 h3; exact .one h1
  · intro h
    rcases h.first with h1 | ⟨k, hk, h1, h2⟩
    · exact ⟨j, hj, h1, orR_iff.2 (.inr (idR_iff.2 rfl))⟩
    · exact ⟨k, hk, h1, orR_iff.2 (.inl ((plusR_iff hj).2 h2))⟩
theorem or_ge (a b : Nat) : a ≤ a ||| b := Nat.left_le_or
/-- all bits as one number: grows as long as something comes -/
def sumF (f : Nat → Nat) : Nat := ((List.range 13).map f).sum
theorem sumF_le {f : Nat → Nat} (h : ∀ v, f v < 65536) : sumF f ≤ 851968 := by
  have : ∀ (l : List Nat), (l.map f).sum ≤ l.length * 65536 := by
    intro l
    induction l with
    | nil => simp
    | cons x l ih => simp only [List.map_cons, List.sum_cons, List.length_cons]; have := h x; omega
  exact this (List.range 13)
theorem sumF_lt {f g : Nat → Nat} (h : ∀ v, f v ≤ g v) (hne : ∃ v, v < 13 ∧ g v ≠ f v) : sumF f < sumF g := by
  have le : ∀ (l : List Nat), (l.map f).sum ≤ (l.map g).sum := by
    intro l
    induction l with
    | nil => simp
    | cons x l ih => simp only [List.map_cons, List.sum_cons]; have := h x; omega
  have : ∀ (l : List Nat), (∃ v ∈ l, g v ≠ f v) → (l.map f).sum < (l.map g).sum := by
    intro l
    induction l with
    | nil => rintro ⟨v, hv, _⟩; simp at hv
    | cons x l ih =>
      rintro ⟨v, hv, hd⟩
      simp only [List.map_cons, List.sum_cons]
      have h1 := h x
      rcases List.mem_cons.1 hv with rfl | hv
      · have := le l; omega
      · have := ih ⟨v, hv, hd⟩; omega
  obtain ⟨v, hv, hd⟩ := hne
  exact this _ ⟨v, List.mem_range.2 hv, hd⟩
end Go.Proofs.Ytkcflhlipdnbnaa
