/-
  Relations of vertices, in plain mathematics: one behind the other, any of two, again and again; bits that tell one.
-/
import Derived.WalkKit
import Derived.Test.YtkcflhlipdnbnaaJn02
import Derived.Test.YtkcflhlipdnbnaaJn04
import Derived.Deep.DeepCutAuto
import Derived.Deep.CutBlock
import Derived.Test.YtkcflhlipdnbnaaJn03
namespace Go.Proofs.Ytkcflhlipdnbnaa
open Go.RowKit

/-- which vertex leads to which -/
abbrev Rl := Nat → Nat → Bool
def noR : Rl := fun _ _ => false
def idR : Rl := fun i j => decide (i = j)
def orR (A B : Rl) : Rl := fun i j => A i j || B i j
def behR (n : Nat) (A B : Rl) : Rl := fun i j => (List.range n).any fun k => A i k && B k j
def itR (n : Nat) (K : Rl) : Nat → Rl
  | 0 => K
  | r + 1 => orR (itR n K r) (behR n (itR n K r) K)
def plusR (n : Nat) (K : Rl) : Rl := itR n K n
def starR (n : Nat) (K : Rl) : Rl := orR (plusR n K) idR

theorem orR_iff {A B : Rl} {i j : Nat} : orR A B i j = true ↔ A i j = true ∨ B i j = true := by simp [orR]
theorem idR_iff {i j : Nat} : idR i j = true ↔ i = j := by simp [idR]
theorem behR_iff {n : Nat} {A B : Rl} {i j : Nat} : behR n A B i j = true ↔ ∃ k, k < n ∧ A i k = true ∧ B k j = true := by simp [behR]

/-- once, or more often -/
inductive TC (n : Nat) (K : Rl) : Nat → Nat → Prop
  | one {i j : Nat} : K i j = true → TC n K i j
  | more {i k j : Nat} : TC n K i k → k < n → K k j = true → TC n K i j

theorem itR_tc {n : Nat} {K : Rl} : ∀ (r : Nat) {i j : Nat}, itR n K r i j = true → TC n K i j
  | 0, _, _, h => .one h
  | r + 1, i, j, h => by
    rcases orR_iff.1 h with h | h
    · exact itR_tc r h
    · obtain ⟨k, hk, h1, h2⟩ := behR_iff.1 h
      exact .more (itR_tc r h1) hk h2
theorem itR_mono {n : Nat} {K : Rl} {r : Nat} {i j : Nat} (h : itR n K r i j = true) : itR n K (r + 1) i j = true := orR_iff.2 (.inl h)
theorem countP_lt {p q : Nat → Bool} : ∀ (l : List Nat), (∀ x ∈ l, p x = true → q x = true) → (∃ x ∈ l, q x = true ∧ p x = false) → l.countP p < l.countP q
  | [], _, h => by obtain ⟨x, hx, _⟩ := h; simp at hx
  | y :: l, hpq, h => by
    have hle : l.countP p ≤ l.countP q := List.countP_mono_left (fun x hx => hpq x (List.mem_cons_of_mem _ hx))
    rw [List.countP_cons, List.countP_cons]
    obtain ⟨x, hx, h1, h2⟩ := h
    rcases List.mem_cons.1 hx with rfl | hx
    · rw [h1, h2]; simp; omega
    · have := countP_lt l (fun x hx => hpq x (List.mem_cons_of_mem _ hx)) ⟨x, hx, h1, h2⟩
      have hy := hpq y (List.mem_cons_self ..)
      rcases hp : p y with _ | _
      · simp; omega
      · rw [hy hp]; simp; omega
/-- behind so many rounds nothing more comes, or so many are there -/
theorem itR_grows (n : Nat) (K : Rl) (i : Nat) : ∀ r, (∀ k, k < n → itR n K (r + 1) i k = itR n K r i k) ∨ r ≤ (List.range n).countP (itR n K r i)
  | 0 => .inr (Nat.zero_le _)
  | r + 1 => by
    have next : (∀ k, k < n → itR n K (r + 1) i k = itR n K r i k) → ∀ k, k < n → itR n K (r + 2) i k = itR n K (r + 1) i k := by
      intro h k hk
      have hb : behR n (itR n K (r + 1)) K i k = behR n (itR n K r) K i k := by
        rw [Bool.eq_iff_iff, behR_iff, behR_iff]
        constructor
        · rintro ⟨m, hm, h1, h2⟩; exact ⟨m, hm, by rw [← h m hm]; exact h1, h2⟩
        · rintro ⟨m, hm, h1, h2⟩; exact ⟨m, hm, by rw [h m hm]; exact h1, h2⟩
      show (itR n K (r + 1) i k || behR n (itR n K (r + 1)) K i k) = (itR n K r i k || behR n (itR n K r) K i k)
      rw [h k hk, hb]
    rcases itR_grows n K i r with h | h
    · exact .inl (next h)
    · by_cases hs : ∀ k, k < n → itR n K (r + 1) i k = itR n K r i k
      · exact .inl (next hs)
      · right
        obtain ⟨k, hk⟩ := Classical.not_forall.1 hs
        obtain ⟨hkn, hne⟩ := Classical.not_imp.1 hk
        have : (List.range n).countP (itR n K r i) < (List.range n).countP (itR n K (r + 1) i) := by
          refine countP_lt _ (fun x _ h => itR_mono h) ⟨k, List.mem_range.2 hkn, ?_⟩
          rcases h0 : itR n K r i k with _ | _
          · rcases h1 : itR n K (r + 1) i k with _ | _
            · rw [h0, h1] at hne; exact absurd rfl hne
            · exact ⟨rfl, rfl⟩
          · rw [h0, itR_mono h0] at hne; exact absurd rfl hne
        omega
theorem countP_full {p : Nat → Bool} : ∀ (l : List Nat), l.length ≤ l.countP p → ∀ x ∈ l, p x = true
  | [], _, x, hx => by simp at hx
  | y :: l, h, x, hx => by
    rw [List.countP_cons, List.length_cons] at h
    have hle := List.countP_le_length (p := p) (l := l)
    have hy : p y = true := by
      rcases hp : p y with _ | _
      · rw [hp] at h; simp at h; omega
      · rfl
    rcases List.mem_cons.1 hx with rfl | hx
    · exact hy
    · rw [hy] at h; simp at h; exact countP_full l (by omega) x hx
theorem itR_stable (n : Nat) (K : Rl) (i : Nat) : ∀ k, k < n → itR n K (n + 1) i k = itR n K n i k := by
  rcases itR_grows n K i n with h | h
  · exact h
  · intro k hk
    have := countP_full (List.range n) (by simpa using h) k (List.mem_range.2 hk)
    rw [this, itR_mono this]
theorem plusR_iff {n : Nat} {K : Rl} {i j : Nat} (hj : j < n) : plusR n K i j = true ↔ TC n K i j := by
  constructor
  · exact itR_tc n
  · intro h
    induction h with
    | one h =>
      have : ∀ r, itR n K r i _ = true := fun r => by
        induction r with
        | zero => exact h
        | succ r ih => exact itR_mono ih
      exact this n
    | more h1 hk h2 ih =>
      have := ih hk
      show itR n K n _ _ = true
      rw [← itR_stable n K _ _ hj]
      exact orR_iff.2 (.inr (behR_iff.2 ⟨_, hk, this, h2⟩))
theorem TC.cons {n : Nat} {K : Rl} {i k j : Nat} (h1 : K i k = true) (hk : k < n) (h2 : TC n K k j) : TC n K i j := by
  induction h2 with
  | one h => exact .more (.one h1) hk h
  | more _ hm h ih => exact .more ih hm h
theorem TC.first {n : Nat} {K : Rl} {i j : Nat} (h : TC n K i j) : K i j = true ∨ ∃ k, k < n ∧ K i k = true ∧ TC n K k j := by
  induction h with
  | one h => exact .inl h
  | more h1 hk h ih =>
    right
    rcases ih with h3 | ⟨m, hm, h3, h4⟩
    · exact ⟨_, hk, h3, .one h⟩
    · exact ⟨m, hm, h3, .more h4 hk h⟩
theorem TC.flip {n : Nat} {K : Rl} {i j : Nat} (h : TC n K i j) : ∀ {L : Rl}, (∀ a b, K a b = L b a) → TC n L j i := by
  intro L hL
  induction h with
  | one h => exact .one (by rw [← hL]; exact h)
  | more _ hk h ih => exact TC.cons (by rw [← hL]; exact h) hk ih
theorem TC.flipIn {n : Nat} {K L : Rl} {i j : Nat} (h : TC n K i j) (hi : i < n) (hj : j < n) (hL : ∀ a b, a < n → b < n → K a b = L b a) : TC n L j i := by
  induction h with
  | one h => exact .one (by rw [← hL _ _ hi hj]; exact h)
  | more _ hk h ih => exact TC.cons (by rw [← hL _ _ hk hj]; exact h) hk (ih hk)
theorem TC.congr {n : Nat} {K L : Rl} {i j : Nat} (h : TC n K i j) (hi : i < n) (hj : j < n) (hL : ∀ a b, a < n → b < n → K a b = L a b) : TC n L i j := by
  induction h with
  | one h => exact .one (by rw [← hL _ _ hi hj]; exact h)
  | more _ hk h ih => exact .more (ih hk) hk (by rw [← hL _ _ hk hj]; exact h)

/-- bits that tell a relation -/
def Rep (n : Nat) (f : Nat → Nat) (R : Rl) : Prop := ∀ i, i < n → ∀ j, (f i).testBit j = (decide (j < n) && R i j)
def orF (f g : Nat → Nat) : Nat → Nat := fun v => f v ||| g v
def idF : Nat → Nat := fun v => 2 ^ v
def thenTo (f g : Nat → Nat) (v : Nat) : Nat → Nat
  | 0 => 0
  | m + 1 => if (f v).testBit m = true then thenTo f g v m ||| g m else thenTo f g v m
def thenF (f g : Nat → Nat) : Nat → Nat := fun v => thenTo f g v 13
theorem thenTo_bit (f g : Nat → Nat) (v j : Nat) : ∀ m, (thenTo f g v m).testBit j = true ↔ ∃ k, k < m ∧ (f v).testBit k = true ∧ (g k).testBit j = true
  | 0 => by simp [thenTo]
  | m + 1 => by
    have ih := thenTo_bit f g v j m
    unfold thenTo
    constructor
    · intro h
      split at h
      · rename_i hm
        rw [Nat.testBit_or, Bool.or_eq_true] at h
        rcases h with h | h
        · obtain ⟨k, hk, h1⟩ := ih.1 h; exact ⟨k, by omega, h1⟩
        · exact ⟨m, by omega, hm, h⟩
      · obtain ⟨k, hk, h1⟩ := ih.1 h; exact ⟨k, by omega, h1⟩
    · rintro ⟨k, hk, h1, h2⟩
      by_cases e : k = m
      · subst e; rw [if_pos h1, Nat.testBit_or, h2, Bool.or_true]
      · have := ih.2 ⟨k, by omega, h1, h2⟩
        split
        · rw [Nat.testBit_or, this, Bool.true_or]
        · exact this
theorem Rep.or {n : Nat} {f g : Nat → Nat} {A B : Rl} (h : Rep n f A) (h' : Rep n g B) : Rep n (orF f g) (orR A B) := by
  intro i hi j
  show (f i ||| g i).testBit j = _
  rw [Nat.testBit_or, h i hi, h' i hi, orR]
  cases decide (j < n) <;> simp
theorem Rep.id (n : Nat) : Rep n idF idR := by
  intro i hi j
  show (2 ^ i).testBit j = _
  rw [Nat.testBit_two_pow, idR]
  by_cases e : i = j
  · subst e; simp [hi]
  · simp [e]
theorem Rep.none (n : Nat) : Rep n (fun _ => 0) noR := by
  intro i hi j; simp [noR]
theorem Rep.beh {n : Nat} {f g : Nat → Nat} {A B : Rl} (hn : n ≤ 13) (h : Rep n f A) (h' : Rep n g B) : Rep n (thenF f g) (behR n A B) := by
  intro i hi j
  rw [Bool.eq_iff_iff, thenF, thenTo_bit, Bool.and_eq_true, decide_eq_true_eq, behR_iff]
  constructor
  · rintro ⟨k, hk, h1, h2⟩
    rw [h i hi, Bool.and_eq_true, decide_eq_true_eq] at h1
    rw [h' k h1.1, Bool.and_eq_true, decide_eq_true_eq] at h2
    exact ⟨h2.1, k, h1.1, h1.2, h2.2⟩
  · rintro ⟨hj, k, hk, h1, h2⟩
    exact ⟨k, by omega, by rw [h i hi]; simp [hk, h1], by rw [h' k hk]; simp [hj, h2]⟩
theorem Rep.congr {n : Nat} {f : Nat → Nat} {A B : Rl} (h : Rep n f A) (e : ∀ i j, i < n → j < n → A i j = B i j) : Rep n f B := by
  intro i hi j
  rw [h i hi]
  by_cases hj : j < n
  · rw [e i j hi hj]
  · simp [hj]
/-- what again and again holds while it goes on -/
structure Again (n : Nat) (K : Rl) (f : Nat → Nat) : Prop where
  low : ∀ i, i < n → (f i).testBit i = true
  up : ∀ i, i < n → ∀ j, (f i).testBit j = true → j < n ∧ starR n K i j = true
theorem Again.start (n : Nat) (K : Rl) : Again n K idF := by
  refine ⟨fun i _ => by simp [idF], fun i hi j h => ?_⟩
  simp [idF, Nat.testBit_two_pow] at h
  subst h
  exact ⟨hi, orR_iff.2 (.inr (idR_iff.2 rfl))⟩
theorem Again.step {n : Nat} {K : Rl} {f g : Nat → Nat} (h : Again n K f) (hg : Rep n g K) : Again n K (orF f (thenF f g)) := by
  refine ⟨fun i hi => by show (f i ||| _).testBit i = true; rw [Nat.testBit_or, h.low i hi, Bool.true_or], fun i hi j hj => ?_⟩
  have hj2 : (f i ||| thenF f g i).testBit j = true := hj
  rw [Nat.testBit_or, Bool.or_eq_true] at hj2
  rcases hj2 with h1 | h1
  · exact h.up i hi j h1
  · rw [thenF, thenTo_bit] at h1
    obtain ⟨k, _, h2, h3⟩ := h1
    obtain ⟨hk, h4⟩ := h.up i hi k h2
    rw [hg k hk, Bool.and_eq_true, decide_eq_true_eq] at h3
    refine ⟨h3.1, orR_iff.2 (.inl ((plusR_iff h3.1).2 ?_))⟩
    rcases orR_iff.1 h4 with h5 | h5
    · exact .more ((plusR_iff hk).1 h5) hk h3.2
    · obtain rfl := idR_iff.1 h5; exact .one h3.2
theorem Again.done {n : Nat} {K : Rl} {f g : Nat → Nat} (hn : n ≤ 13) (h : Again n K f) (hg : Rep n g K) (he : ∀ i, i < 13 → orF f (thenF f g) i = f i) : Rep n f (starR n K) := by
  intro i hi j
  rw [Bool.eq_iff_iff, Bool.and_eq_true, decide_eq_true_eq]
  have closed : ∀ k m, (f i).testBit k = true → k < n → m < n → K k m = true → (f i).testBit m = true := by
    intro k m h1 hk hm h2
    rw [← he i (by omega)]
    show (f i ||| thenF f g i).testBit m = true
    rw [Nat.testBit_or, Bool.or_eq_true, thenF, thenTo_bit]
    exact .inr ⟨k, by omega, h1, by rw [hg k hk]; simp [hm, h2]⟩
  constructor
  · intro h1; exact h.up i hi j h1
  · rintro ⟨hj, h1⟩
    rcases orR_iff.1 h1 with h2 | h2
    · have ht := (plusR_iff hj).1 h2
      clear h1 h2
      induction ht with
      | one h3 => exact closed i _ (h.low i hi) hi hj h3
      | more _ hk h3 ih => exact closed _ _ (ih hk) hk hj h3
    · obtain rfl := idR_iff.1 h2; exact h.low i hi
theorem plus_beh {n : Nat} {K : Rl} {i j : Nat} (hj : j < n) : behR n K (starR n K) i j = plusR n K i j := by
  rw [Bool.eq_iff_iff, behR_iff, plusR_iff hj]
  constructor
  · rintro ⟨k, hk, h1, h2⟩
    rcases orR_iff.1 h2 with h3 | h3
    · exact TC.cons h1 hk ((plusR_iff hj).1 h3)
    · obtain rfl := idR_iff.1 h3; exact .one h1
  · intro h
    rcases h.first with h1 | ⟨k, hk, h1, h2⟩
    · exact ⟨j, hj, h1, orR_iff.2 (.inr (idR_iff.2 rfl))⟩
    · exact ⟨k, hk, h1, orR_iff.2 (.inl ((plusR_iff hj).2 h2))⟩
theorem or_ge (a b : Nat) : a ≤ a ||| b := Nat.left_le_or
/-- all bits as one number: grows as long as something comes -/
def sumF (f : Nat → Nat) : Nat := ((List.range 13).map f).sum
theorem sumF_le {f : Nat → Nat} (h : ∀ v, f v < 65536) : sumF f ≤ 851968 := by
  have : ∀ (l : List Nat), (l.map f).sum ≤ l.length * 65536 := by
    intro l
    induction l with
    | nil => simp
    | cons x l ih => simp only [List.map_cons, List.sum_cons, List.length_cons]; have := h x; omega
  exact this (List.range 13)
theorem sumF_lt {f g : Nat → Nat} (h : ∀ v, f v ≤ g v) (hne : ∃ v, v < 13 ∧ g v ≠ f v) : sumF f < sumF g := by
  have le : ∀ (l : List Nat), (l.map f).sum ≤ (l.map g).sum := by
    intro l
    induction l with
    | nil => simp
    | cons x l ih => simp only [List.map_cons, List.sum_cons]; have := h x; omega
  have : ∀ (l : List Nat), (∃ v ∈ l, g v ≠ f v) → (l.map f).sum < (l.map g).sum := by
    intro l
    induction l with
    | nil => rintro ⟨v, hv, _⟩; simp at hv
    | cons x l ih =>
      rintro ⟨v, hv, hd⟩
      simp only [List.map_cons, List.sum_cons]
      have h1 := h x
      rcases List.mem_cons.1 hv with rfl | hv
      · have := le l; omega
      · have := ih ⟨v, hv, hd⟩; omega
  obtain ⟨v, hv, hd⟩ := hne
  exact this _ ⟨v, List.mem_range.2 hv, hd⟩
end Go.Proofs.Ytkcflhlipdnbnaa

/-
  Small lemmas on rows: of NxS what stands without sorting.
-/
namespace Go.Proofs.Ytkcflhlipdnbnaa
open Go.RowKit

theorem cell_one_new' (w : World) (x : Value) (T : TypeId) : ∀ j u, [x][j]? = some u → (w.alloc (.cells #[x] T)).cell? ((⟨w.heap.size, 0, none⟩ : Addr).add j) = some u := by
  intro j u hu
  cases j with
  | zero =>
    simp at hu; subst hu
    rw [add_none]
    exact (blk_one w _ rfl x T).cell (i := 0) (by omega)
  | succ j => simp at hu
theorem take_snocI (l : List Int) {k : Nat} (h : k < l.length) : l.take (k + 1) = l.take k ++ [l.getD k 0] := by
  rw [List.take_add_one]; simp [List.getD, h]
theorem rowCells_snoc (l : List Int) (x : Int) : rowCells (l ++ [x]) = rowCells l ++ [.int .i64 x] := by simp [rowCells]
theorem owns_cap {B n cap : Nat} {w : World} {a : Option Addr} {xs : List Value} (h : w.ownsRow B 3 1 (.slice a n cap) n xs) : n ≤ cap := by
  rcases h.2 with ⟨h1, h2⟩ | ⟨g, cap', cur, h1, _, _, h4, _⟩
  · omega
  · simp only [Value.slice.injEq] at h1
    obtain ⟨_, _, rfl⟩ := h1
    exact h4
theorem owns_row {B n : Nat} {w : World} {v : Value} {l : List Int} (h : w.ownsRow B 3 1 v n (rowCells l)) (hn : l.length = n) : ∃ a cap, v = .slice a n cap ∧ RowIn B w.heap.size w a l := by
  obtain ⟨a, cap, h1, h2⟩ := rowOwn_of h hn
  exact ⟨a, cap, h1, h2.toIn⟩
theorem filterI_step {p : Int → Bool} {l : List Int} {k : Nat} (h : k < l.length) : (l.take (k + 1)).filter p = (l.take k).filter p ++ (if p (l.getD k 0) = true then [l.getD k 0] else []) := by
  rw [take_snocI l h, List.filter_append]
  by_cases hp : p (l.getD k 0) = true
  · simp only [List.getD] at hp ⊢; simp [hp]
  · simp only [List.getD] at hp ⊢; simp [hp]
theorem filterI_len {p : Int → Bool} (l : List Int) (k : Nat) : ((l.take k).filter p).length ≤ k := Nat.le_trans (List.length_filter_le _ _) (by rw [List.length_take]; omega)
theorem RowIn.num {lo hi i : Nat} {w : World} {a : Option Addr} {l : List Int} (h : RowIn lo hi w a l) (hi' : i < l.length) : ∃ b o, a = some ⟨b, o, none⟩ ∧ w.cell? ⟨b, o + i, none⟩ = some (.int .i64 (l.getD i 0)) := by
  rcases h with rfl | ⟨b, o, e, _, _, h3⟩
  · simp at hi'
  · exact ⟨b, o, e, h3 i hi'⟩
end Go.Proofs.Ytkcflhlipdnbnaa

/-
  Right paths, by the model: spec.PathOk.
-/
namespace Go.Proofs.Ytkcflhlipdnbnaa
open Go.RowKit

/-- a to d -/
def isL (x : Int) : Bool := decide (97 ≤ x) && decide (x ≤ 100)
set_option maxHeartbeats 1000000 in
theorem isLabel_any (x : Int) (r : Bool) (w : World) (hr : r = isL x) : Calls Try.prog 97 #[.int .u8 x] w fun e w' => e = .returned (.bool r) ∧ w = w' := by
  by_cases h0 : 97 ≤ x
  · have hd : decide (x ≥ 97) = true := by simpa using h0
    have hr2 : decide (x ≤ 100) = r := by rw [hr]; unfold isL; simp [h0]
    clear hr
    go_enter Try.func97, Try.ntmps97
    go_wp2
    go_ret
    exact ⟨rfl, rfl⟩
  · have hd : decide (x ≥ 97) = false := by simp; omega
    have hr2 : r = false := by rw [hr]; unfold isL; simp [h0]
    subst hr2
    clear hr
    go_enter Try.func97, Try.ntmps97
    go_wp2
    go_ret
    exact ⟨rfl, rfl⟩
/-- whether a piece has what is its own, and nothing else -/
def formOk (x : Pc) : Bool :=
  if x.1 = 1 then isL x.2.1 && decide (x.2.2.length = 0)
  else if x.1 = 2 ∨ x.1 = 3 then decide (x.2.1 = 0) && decide (2 ≤ x.2.2.length)
  else if x.1 = 4 ∨ x.1 = 5 ∨ x.1 = 6 then decide (x.2.1 = 0) && decide (x.2.2.length = 1)
  else false
def kidsOk (i : Nat) (ks : List Int) : Bool := ks.all fun k => decide (0 ≤ k) && decide (k < (i : Int))
def okToP (l : List Pc) : Nat → Bool
  | 0 => true
  | k + 1 => okToP l k && (formOk (pat l k) && kidsOk k (pat l k).2.2)
def okP (l : List Pc) : Bool := decide (1 ≤ l.length) && decide (l.length ≤ 60) && okToP l l.length
theorem okToP_no {l : List Pc} {k : Nat} (h : okToP l k = false) : ∀ n, k ≤ n → okToP l n = false := by
  intro n hn
  induction n with
  | zero => obtain rfl : k = 0 := by omega
            exact h
  | succ n ih =>
    rcases Nat.lt_or_ge k (n + 1) with h1 | h1
    · simp only [okToP]; rw [ih (by omega)]; rfl
    · obtain rfl : k = n + 1 := by omega
      exact h
theorem okP_no {l : List Pc} {k : Nat} (hk : k < l.length) (h : (formOk (pat l k) && kidsOk k (pat l k).2.2) = false) : okP l = false := by
  unfold okP
  rw [okToP_no (k := k + 1) (by simp only [okToP]; rw [h, Bool.and_false]) l.length (by omega), Bool.and_false]
theorem kidsOk_no {i : Nat} {ks : List Int} {j : Nat} (hj : j < ks.length) (h : (decide (0 ≤ ks.getD j 0) && decide (ks.getD j 0 < (i : Int))) = false) : kidsOk i ks = false := by
  rw [Bool.eq_false_iff]
  intro h1
  have := List.all_eq_true.1 h1 (ks.getD j 0) (by simp [List.getD, hj])
  rw [this] at h
  cases h
theorem kidsOk_yes {i : Nat} {ks : List Int} (h : ∀ j, j < ks.length → (decide (0 ≤ ks.getD j 0) && decide (ks.getD j 0 < (i : Int))) = true) : kidsOk i ks = true := by
  refine List.all_eq_true.2 fun x hx => ?_
  obtain ⟨j, hj, rfl⟩ := List.getElem_of_mem hx
  have := h j hj
  simpa [List.getD, hj] using this
theorem formOk_cases {x y : Int} {ks : List Int} (h : formOk (x, y, ks) = true) : (x = 1 ∧ isL y = true ∧ ks.length = 0) ∨ (x = 2 ∧ y = 0 ∧ 2 ≤ ks.length) ∨ (x = 3 ∧ y = 0 ∧ 2 ≤ ks.length) ∨ (x = 4 ∧ y = 0 ∧ ks.length = 1) ∨ (x = 5 ∧ y = 0 ∧ ks.length = 1) ∨ (x = 6 ∧ y = 0 ∧ ks.length = 1) := by
  unfold formOk at h
  dsimp only at h
  by_cases h1 : x = 1
  · rw [if_pos h1, Bool.and_eq_true, decide_eq_true_eq] at h; exact .inl ⟨h1, h⟩
  · rw [if_neg h1] at h
    by_cases h2 : x = 2 ∨ x = 3
    · rw [if_pos h2, Bool.and_eq_true, decide_eq_true_eq, decide_eq_true_eq] at h
      rcases h2 with h2 | h2
      · exact .inr (.inl ⟨h2, h⟩)
      · exact .inr (.inr (.inl ⟨h2, h⟩))
    · rw [if_neg h2] at h
      by_cases h3 : x = 4 ∨ x = 5 ∨ x = 6
      · rw [if_pos h3, Bool.and_eq_true, decide_eq_true_eq, decide_eq_true_eq] at h
        rcases h3 with h3 | h3 | h3
        · exact .inr (.inr (.inr (.inl ⟨h3, h⟩)))
        · exact .inr (.inr (.inr (.inr (.inl ⟨h3, h⟩))))
        · exact .inr (.inr (.inr (.inr (.inr ⟨h3, h⟩))))
      · rw [if_neg h3] at h; cases h
theorem formOk_not {x y : Int} {ks : List Int} (h : formOk (x, y, ks) = false) : (x = 1 ∧ (isL y = false ∨ ks.length ≠ 0)) ∨ ((x = 2 ∨ x = 3) ∧ (y ≠ 0 ∨ ks.length < 2)) ∨ ((x = 4 ∨ x = 5 ∨ x = 6) ∧ (y ≠ 0 ∨ ks.length ≠ 1)) ∨ (x ≠ 1 ∧ x ≠ 2 ∧ x ≠ 3 ∧ x ≠ 4 ∧ x ≠ 5 ∧ x ≠ 6) := by
  unfold formOk at h
  dsimp only at h
  by_cases h1 : x = 1
  · rw [if_pos h1, Bool.and_eq_false_iff, decide_eq_false_iff_not] at h; exact .inl ⟨h1, h⟩
  · rw [if_neg h1] at h
    by_cases h2 : x = 2 ∨ x = 3
    · rw [if_pos h2, Bool.and_eq_false_iff, decide_eq_false_iff_not, decide_eq_false_iff_not] at h
      exact .inr (.inl ⟨h2, h.imp id (fun h => by omega)⟩)
    · rw [if_neg h2] at h
      by_cases h3 : x = 4 ∨ x = 5 ∨ x = 6
      · rw [if_pos h3, Bool.and_eq_false_iff, decide_eq_false_iff_not, decide_eq_false_iff_not] at h
        exact .inr (.inr (.inl ⟨h3, h⟩))
      · exact .inr (.inr (.inr ⟨h1, fun e => h2 (.inl e), fun e => h2 (.inr e), fun e => h3 (.inl e), fun e => h3 (.inr (.inl e)), fun e => h3 (.inr (.inr e))⟩))
theorem isL_yes {y : Int} (h : isL y = true) : 97 ≤ y ∧ y ≤ 100 := by
  unfold isL at h; rw [Bool.and_eq_true, decide_eq_true_eq, decide_eq_true_eq] at h; exact h
theorem isL_no {y : Int} (h : isL y = false) : y < 97 ∨ 100 < y := by
  unfold isL at h; rw [Bool.and_eq_false_iff, decide_eq_false_iff_not, decide_eq_false_iff_not] at h; omega

set_option maxHeartbeats 8000000 in
set_option maxRecDepth 100000 in
theorem specPathOk_any (lo hi : Nat) (a : Option Addr) (n cap : Nat) (l : List Pc) (r : Bool) (w : World) (ha : PathIn lo hi w a l) (hh : hi ≤ w.heap.size) (hn : l.length = n) (hm : n ≤ 1048576) (hq : ∀ i, i < n → (pat l i).2.2.length ≤ 1048576) (hr : r = okP l) :
    Calls Try.prog 33 #[pv a n cap] w fun e w' => e = .returned (.bool r) ∧ Hid (Below w.heap.size w w') := by
  have HN : Hid (l.length = n) := hn
  have HA : Hid (PathIn lo hi w a l) := ha
  have HH : Hid (hi ≤ w.heap.size) := hh
  have HR : Hid (r = okP l) := hr
  have HQ : Hid (∀ i, i < n → (pat l i).2.2.length ≤ 1048576) := hq
  clear ha hh hn hr hq
  obtain ⟨B, HB⟩ : ∃ B, Hid (B = w.heap.size) := ⟨_, rfl⟩
  unfold pv
  go_enter Try.func33, Try.ntmps33
  go_wp2
  rw [← HB.out]
  go_loopw [3] (fun i wr => ∃ k : Nat, i = .int .i64 k ∧ k ≤ n ∧ Hid (okToP l k = true) ∧ Hid (Below w.heap.size w wr) ∧ Hid (Blk wr B 1 (fun _ => .slice a n cap))) (fun i _ => n - (intOf i).toNat)
  case atStart => exact ⟨0, rfl, by omega, rfl, below1 _ _, blk_one w B HB.out _ _⟩
  case round =>
    obtain ⟨k, rfl, hk, HE, HL, HX⟩ := hrel
    have c0 := HX.out.cell (i := 0) (by omega)
    by_cases hlt : k < n
    · have hlt1 : (k : Int) < (n : Int) := by omega
      have hlt0 : (0 : Int) ≤ (k : Int) := by omega
      have HER : Hid (PathIn lo hi wr a l) := HA.out.below HL.out HH.out
      obtain ⟨b, o, rfl, _, _, hx⟩ := HER.out.piece (k := k) (by rw [HN.out]; exact hlt)
      obtain ⟨z, HZ⟩ : ∃ z : Pc, Hid (z = pat l k) := ⟨_, rfl⟩
      have HQK : Hid ((pat l k).2.2.length ≤ 1048576) := HQ.out k hlt
      have HNO : Hid ((formOk (pat l k) && kidsOk k (pat l k).2.2) = false → r = false) := fun h => by rw [HR.out]; exact okP_no (by rw [HN.out]; exact hlt) h
      have HYES : Hid ((formOk (pat l k) && kidsOk k (pat l k).2.2) = true → okToP l (k + 1) = true) := fun h => by simp only [okToP]; rw [HE.out, h]; rfl
      rw [← HZ.out] at hx HQK HNO HYES
      obtain ⟨x, y, ks⟩ := z
      obtain ⟨p0, p1, ra, rc, p2, hrow⟩ := hx
      dsimp only at p0 p1 p2 hrow HQK HNO HYES
      obtain ⟨q, HKL⟩ : ∃ q, Hid (ks.length = q) := ⟨_, rfl⟩
      rw [HKL.out] at p2 HQK
      have hqk : q ≤ 1048576 := HQK.out
      obtain ⟨E, HEE⟩ : ∃ E, Hid (E = wr.heap.size) := ⟨_, rfl⟩
      obtain ⟨W, HW⟩ : ∃ W, Hid (W = wr.alloc (.cells #[.int .i64 x, .int .u8 y, .slice ra q rc] 120)) := ⟨_, rfl⟩
      have HWB : Hid (Below wr.heap.size wr W) := by rw [HW.out]; exact below1 _ _
      obtain ⟨q0, q1, q2⟩ : W.cell? ⟨E, 0, none⟩ = some (.int .i64 x) ∧ W.cell? ⟨E, 1, none⟩ = some (.int .u8 y) ∧ W.cell? ⟨E, 2, none⟩ = some (.slice ra q rc) := by rw [HW.out]; exact box_cells wr _ _ _ 120 _ HEE.out
      have HRW : Hid (RowIn lo hi W ra ks) := hrow.below HWB.out (Nat.le_trans HH.out HL.out.size)
      have HLW : Hid (Below w.heap.size w W) := HL.out.trans (HWB.out.mono HL.out.size)
      have HXW : Hid (Blk W B 1 (fun _ => .slice (some ⟨b, o, none⟩) n cap)) := HX.out.of_block (HWB.out.block _ HX.out.lt)
      clear hrow HWB
      go_upto_block 2 with fail
      rw [← HEE.out, ← HW.out]
      clear p0 p1 p2 c0 HER HX HL HA HQK
      by_cases hf : formOk (x, y, ks) = true
      · go_cut [] (fun wc => wc = W)
        case first =>
          rcases formOk_cases hf with ⟨rfl, h1, h2⟩ | ⟨rfl, rfl, h2⟩ | ⟨rfl, rfl, h2⟩ | ⟨rfl, rfl, h2⟩ | ⟨rfl, rfl, h2⟩ | ⟨rfl, rfl, h2⟩
          · obtain ⟨h3, h4⟩ := isL_yes h1
            obtain rfl : q = 0 := by have := HKL.out; omega
            have d1 : decide (y < 97) = false := by simp; omega
            have d2 : decide ((100 : Int) < y) = false := by simp; omega
            go_wp2_with fail
            go_meet
            case rel => rfl
          · have d1 : decide ((q : Int) < 2) = false := by have := HKL.out; simp; omega
            go_wp2_with fail
            go_meet
            case rel => rfl
          · have d1 : decide ((q : Int) < 2) = false := by have := HKL.out; simp; omega
            go_wp2_with fail
            go_meet
            case rel => rfl
          · obtain rfl : q = 1 := by have := HKL.out; omega
            go_wp2_with fail
            go_meet
            case rel => rfl
          · obtain rfl : q = 1 := by have := HKL.out; omega
            go_wp2_with fail
            go_meet
            case rel => rfl
          · obtain rfl : q = 1 := by have := HKL.out; omega
            go_wp2_with fail
            go_meet
            case rel => rfl
        case rest =>
          subst hcut
          have HNO2 : Hid (kidsOk k ks = false → r = false) := fun h => HNO.out (by rw [hf, h]; rfl)
          have HYES2 : Hid (kidsOk k ks = true → okToP l (k + 1) = true) := fun h => HYES.out (by rw [hf, h]; rfl)
          clear HNO HYES hf
          go_wp2
          go_loop [6] (fun j => ∃ m : Nat, j = .int .i64 m ∧ m ≤ q ∧ Hid (∀ t, t < m → (decide (0 ≤ ks.getD t 0) && decide (ks.getD t 0 < (k : Int))) = true)) (fun j => q - (intOf j).toNat)
          case atStart => exact ⟨0, rfl, by omega, fun t ht => absurd ht (by omega)⟩
          case round =>
            obtain ⟨m, rfl, hm1, HP⟩ := hrel
            by_cases hmq : m < q
            · have hmq1 : (m : Int) < (q : Int) := by omega
              have hmq0 : (0 : Int) ≤ (m : Int) := by omega
              obtain ⟨b2, o2, rfl, hc⟩ := HRW.out.num (i := m) (by rw [HKL.out]; exact hmq)
              obtain ⟨v, HV⟩ : ∃ v, Hid (v = ks.getD m 0) := ⟨_, rfl⟩
              rw [← HV.out] at hc
              obtain ⟨u, HU⟩ : ∃ u, Hid (u = (decide (0 ≤ v) && decide (v ≤ (k : Int) - 1))) := ⟨_, rfl⟩
              have HUU : Hid (u = (decide (0 ≤ v) && decide (v < (k : Int)))) := by
                show _ = _
                rw [HU.out]
                have : decide (v ≤ (k : Int) - 1) = decide (v < (k : Int)) := by rw [decide_eq_decide]; omega
                rw [this]
              go_wp2_with fail
              refine (l01In_any v 0 ((k : Int) - 1) _).mono ?_
              rintro e w1 ⟨rfl, rfl⟩
              rw [← HU.out]
              rcases Bool.eq_false_or_eq_true u with hu | hu
              · subst hu
                go_wp2
                go_roundw
                case rel =>
                  refine ⟨m + 1, by go_num, by omega, fun t ht => ?_⟩
                  by_cases e : t = m
                  · subst e; rw [← HV.out]; exact HUU.out.symm
                  · exact HP.out t (by omega)
                case measure => simp [intOf]; omega
              · subst hu
                go_wp2
                go_ret
                have : r = false := HNO2.out (kidsOk_no (j := m) (by rw [HKL.out]; exact hmq) (by rw [← HV.out]; exact HUU.out.symm))
                exact ⟨by rw [this]; rfl, HLW⟩
            · obtain rfl : m = q := by omega
              go_wp2
              go_roundw
              case rel => exact ⟨k + 1, by go_num, by omega, HYES2.out (kidsOk_yes (fun j hj => HP.out j (by rw [← HKL.out]; exact hj))), HLW, HXW⟩
              case measure => simp [intOf]; omega
      · have hff : formOk (x, y, ks) = false := by simpa using hf
        have HF : Hid (r = false) := HNO.out (by rw [hff]; rfl)
        rcases formOk_not hff with ⟨rfl, h⟩ | ⟨h1, h2⟩ | ⟨h1, h2⟩ | ⟨h1, h2, h3, h4, h5, h6⟩
        · by_cases h1 : isL y = true
          · obtain ⟨h3, h4⟩ := isL_yes h1
            have d1 : decide (y < 97) = false := by simp; omega
            have d2 : decide ((100 : Int) < y) = false := by simp; omega
            have d3 : ¬ (q : Int) = 0 := by have := HKL.out; rcases h with h | h; rw [h1] at h; cases h; omega
            have d4 : ¬ q = 0 := by omega
            go_wp2
            go_ret
            exact ⟨by rw [HF.out]; rfl, HLW⟩
          · rcases isL_no (by simpa using h1) with h3 | h3
            · have d1 : decide (y < 97) = true := by simp; omega
              go_wp2
              go_ret
              exact ⟨by rw [HF.out]; rfl, HLW⟩
            · have d1 : decide (y < 97) = false := by simp; omega
              have d2 : decide ((100 : Int) < y) = true := by simp; omega
              go_wp2
              go_ret
              exact ⟨by rw [HF.out]; rfl, HLW⟩
        · by_cases hy : y = 0
          · subst hy
            have d1 : decide ((q : Int) < 2) = true := by have := HKL.out; rcases h2 with h | h; exact absurd rfl h; simp; omega
            rcases h1 with rfl | rfl
            · go_wp2
              go_ret
              exact ⟨by rw [HF.out]; rfl, HLW⟩
            · go_wp2
              go_ret
              exact ⟨by rw [HF.out]; rfl, HLW⟩
          · rcases h1 with rfl | rfl
            · go_wp2
              go_ret
              exact ⟨by rw [HF.out]; rfl, HLW⟩
            · go_wp2
              go_ret
              exact ⟨by rw [HF.out]; rfl, HLW⟩
        · by_cases hy : y = 0
          · subst hy
            have d3 : ¬ (q : Int) = 1 := by have := HKL.out; rcases h2 with h | h; exact absurd rfl h; omega
            have d4 : ¬ q = 1 := by omega
            rcases h1 with rfl | rfl | rfl
            · go_wp2
              go_ret
              exact ⟨by rw [HF.out]; rfl, HLW⟩
            · go_wp2
              go_ret
              exact ⟨by rw [HF.out]; rfl, HLW⟩
            · go_wp2
              go_ret
              exact ⟨by rw [HF.out]; rfl, HLW⟩
          · rcases h1 with rfl | rfl | rfl
            · go_wp2
              go_ret
              exact ⟨by rw [HF.out]; rfl, HLW⟩
            · go_wp2
              go_ret
              exact ⟨by rw [HF.out]; rfl, HLW⟩
            · go_wp2
              go_ret
              exact ⟨by rw [HF.out]; rfl, HLW⟩
        · go_wp2
          go_ret
          exact ⟨by rw [HF.out]; rfl, HLW⟩
    · obtain rfl : k = n := by omega
      have HRR : Hid (r = (decide ((1 : Int) ≤ (k : Int)) && decide ((k : Int) ≤ 60))) := by
        show _ = _
        rw [HR.out]; unfold okP; rw [HN.out, HE.out, Bool.and_true]
        have e1 : decide (1 ≤ k) = decide ((1 : Int) ≤ (k : Int)) := by rw [decide_eq_decide]; omega
        have e2 : decide (k ≤ 60) = decide ((k : Int) ≤ 60) := by rw [decide_eq_decide]; omega
        rw [e1, e2]
      go_wp2_with fail
      refine (l01In_any (k : Int) 1 60 _).mono ?_
      rintro e w1 ⟨rfl, rfl⟩
      rw [← HRR.out]
      go_wp2
      go_ret
      exact ⟨rfl, HL⟩
end Go.Proofs.Ytkcflhlipdnbnaa

/-
  The automaton of a path as the document's model makes it: mathematics (first and last states, arcs that are joined, labels that are laid).
-/
namespace Go.Proofs.Ytkcflhlipdnbnaa
open Go.RowKit

/-- the label with which a state is come to -/
def lbAt (lb : List Int) (t : Int) : Int := lb.getD (t.toNat - 1) 0
/-- arcs from one state to each of a row -/
def joinR (lb : List Int) (f : Int) (ts : List Int) (ar : List Ed) : List Ed := ts.foldl (fun a t => putE a (f, lbAt lb t, t)) ar
/-- arcs from each of a row to each of another -/
def joinF (lb : List Int) (fs ts : List Int) (ar : List Ed) : List Ed := fs.foldl (fun a f => joinR lb f ts a) ar
theorem mem_joinR {lb : List Int} {f : Int} {ts : List Int} : ∀ {ar : List Ed} {x : Ed}, x ∈ joinR lb f ts ar ↔ x ∈ ar ∨ ∃ t, t ∈ ts ∧ x = (f, lbAt lb t, t) := by
  induction ts with
  | nil => intro ar x; simp [joinR]
  | cons t ts ih =>
    intro ar x
    show x ∈ joinR lb f ts (putE ar (f, lbAt lb t, t)) ↔ _
    rw [ih, mem_putE]
    constructor
    · rintro ((h | h) | ⟨u, hu, h⟩)
      · exact .inr ⟨t, List.mem_cons_self .., h⟩
      · exact .inl h
      · exact .inr ⟨u, List.mem_cons_of_mem _ hu, h⟩
    · rintro (h | ⟨u, hu, h⟩)
      · exact .inl (.inr h)
      · rcases List.mem_cons.1 hu with rfl | hu
        · exact .inl (.inl h)
        · exact .inr ⟨u, hu, h⟩
theorem mem_joinF {lb : List Int} {fs ts : List Int} : ∀ {ar : List Ed} {x : Ed}, x ∈ joinF lb fs ts ar ↔ x ∈ ar ∨ ∃ f t, f ∈ fs ∧ t ∈ ts ∧ x = (f, lbAt lb t, t) := by
  induction fs with
  | nil => intro ar x; simp [joinF]
  | cons f fs ih =>
    intro ar x
    show x ∈ joinF lb fs ts (joinR lb f ts ar) ↔ _
    rw [ih, mem_joinR]
    constructor
    · rintro ((h | ⟨t, ht, h⟩) | ⟨g, t, hg, ht, h⟩)
      · exact .inl h
      · exact .inr ⟨f, t, List.mem_cons_self .., ht, h⟩
      · exact .inr ⟨g, t, List.mem_cons_of_mem _ hg, ht, h⟩
    · rintro (h | ⟨g, t, hg, ht, h⟩)
      · exact .inl (.inl h)
      · rcases List.mem_cons.1 hg with rfl | hg
        · exact .inl (.inr ⟨t, ht, h⟩)
        · exact .inr ⟨g, t, hg, ht, h⟩
theorem srt_joinR {lb : List Int} {f : Int} {ts : List Int} : ∀ {ar : List Ed}, SrtE ar → SrtE (joinR lb f ts ar) := by
  induction ts with
  | nil => intro ar h; exact h
  | cons t ts ih => intro ar h; exact ih (srt_putE h _)
theorem srt_joinF {lb : List Int} {fs ts : List Int} : ∀ {ar : List Ed}, SrtE ar → SrtE (joinF lb fs ts ar) := by
  induction fs with
  | nil => intro ar h; exact h
  | cons f fs ih => intro ar h; exact ih (srt_joinR h)

/-- what the maker holds: labels that are laid, arcs, whether there are too many -/
structure MkS where
  lb : List Int
  ar : List Ed
  bad : Bool
/-- what is known of a piece -/
structure Lk where
  fi : List Int
  la : List Int
  nl : Bool
/-- one kid more -/
def stepK (op : Int) (s : MkS) (o y : Lk) : MkS × Lk :=
  if op = 2 then ({ s with ar := joinF s.lb o.la y.fi s.ar }, ⟨if o.nl = true then o.fi ++ y.fi else o.fi, if y.nl = true then o.la ++ y.la else y.la, o.nl && y.nl⟩)
  else if op = 3 then (s, ⟨o.fi ++ y.fi, o.la ++ y.la, o.nl || y.nl⟩)
  else (if op = 6 then s else { s with ar := joinF s.lb y.la y.fi s.ar }, ⟨y.fi, y.la, y.nl || !decide (op = 5)⟩)
/-- the kids, one behind the other, until there are too many -/
def kidsK (lk : Nat → MkS → MkS × Lk) (op : Int) : List Int → MkS → Lk → MkS × Lk
  | [], s, o => (s, o)
  | z :: zs, s, o => if s.bad = true then (s, o) else
    kidsK lk op zs (stepK op (lk z.toNat s).1 o (lk z.toNat s).2).1 (stepK op (lk z.toNat s).1 o (lk z.toNat s).2).2
/-- a piece; the first number is more than its place -/
def lookK (ps : List Pc) : Nat → Nat → MkS → MkS × Lk
  | 0, _, s => (s, ⟨[], [], false⟩)
  | n + 1, z, s => if (pat ps z).1 = 1 then
      ({ s with lb := s.lb ++ [(pat ps z).2.1], bad := s.bad || decide (24 ≤ s.lb.length + 1) }, ⟨[((s.lb.length + 1 : Nat) : Int)], [((s.lb.length + 1 : Nat) : Int)], false⟩)
    else kidsK (lookK ps n) (pat ps z).1 (pat ps z).2.2 s ⟨[], [], decide ((pat ps z).1 = 2)⟩

/-- what holds of a maker: its labels are labels, its arcs are in order, lead to states that have a label, by it -/
structure MkOk (s : MkS) : Prop where
  len : s.lb.length ≤ 24
  bad : s.bad = decide (24 ≤ s.lb.length)
  lbl : ∀ x, x ∈ s.lb → 97 ≤ x ∧ x ≤ 100
  srt : SrtE s.ar
  arc : ∀ x, x ∈ s.ar → ∃ f t : Nat, 1 ≤ f ∧ f ≤ s.lb.length ∧ 1 ≤ t ∧ t ≤ s.lb.length ∧ x = ((f : Int), s.lb.getD (t - 1) 0, (t : Int))
/-- a row of states that are laid between two counts, each once at most -/
def Sts (lo hi : Nat) (l : List Int) : Prop := l.length ≤ hi - lo ∧ ∀ x, x ∈ l → ∃ t : Nat, lo < t ∧ t ≤ hi ∧ x = (t : Int)
theorem Sts.nil (lo hi : Nat) : Sts lo hi [] := ⟨Nat.zero_le _, fun x h => by cases h⟩
theorem Sts.wide {lo hi lo' hi' : Nat} {l : List Int} (h : Sts lo hi l) (h1 : lo' ≤ lo) (h2 : hi ≤ hi') : Sts lo' hi' l :=
  ⟨by have := h.1; omega, fun x hx => by obtain ⟨t, a, b, c⟩ := h.2 x hx; exact ⟨t, by omega, by omega, c⟩⟩
theorem Sts.app {lo mid hi : Nat} {l l' : List Int} (h : Sts lo mid l) (h' : Sts mid hi l') (h1 : lo ≤ mid) (h2 : mid ≤ hi) : Sts lo hi (l ++ l') := by
  refine ⟨by rw [List.length_append]; have := h.1; have := h'.1; omega, fun x hx => ?_⟩
  rcases List.mem_append.1 hx with hx | hx
  · exact (h.wide (Nat.le_refl _) h2).2 x hx
  · exact (h'.wide h1 (Nat.le_refl _)).2 x hx
/-- labels are only added to -/
def Grew (s s' : MkS) : Prop := s.lb.length ≤ s'.lb.length ∧ ∀ i, i < s.lb.length → s'.lb.getD i 0 = s.lb.getD i 0
theorem Grew.refl (s : MkS) : Grew s s := ⟨Nat.le_refl _, fun _ _ => rfl⟩
theorem Grew.trans {a b c : MkS} (h : Grew a b) (k : Grew b c) : Grew a c := ⟨Nat.le_trans h.1 k.1, fun i hi => by rw [k.2 i (Nat.lt_of_lt_of_le hi h.1), h.2 i hi]⟩
theorem MkOk.join {s : MkS} (h : MkOk s) {fs ts : List Int} {lo hi : Nat} (hf : ∀ x, x ∈ fs → ∃ t : Nat, 1 ≤ t ∧ t ≤ s.lb.length ∧ x = (t : Int)) (ht : Sts lo hi ts) (hh : hi ≤ s.lb.length) : MkOk { s with ar := joinF s.lb fs ts s.ar } := by
  refine ⟨h.len, h.bad, h.lbl, srt_joinF h.srt, fun x hx => ?_⟩
  rcases mem_joinF.1 hx with hx | ⟨f, t, hf1, ht1, rfl⟩
  · exact h.arc x hx
  · obtain ⟨a, a1, a2, rfl⟩ := hf f hf1
    obtain ⟨b, b1, b2, rfl⟩ := ht.2 t ht1
    exact ⟨a, b, a1, a2, by omega, Nat.le_trans b2 hh, by unfold lbAt; simp⟩

/-- how many steps a piece comes to, each time it is come to -/
def cntL (c : Nat → Nat) : List Int → Nat
  | [] => 0
  | z :: zs => c z.toNat + cntL c zs
def cntK (ps : List Pc) : Nat → Nat → Nat
  | 0, _ => 0
  | n + 1, z => if (pat ps z).1 = 1 then 1 else cntL (cntK ps n) (pat ps z).2.2
/-- what holds behind a piece -/
structure LkOk (s : MkS) (c : Nat) (r : MkS × Lk) : Prop where
  ok : MkOk r.1
  grew : Grew s r.1
  fi : Sts s.lb.length r.1.lb.length r.2.fi
  la : Sts s.lb.length r.1.lb.length r.2.la
  len : r.1.lb.length = min 24 (s.lb.length + c)
theorem Sts.pos {lo hi : Nat} {l : List Int} (h : Sts lo hi l) : ∀ x, x ∈ l → ∃ t : Nat, 1 ≤ t ∧ t ≤ hi ∧ x = (t : Int) := fun x hx => by
  obtain ⟨t, a, b, c⟩ := h.2 x hx
  exact ⟨t, by omega, b, c⟩
theorem stepK_ok {op : Int} {s s1 : MkS} {o y : Lk} {lo c : Nat} (hs : lo ≤ s.lb.length) (hf : Sts lo s.lb.length o.fi) (hl : Sts lo s.lb.length o.la) (h : LkOk s c (s1, y)) :
    MkOk (stepK op s1 o y).1 ∧ (stepK op s1 o y).1.lb = s1.lb ∧ Sts lo s1.lb.length (stepK op s1 o y).2.fi ∧ Sts lo s1.lb.length (stepK op s1 o y).2.la := by
  have hg := h.grew.1
  have h1 := h.ok
  have h2 := h.fi
  have h3 := h.la
  dsimp only at hg h1 h2 h3
  unfold stepK
  by_cases e2 : op = 2
  · rw [if_pos e2]
    refine ⟨h1.join (hl.wide (Nat.le_refl _) hg).pos h2 (Nat.le_refl _), rfl, ?_, ?_⟩
    · dsimp only
      split
      · exact hf.app h2 hs hg
      · exact hf.wide (Nat.le_refl _) hg
    · dsimp only
      split
      · exact hl.app h3 hs hg
      · exact h3.wide hs (Nat.le_refl _)
  · rw [if_neg e2]
    by_cases e3 : op = 3
    · rw [if_pos e3]
      exact ⟨h1, rfl, hf.app h2 hs hg, hl.app h3 hs hg⟩
    · rw [if_neg e3]
      dsimp only
      refine ⟨?_, ?_, h2.wide hs (Nat.le_refl _), h3.wide hs (Nat.le_refl _)⟩
      · split
        · exact h1
        · exact h1.join h3.pos h2 (Nat.le_refl _)
      · split <;> rfl
theorem kidsK_ok {lk : Nat → MkS → MkS × Lk} {ct : Nat → Nat} {op : Int} : ∀ {zs : List Int} {s : MkS} {o : Lk} {lo : Nat}, (∀ z, z ∈ zs → ∀ s, MkOk s → s.bad = false → LkOk s (ct z.toNat) (lk z.toNat s)) → MkOk s → lo ≤ s.lb.length → Sts lo s.lb.length o.fi → Sts lo s.lb.length o.la →
    MkOk (kidsK lk op zs s o).1 ∧ Grew s (kidsK lk op zs s o).1 ∧ Sts lo (kidsK lk op zs s o).1.lb.length (kidsK lk op zs s o).2.fi ∧ Sts lo (kidsK lk op zs s o).1.lb.length (kidsK lk op zs s o).2.la ∧ (kidsK lk op zs s o).1.lb.length = min 24 (s.lb.length + cntL ct zs)
  | [], s, o, lo, _, hs, hlo, hf, hl => ⟨hs, Grew.refl s, hf, hl, by show s.lb.length = min 24 (s.lb.length + 0); have := hs.len; omega⟩
  | z :: zs, s, o, lo, hk, hs, hlo, hf, hl => by
    unfold kidsK
    by_cases hb : s.bad = true
    · rw [if_pos hb]
      have h24 : 24 ≤ s.lb.length := by have := hs.bad; rw [hb] at this; exact of_decide_eq_true this.symm
      exact ⟨hs, Grew.refl s, hf, hl, by show s.lb.length = _; have := hs.len; omega⟩
    · rw [if_neg hb]
      have h0 := hk z (List.mem_cons_self ..) s hs (by simpa using hb)
      obtain ⟨g1, g2, g3, g4⟩ := stepK_ok (op := op) hlo hf hl h0
      have hle := h0.grew.1
      have hlen := h0.len
      have ih := kidsK_ok (lk := lk) (ct := ct) (op := op) (zs := zs) (lo := lo) (fun z hz => hk z (List.mem_cons_of_mem _ hz)) g1 (by rw [g2]; omega) (by rw [g2]; exact g3) (by rw [g2]; exact g4)
      obtain ⟨i1, i2, i3, i4, i5⟩ := ih
      refine ⟨i1, Grew.trans ⟨by rw [g2]; exact hle, fun i hi => by rw [g2]; exact h0.grew.2 i hi⟩ i2, i3, i4, ?_⟩
      rw [i5, g2, hlen]
      show _ = min 24 (s.lb.length + (ct z.toNat + cntL ct zs))
      omega
theorem lookK_ok (ps : List Pc) (hok : ∀ i, i < ps.length → formOk (pat ps i) = true ∧ kidsOk i (pat ps i).2.2 = true) : ∀ (n z : Nat), z < n → z < ps.length → ∀ s, MkOk s → s.bad = false → LkOk s (cntK ps n z) (lookK ps n z s) := by
  intro n
  induction n with
  | zero => intro z h; omega
  | succ n ih =>
    intro z hz hzl s hs hb
    have hlt : s.lb.length < 24 := by have := hs.bad; rw [hb] at this; have := of_decide_eq_false this.symm; omega
    unfold lookK cntK
    by_cases e : (pat ps z).1 = 1
    · rw [if_pos e, if_pos e]
      have hlab : 97 ≤ (pat ps z).2.1 ∧ (pat ps z).2.1 ≤ 100 := by
        have h1 := (hok z hzl).1
        unfold formOk at h1
        rw [if_pos e] at h1
        simp only [Bool.and_eq_true] at h1
        exact isL_yes h1.1
      have hle : (s.lb ++ [(pat ps z).2.1]).length = s.lb.length + 1 := by simp
      have hget : ∀ i, i < s.lb.length → (s.lb ++ [(pat ps z).2.1]).getD i 0 = s.lb.getD i 0 := fun i hi => by simp [List.getD, List.getElem?_append_left hi]
      have hst : Sts s.lb.length (s.lb.length + 1) [((s.lb.length + 1 : Nat) : Int)] := ⟨by simp, fun x hx => ⟨s.lb.length + 1, by omega, by omega, by simpa using hx⟩⟩
      refine ⟨⟨by dsimp only; omega, by dsimp only; rw [hb, hle]; rfl, fun x hx => ?_, hs.srt, fun x hx => ?_⟩, ⟨by dsimp only; omega, hget⟩, by dsimp only; rw [hle]; exact hst, by dsimp only; rw [hle]; exact hst, by dsimp only; rw [hle]; omega⟩
      · rcases List.mem_append.1 hx with h | h
        · exact hs.lbl x h
        · have : x = (pat ps z).2.1 := by simpa using h
          rw [this]; exact hlab
      · obtain ⟨f, t, a1, a2, a3, a4, a5⟩ := hs.arc x hx
        dsimp only
        exact ⟨f, t, a1, by omega, a3, by omega, by rw [hget _ (by omega)]; exact a5⟩
    · rw [if_neg e, if_neg e]
      have hk : ∀ k, k ∈ (pat ps z).2.2 → ∀ s, MkOk s → s.bad = false → LkOk s (cntK ps n k.toNat) (lookK ps n k.toNat s) := fun k hk s h1 h2 => by
        have h3 := List.all_eq_true.1 (hok z hzl).2 k hk
        simp only [Bool.and_eq_true, decide_eq_true_eq] at h3
        exact ih k.toNat (by omega) (by omega) s h1 h2
      obtain ⟨i1, i2, i3, i4, i5⟩ := kidsK_ok (op := (pat ps z).1) (o := ⟨[], [], decide ((pat ps z).1 = 2)⟩) hk hs (Nat.le_refl _) (Sts.nil _ _) (Sts.nil _ _)
      exact ⟨i1, i2, i3, i4, i5⟩
end Go.Proofs.Ytkcflhlipdnbnaa

/-
  The seating of steps by sets of states, and that it tells what the model's maker tells by lists.
-/
namespace Go.Proofs.Ytkcflhlipdnbnaa
open Go.RowKit

/-- labels that are laid, and which states may stand behind which -/
structure SeS where
  lb : List Int
  bh : Nat → Nat → Bool
/-- what is known of a piece, by sets -/
structure SeK where
  fi : Nat → Bool
  la : Nat → Bool
  nl : Bool
def orB (f g : Nat → Bool) : Nat → Bool := fun i => f i || g i
def followB (bh : Nat → Nat → Bool) (la fi : Nat → Bool) : Nat → Nat → Bool := fun a b => bh a b || (la a && fi b)
def stepB (op : Int) (t : SeS) (c y : SeK) : SeS × SeK :=
  if op = 2 then ({ t with bh := followB t.bh c.la y.fi }, ⟨if c.nl = true then orB c.fi y.fi else c.fi, if y.nl = true then orB y.la c.la else y.la, c.nl && y.nl⟩)
  else if op = 3 then (t, ⟨orB c.fi y.fi, orB c.la y.la, c.nl || y.nl⟩)
  else (if op = 6 then t else { t with bh := followB t.bh y.la y.fi }, ⟨y.fi, y.la, y.nl || !decide (op = 5)⟩)
def kidsB (sk : Nat → SeS → SeS × SeK) (op : Int) : List Int → SeS → SeK → SeS × SeK
  | [], t, c => (t, c)
  | z :: zs, t, c => kidsB sk op zs (stepB op (sk z.toNat t).1 c (sk z.toNat t).2).1 (stepB op (sk z.toNat t).1 c (sk z.toNat t).2).2
def oneB (n : Nat) : Nat → Bool := fun i => decide (i = n)
def noneB : Nat → Bool := fun _ => false
/-- a piece, by sets -/
def seatB (ps : List Pc) : Nat → Nat → SeS → SeS × SeK
  | 0, _, t => (t, ⟨noneB, noneB, false⟩)
  | n + 1, z, t => if (pat ps z).1 = 1 then ({ t with lb := t.lb ++ [(pat ps z).2.1] }, ⟨oneB (t.lb.length + 1), oneB (t.lb.length + 1), false⟩)
    else kidsB (seatB ps n) (pat ps z).1 (pat ps z).2.2 t ⟨noneB, noneB, decide ((pat ps z).1 = 2)⟩
/-- both hold the same -/
def TieS (s : MkS) (t : SeS) : Prop := t.lb = s.lb ∧ ∀ a b : Nat, t.bh a b = true ↔ ∃ l, ((a : Int), l, (b : Int)) ∈ s.ar
def TieR (f : Nat → Bool) (l : List Int) : Prop := ∀ i : Nat, f i = true ↔ (i : Int) ∈ l
def TieK (o : Lk) (c : SeK) : Prop := TieR c.fi o.fi ∧ TieR c.la o.la ∧ c.nl = o.nl
theorem TieR.or {f g : Nat → Bool} {l k : List Int} (h : TieR f l) (h' : TieR g k) : TieR (orB f g) (l ++ k) := fun i => by
  unfold orB
  rw [Bool.or_eq_true, h i, h' i, List.mem_append]
theorem TieR.or' {f g : Nat → Bool} {l k : List Int} (h : TieR f l) (h' : TieR g k) : TieR (orB g f) (l ++ k) := fun i => by
  unfold orB
  rw [Bool.or_eq_true, h i, h' i, List.mem_append]
  exact Or.comm
theorem TieR.no : TieR noneB [] := fun i => by simp [noneB]
theorem tie_join {s : MkS} {t : SeS} {la fi : Nat → Bool} {fs ts : List Int} (h : TieS s t) (hf : TieR la fs) (ht : TieR fi ts) : TieS { s with ar := joinF s.lb fs ts s.ar } { t with bh := followB t.bh la fi } := by
  refine ⟨h.1, fun a b => ?_⟩
  show (t.bh a b || (la a && fi b)) = true ↔ _
  rw [Bool.or_eq_true, Bool.and_eq_true, h.2 a b, hf a, ht b]
  constructor
  · rintro (⟨l, hl⟩ | ⟨h1, h2⟩)
    · exact ⟨l, mem_joinF.2 (.inl hl)⟩
    · exact ⟨lbAt s.lb b, mem_joinF.2 (.inr ⟨a, b, h1, h2, rfl⟩)⟩
  · rintro ⟨l, hl⟩
    rcases mem_joinF.1 hl with hl | ⟨f, u, h1, h2, e⟩
    · exact .inl ⟨l, hl⟩
    · simp only [Prod.mk.injEq] at e
      obtain ⟨rfl, _, rfl⟩ := e
      exact .inr ⟨h1, h2⟩
theorem tie_step {op : Int} {s : MkS} {t : SeS} {o y : Lk} {c d : SeK} (h : TieS s t) (hc : TieK o c) (hd : TieK y d) : TieS (stepK op s o y).1 (stepB op t c d).1 ∧ TieK (stepK op s o y).2 (stepB op t c d).2 := by
  obtain ⟨c1, c2, c3⟩ := hc
  obtain ⟨d1, d2, d3⟩ := hd
  unfold stepK stepB
  by_cases e2 : op = 2
  · rw [if_pos e2, if_pos e2]
    refine ⟨tie_join h c2 d1, ?_, ?_, ?_⟩
    · dsimp only
      rw [c3]
      split
      · exact c1.or d1
      · exact c1
    · dsimp only
      rw [d3]
      split
      · exact c2.or' d2
      · exact d2
    · dsimp only
      rw [c3, d3]
  · rw [if_neg e2, if_neg e2]
    by_cases e3 : op = 3
    · rw [if_pos e3, if_pos e3]
      exact ⟨h, c1.or d1, c2.or d2, by dsimp only; rw [c3, d3]⟩
    · rw [if_neg e3, if_neg e3]
      refine ⟨?_, d1, d2, by dsimp only; rw [d3]⟩
      by_cases e6 : op = 6
      · rw [if_pos e6, if_pos e6]; exact h
      · rw [if_neg e6, if_neg e6]; exact tie_join h d2 d1
theorem tie_kids {lk : Nat → MkS → MkS × Lk} {sk : Nat → SeS → SeS × SeK} {ct : Nat → Nat} {op : Int} : ∀ {zs : List Int} {s : MkS} {t : SeS} {o : Lk} {c : SeK} {lo : Nat},
    (∀ z, z ∈ zs → ∀ s, MkOk s → s.bad = false → LkOk s (ct z.toNat) (lk z.toNat s)) →
    (∀ z, z ∈ zs → ∀ s t, MkOk s → s.bad = false → s.lb.length + ct z.toNat < 24 → TieS s t → TieS (lk z.toNat s).1 (sk z.toNat t).1 ∧ TieK (lk z.toNat s).2 (sk z.toNat t).2) →
    MkOk s → lo ≤ s.lb.length → Sts lo s.lb.length o.fi → Sts lo s.lb.length o.la → s.lb.length + cntL ct zs < 24 → TieS s t → TieK o c →
    TieS (kidsK lk op zs s o).1 (kidsB sk op zs t c).1 ∧ TieK (kidsK lk op zs s o).2 (kidsB sk op zs t c).2
  | [], s, t, o, c, lo, _, _, _, _, _, _, _, h1, h2 => ⟨h1, h2⟩
  | z :: zs, s, t, o, c, lo, hk, ht, hs, hlo, hf, hl, hn, h1, h2 => by
    have hn' : s.lb.length + (ct z.toNat + cntL ct zs) < 24 := hn
    have hb : s.bad = false := by rw [hs.bad]; exact decide_eq_false (by omega)
    have h0 := hk z (List.mem_cons_self ..) s hs hb
    obtain ⟨t1, t2⟩ := ht z (List.mem_cons_self ..) s t hs hb (by omega) h1
    obtain ⟨g1, g2, g3, g4⟩ := stepK_ok (op := op) hlo hf hl h0
    obtain ⟨u1, u2⟩ := tie_step (op := op) t1 h2 t2
    have hlen := h0.len
    unfold kidsK kidsB
    rw [if_neg (by rw [hb]; simp)]
    exact tie_kids (lo := lo) (fun z hz => hk z (List.mem_cons_of_mem _ hz)) (fun z hz => ht z (List.mem_cons_of_mem _ hz)) g1 (by rw [g2]; omega) (by rw [g2]; exact g3) (by rw [g2]; exact g4) (by rw [g2]; omega) u1 u2
/-- as long as there are not too many steps both tell the same -/
theorem tie_look (ps : List Pc) (hok : ∀ i, i < ps.length → formOk (pat ps i) = true ∧ kidsOk i (pat ps i).2.2 = true) : ∀ (n z : Nat), z < n → z < ps.length → ∀ s t, MkOk s → s.bad = false → s.lb.length + cntK ps n z < 24 → TieS s t → TieS (lookK ps n z s).1 (seatB ps n z t).1 ∧ TieK (lookK ps n z s).2 (seatB ps n z t).2 := by
  intro n
  induction n with
  | zero => intro z h; omega
  | succ n ih =>
    intro z hz hzl s t hs hb hc ht
    unfold lookK seatB
    unfold cntK at hc
    by_cases e : (pat ps z).1 = 1
    · rw [if_pos e, if_pos e]
      rw [ht.1]
      refine ⟨⟨rfl, ht.2⟩, ?_, ?_, rfl⟩
      all_goals
        intro i
        simp only [oneB, decide_eq_true_eq, List.mem_singleton]
        omega
    · rw [if_neg e, if_neg e]
      rw [if_neg e] at hc
      have hlt : ∀ k, k ∈ (pat ps z).2.2 → k.toNat < n ∧ k.toNat < ps.length := fun k hk => by
        have h3 := List.all_eq_true.1 (hok z hzl).2 k hk
        simp only [Bool.and_eq_true, decide_eq_true_eq] at h3
        omega
      exact tie_kids (ct := cntK ps n) (lo := s.lb.length) (fun k hk s h1 h2 => lookK_ok ps hok n k.toNat (hlt k hk).1 (hlt k hk).2 s h1 h2) (fun k hk s t h1 h2 h3 h4 => ih k.toNat (hlt k hk).1 (hlt k hk).2 s t h1 h2 h3 h4) hs (Nat.le_refl _) (Sts.nil _ _) (Sts.nil _ _) hc ht ⟨TieR.no, TieR.no, rfl⟩
end Go.Proofs.Ytkcflhlipdnbnaa
