import Derived.WalkKit
import Derived.Test.YtbepmeipjdpipaaGreatJo04
import Derived.Deep.DeepCutAuto
import Derived.Deep.CutBlock
import Derived.Lib.Bytealg
import Derived.Laws.MakeOwn
namespace Go.Proofs.YtbepmeipjdpipaaGreat
open Go.RowKit
abbrev Rl := Nat → Nat → Bool
def noR : Rl := fun _ _ => false
def idR : Rl := fun i j => decide (i = j)
def orR (A B : Rl) : Rl := fun i j => A i j || B i j
def behR (n : Nat) (A B : Rl) : Rl := fun i j => (List.range n).any fun k => A i k && B k j
def itR (n : Nat) (K : Rl) : Nat → Rl
 | 0 => K
 | r + 1 => orR (itR n K r) (behR n (itR n K r) K)
def plusR (n : Nat) (K : Rl) : Rl := itR n K n
def starR (n : Nat) (K : Rl) : Rl := orR (plusR n K) idR
theorem orR_iff {A B : Rl} {i j : Nat} : orR A B i j = true ↔ A i j = true ∨ B i j = true := by simp [orR]
theorem idR_iff {i j : Nat} : idR i j = true ↔ i = j := by simp [idR]
theorem behR_iff {n : Nat} {A B : Rl} {i j : Nat} : behR n A B i j = true ↔ ∃ k, k < n ∧ A i k = true ∧ B k j = true := by simp [behR]
inductive TC (n : Nat) (K : Rl) : Nat → Nat → Prop
 | one {i j : Nat} : K i j = true → TC n K i j
 | more {i k j : Nat} : TC n K i k → k < n → K k j = true → TC n K i j
theorem itR_tc {n : Nat} {K : Rl} : ∀ (r : Nat) {i j : Nat}, itR n K r i j = true → TC n K i j
 | 0, _, _, h => .one h
 | r + 1, i, j, h => by
  rcases orR_iff.1 h with h | h
  ·exact itR_tc r h
  ·obtain ⟨k, hk, h1, h2⟩ := behR_iff.1 h
   exact .more (itR_tc r h1) hk h2
theorem itR_mono {n : Nat} {K : Rl} {r : Nat} {i j : Nat} (h : itR n K r i j = true) : itR n K (r + 1) i j = true := orR_iff.2 (.inl h)
theorem countP_lt {p q : Nat → Bool} : ∀ (l : List Nat), (∀ x ∈ l, p x = true → q x = true) → (∃ x ∈ l, q x = true ∧ p x = false) → l.countP p < l.countP q
 | [], _, h => by obtain ⟨x, hx, _⟩ := h; simp at hx
 | y :: l, hpq, h => by
  have hle : l.countP p ≤ l.countP q := List.countP_mono_left (fun x hx => hpq x (List.mem_cons_of_mem _ hx))
  rw [List.countP_cons, List.countP_cons]
  obtain ⟨x, hx, h1, h2⟩ := h
  rcases List.mem_cons.1 hx with rfl | hx
  ·rw [h1, h2]; simp; omega
  ·have := countP_lt l (fun x hx => hpq x (List.mem_cons_of_mem _ hx)) ⟨x, hx, h1, h2⟩
   have hy := hpq y (List.mem_cons_self ..)
   rcases hp : p y with _ | _
   ·simp; omega
   ·rw [hy hp]; simp; omega
theorem itR_grows (n : Nat) (K : Rl) (i : Nat) : ∀ r, (∀ k, k < n → itR n K (r + 1) i k = itR n K r i k) ∨ r ≤ (List.range n).countP (itR n K r i)
 | 0 => .inr (Nat.zero_le _)
 | r + 1 => by
  have next : (∀ k, k < n → itR n K (r + 1) i k = itR n K r i k) → ∀ k, k < n → itR n K (r + 2) i k = itR n K (r + 1) i k := by
   intro h k hk
   have hb : behR n (itR n K (r + 1)) K i k = behR n (itR n K r) K i k := by
    rw [Bool.eq_iff_iff, behR_iff, behR_iff]
    constructor
    ·rintro ⟨m, hm, h1, h2⟩; exact ⟨m, hm, by rw [← h m hm]; exact h1, h2⟩
    ·rintro ⟨m, hm, h1, h2⟩; exact ⟨m, hm, by rw [h m hm]; exact h1, h2⟩
   show (itR n K (r + 1) i k || behR n (itR n K (r + 1)) K i k) = (itR n K r i k || behR n (itR n K r) K i k)
   rw [h k hk, hb]
  rcases itR_grows n K i r with h | h
  ·exact .inl (next h)
  ·by_cases hs : ∀ k, k < n → itR n K (r + 1) i k = itR n K r i k
   ·exact .inl (next hs)
   ·right
    obtain ⟨k, hk⟩ := Classical.not_forall.1 hs
    obtain ⟨hkn, hne⟩ := Classical.not_imp.1 hk
    have : (List.range n).countP (itR n K r i) < (List.range n).countP (itR n K (r + 1) i) := by
     refine countP_lt _ (fun x _ h => itR_mono h) ⟨k, List.mem_range.2 hkn, ?_⟩
     rcases h0 : itR n K r i k with _ | _
     ·rcases h1 : itR n K (r + 1) i k with _ | _
      ·rw [h0, h1] at hne; exact absurd rfl hne
      ·exact ⟨rfl, rfl⟩
     ·rw [h0, itR_mono h0] at hne; exact absurd rfl hne
    omega
theorem countP_full {p : Nat → Bool} : ∀ (l : List Nat), l.length ≤ l.countP p → ∀ x ∈ l, p x = true
 | [], _, x, hx => by simp at hx
 | y :: l, h, x, hx => by
  rw [List.countP_cons, List.length_cons] at h
  have hle := List.countP_le_length (p := p) (l := l)
  have hy : p y = true := by
   rcases hp : p y with _ | _
   ·rw [hp] at h; simp at h; omega
   ·rfl
  rcases List.mem_cons.1 hx with rfl | hx
  ·exact hy
  ·rw [hy] at h; simp at h; exact countP_full l (by omega) x hx
theorem itR_stable (n : Nat) (K : Rl) (i : Nat) : ∀ k, k < n → itR n K (n + 1) i k = itR n K n i k := by
 rcases itR_grows n K i n with h | h
 ·exact h
 ·intro k hk
  have := countP_full (List.range n) (by simpa using h) k (List.mem_range.2 hk)
  rw [this, itR_mono this]
theorem plusR_iff {n : Nat} {K : Rl} {i j : Nat} (hj : j < n) : plusR n K i j = true ↔ TC n K i j := by
 constructor
 ·exact itR_tc n
 ·intro h
  induction h with
  | one h =>
   have : ∀ r, itR n K r i _ = true := fun r => by
    induction r with
    | zero => exact h
    | succ r ih => exact itR_mono ih
   exact this n
  | more h1 hk h2 ih =>
   have := ih hk
   show itR n K n _ _ = true
   rw [← itR_stable n K _ _ hj]
   exact orR_iff.2 (.inr (behR_iff.2 ⟨_, hk, this, h2⟩))
theorem TC.cons {n : Nat} {K : Rl} {i k j : Nat} (h1 : K i k = true) (hk : k < n) (h2 : TC n K k j) : TC n K i j := by
 induction h2 with
 | one h => exact .more (.one h1) hk h
 | more _ hm h ih => exact .more ih hm h
theorem TC.first {n : Nat} {K : Rl} {i j : Nat} (h : TC n K i j) : K i j = true ∨ ∃ k, k < n ∧ K i k = true ∧ TC n K k j := by
 induction h with
 | one h => exact .inl h
 | more h1 hk h ih =>
  right
  rcases ih with h3 | ⟨m, hm, h3, h4⟩
  ·exact ⟨_, hk, h3, .one h⟩
  ·exact ⟨m, hm, h3, .more h4 hk h⟩
theorem TC.congr {n : Nat} {K L : Rl} {i j : Nat} (h : TC n K i j) (hi : i < n) (hj : j < n) (hL : ∀ a b, a < n → b < n → K a b = L a b) : TC n L i j := by
 induction h with
 | one h => exact .one (by rw [← hL _ _ hi hj]; exact h)
 | more _ hk h ih => exact .more (ih hk) hk (by rw [← hL _ _ hk hj]; exact h)
def Rep (n : Nat) (f : Nat → Nat) (R : Rl) : Prop := ∀ i, i < n → ∀ j, (f i).testBit j = (decide (j < n) && R i j)
def orF (f g : Nat → Nat) : Nat → Nat := fun v => f v ||| g v
def idF : Nat → Nat := fun v => 2 ^ v
def thenTo (f g : Nat → Nat) (v : Nat) : Nat → Nat
 | 0 => 0
 | m + 1 => if (f v).testBit m = true then thenTo f g v m ||| g m else thenTo f g v m
def thenF (f g : Nat → Nat) : Nat → Nat := fun v => thenTo f g v 13
theorem thenTo_bit (f g : Nat → Nat) (v j : Nat) : ∀ m, (thenTo f g v m).testBit j = true ↔ ∃ k, k < m ∧ (f v).testBit k = true ∧ (g k).testBit j = true
 | 0 => by simp [thenTo]
 | m + 1 => by
  have ih := thenTo_bit f g v j m
  unfold thenTo
  constructor
  ·intro h
   split at h
   ·rename_i hm
    rw [Nat.testBit_or, Bool.or_eq_true] at h
    rcases h with h | h
    ·obtain ⟨k, hk, h1⟩ := ih.1 h; exact ⟨k, by omega, h1⟩
    ·exact ⟨m, by omega, hm, h⟩
   ·obtain ⟨k, hk, h1⟩ := ih.1 h; exact ⟨k, by omega, h1⟩
  ·rintro ⟨k, hk, h1, h2⟩
   by_cases e : k = m
   ·subst e; rw [if_pos h1, Nat.testBit_or, h2, Bool.or_true]
   ·have := ih.2 ⟨k, by omega, h1, h2⟩
    split
    ·rw [Nat.testBit_or, this, Bool.true_or]
    ·exact this
theorem Rep.or {n : Nat} {f g : Nat → Nat} {A B : Rl} (h : Rep n f A) (h' : Rep n g B) : Rep n (orF f g) (orR A B) := by
 intro i hi j
 show (f i ||| g i).testBit j = _
 rw [Nat.testBit_or, h i hi, h' i hi, orR]
 cases decide (j < n) <;> simp
theorem Rep.id (n : Nat) : Rep n idF idR := by
 intro i hi j
 show (2 ^ i).testBit j = _
 rw [Nat.testBit_two_pow, idR]
 by_cases e : i = j
 ·subst e; simp [hi]
 ·simp [e]
theorem Rep.none (n : Nat) : Rep n (fun _ => 0) noR := by
 intro i hi j; simp [noR]
theorem Rep.congr {n : Nat} {f : Nat → Nat} {A B : Rl} (h : Rep n f A) (e : ∀ i j, i < n → j < n → A i j = B i j) : Rep n f B := by
 intro i hi j
 rw [h i hi]
 by_cases hj : j < n
 ·rw [e i j hi hj]
 ·simp [hj]
structure Again (n : Nat) (K : Rl) (f : Nat → Nat) : Prop where
 low : ∀ i, i < n → (f i).testBit i = true
 up : ∀ i, i < n → ∀ j, (f i).testBit j = true → j < n ∧ starR n K i j = true
theorem Again.start (n : Nat) (K : Rl) : Again n K idF := by
 refine ⟨fun i _ => by simp [idF], fun i hi j h => ?_⟩
 simp [idF, Nat.testBit_two_pow] at h
 subst h
 exact ⟨hi, orR_iff.2 (.inr (idR_iff.2 rfl))⟩
theorem Again.step {n : Nat} {K : Rl} {f g : Nat → Nat} (h : Again n K f) (hg : Rep n g K) : Again n K (orF f (thenF f g)) := by
 refine ⟨fun i hi => by show (f i ||| _).testBit i = true; rw [Nat.testBit_or, h.low i hi, Bool.true_or], fun i hi j hj => ?_⟩
 have hj2 : (f i ||| thenF f g i).testBit j = true := hj
 rw [Nat.testBit_or, Bool.or_eq_true] at hj2
 rcases hj2 with h1 | h1
 ·exact h.up i hi j h1
 ·rw [thenF, thenTo_bit] at h1
  obtain ⟨k, _, h2, h3⟩ := h1
  obtain ⟨hk, h4⟩ := h.up i hi k h2
  rw [hg k hk, Bool.and_eq_true, decide_eq_true_eq] at h3
  refine ⟨h3.1, orR_iff.2 (.inl ((plusR_iff h3.1).2 ?_))⟩
  rcases orR_iff.1 h4 with h5 | h5
  ·exact .more ((plusR_iff hk).1 h5) hk h3.2
  ·obtain rfl := idR_iff.1 h5; exact .one h3.2
def sumF (f : Nat → Nat) : Nat := ((List.range 13).map f).sum
end Go.Proofs.YtbepmeipjdpipaaGreat

namespace Go.Proofs.YtbepmeipjdpipaaGreat
open Go.RowKit
theorem cell_one_new' (w : World) (x : Value) (T : TypeId) : ∀ j u, [x][j]? = some u → (w.alloc (.cells #[x] T)).cell? ((⟨w.heap.size, 0, none⟩ : Addr).add j) = some u := by
 intro j u hu
 cases j with
 | zero =>
  simp at hu; subst hu
  rw [add_none]
  exact (blk_one w _ rfl x T).cell (i := 0) (by omega)
 | succ j => simp at hu
theorem take_snocI (l : List Int) {k : Nat} (h : k < l.length) : l.take (k + 1) = l.take k ++ [l.getD k 0] := by
 rw [List.take_add_one]; simp [List.getD, h]
theorem rowCells_snoc (l : List Int) (x : Int) : rowCells (l ++ [x]) = rowCells l ++ [.int .i64 x] := by simp [rowCells]
theorem RowIn.num {lo hi i : Nat} {w : World} {a : Option Addr} {l : List Int} (h : RowIn lo hi w a l) (hi' : i < l.length) : ∃ b o, a = some ⟨b, o, none⟩ ∧ w.cell? ⟨b, o + i, none⟩ = some (.int .i64 (l.getD i 0)) := by
 rcases h with rfl | ⟨b, o, e, _, _, h3⟩
 ·simp at hi'
 ·exact ⟨b, o, e, h3 i hi'⟩
end Go.Proofs.YtbepmeipjdpipaaGreat

namespace Go.Proofs.YtbepmeipjdpipaaGreat
open Go.RowKit
def isL (x : Int) : Bool := decide (97 ≤ x) && decide (x ≤ 100)
set_option maxHeartbeats 1000000 in
theorem isLabel_any (x : Int) (r : Bool) (w : World) (hr : r = isL x) : Calls Tryz.prog 88 #[.int .u8 x] w fun e w' => e = .returned (.bool r) ∧ w = w' := by
 by_cases h0 : 97 ≤ x
 ·have hd : decide (x ≥ 97) = true := by simpa using h0
  have hr2 : decide (x ≤ 100) = r := by rw [hr]; unfold isL; simp [h0]
  clear hr
  go_enter Tryz.func88, Tryz.ntmps88
  go_wp2
  go_ret
  exact ⟨rfl, rfl⟩
 ·have hd : decide (x ≥ 97) = false := by simp; omega
  have hr2 : r = false := by rw [hr]; unfold isL; simp [h0]
  subst hr2
  clear hr
  go_enter Tryz.func88, Tryz.ntmps88
  go_wp2
  go_ret
  exact ⟨rfl, rfl⟩
def formOk (x : Pc) : Bool :=
 if x.1 = 1 then isL x.2.1 && decide (x.2.2.length = 0)
 else if x.1 = 2 ∨ x.1 = 3 then decide (x.2.1 = 0) && decide (2 ≤ x.2.2.length)
 else if x.1 = 4 ∨ x.1 = 5 ∨ x.1 = 6 then decide (x.2.1 = 0) && decide (x.2.2.length = 1)
 else false
def kidsOk (i : Nat) (ks : List Int) : Bool := ks.all fun k => decide (0 ≤ k) && decide (k < (i : Int))
def okToP (l : List Pc) : Nat → Bool
 | 0 => true
 | k + 1 => okToP l k && (formOk (pat l k) && kidsOk k (pat l k).2.2)
def okP (l : List Pc) : Bool := decide (1 ≤ l.length) && decide (l.length ≤ 60) && okToP l l.length
theorem okToP_no {l : List Pc} {k : Nat} (h : okToP l k = false) : ∀ n, k ≤ n → okToP l n = false := by
 intro n hn
 induction n with
 | zero => obtain rfl : k = 0 := by omega
           exact h
 | succ n ih =>
  rcases Nat.lt_or_ge k (n + 1) with h1 | h1
  ·simp only [okToP]; rw [ih (by omega)]; rfl
  ·obtain rfl : k = n + 1 := by omega
   exact h
theorem okP_no {l : List Pc} {k : Nat} (hk : k < l.length) (h : (formOk (pat l k) && kidsOk k (pat l k).2.2) = false) : okP l = false := by
 unfold okP
 rw [okToP_no (k := k + 1) (by simp only [okToP]; rw [h, Bool.and_false]) l.length (by omega), Bool.and_false]
theorem kidsOk_no {i : Nat} {ks : List Int} {j : Nat} (hj : j < ks.length) (h : (decide (0 ≤ ks.getD j 0) && decide (ks.getD j 0 < (i : Int))) = false) : kidsOk i ks = false := by
 rw [Bool.eq_false_iff]
 intro h1
 have := List.all_eq_true.1 h1 (ks.getD j 0) (by simp [List.getD, hj])
 rw [this] at h
 cases h
theorem kidsOk_yes {i : Nat} {ks : List Int} (h : ∀ j, j < ks.length → (decide (0 ≤ ks.getD j 0) && decide (ks.getD j 0 < (i : Int))) = true) : kidsOk i ks = true := by
 refine List.all_eq_true.2 fun x hx => ?_
 obtain ⟨j, hj, rfl⟩ := List.getElem_of_mem hx
 have := h j hj
 simpa [List.getD, hj] using this
theorem formOk_cases {x y : Int} {ks : List Int} (h : formOk (x, y, ks) = true) : (x = 1 ∧ isL y = true ∧ ks.length = 0) ∨ (x = 2 ∧ y = 0 ∧ 2 ≤ ks.length) ∨ (x = 3 ∧ y = 0 ∧ 2 ≤ ks.length) ∨ (x = 4 ∧ y = 0 ∧ ks.length = 1) ∨ (x = 5 ∧ y = 0 ∧ ks.length = 1) ∨ (x = 6 ∧ y = 0 ∧ ks.length = 1) := by
 unfold formOk at h
 dsimp only at h
 by_cases h1 : x = 1
 ·rw [if_pos h1, Bool.and_eq_true, decide_eq_true_eq] at h; exact .inl ⟨h1, h⟩
 ·rw [if_neg h1] at h
  by_cases h2 : x = 2 ∨ x = 3
  ·rw [if_pos h2, Bool.and_eq_true, decide_eq_true_eq, decide_eq_true_eq] at h
   rcases h2 with h2 | h2
   ·exact .inr (.inl ⟨h2, h⟩)
   ·exact .inr (.inr (.inl ⟨h2, h⟩))
  ·rw [if_neg h2] at h
   by_cases h3 : x = 4 ∨ x = 5 ∨ x = 6
   ·rw [if_pos h3, Bool.and_eq_true, decide_eq_true_eq, decide_eq_true_eq] at h
    rcases h3 with h3 | h3 | h3
    ·exact .inr (.inr (.inr (.inl ⟨h3, h⟩)))
    ·exact .inr (.inr (.inr (.inr (.inl ⟨h3, h⟩))))
    ·exact .inr (.inr (.inr (.inr (.inr ⟨h3, h⟩))))
   ·rw [if_neg h3] at h; cases h
theorem formOk_not {x y : Int} {ks : List Int} (h : formOk (x, y, ks) = false) : (x = 1 ∧ (isL y = false ∨ ks.length ≠ 0)) ∨ ((x = 2 ∨ x = 3) ∧ (y ≠ 0 ∨ ks.length < 2)) ∨ ((x = 4 ∨ x = 5 ∨ x = 6) ∧ (y ≠ 0 ∨ ks.length ≠ 1)) ∨ (x ≠ 1 ∧ x ≠ 2 ∧ x ≠ 3 ∧ x ≠ 4 ∧ x ≠ 5 ∧ x ≠ 6) := by
 unfold formOk at h
 dsimp only at h
 by_cases h1 : x = 1
 ·rw [if_pos h1, Bool.and_eq_false_iff, decide_eq_false_iff_not] at h; exact .inl ⟨h1, h⟩
 ·rw [if_neg h1] at h
  by_cases h2 : x = 2 ∨ x = 3
  ·rw [if_pos h2, Bool.and_eq_false_iff, decide_eq_false_iff_not, decide_eq_false_iff_not] at h
   exact .inr (.inl ⟨h2, h.imp id (fun h => by omega)⟩)
  ·rw [if_neg h2] at h
   by_cases h3 : x = 4 ∨ x = 5 ∨ x = 6
   ·rw [if_pos h3, Bool.and_eq_false_iff, decide_eq_false_iff_not, decide_eq_false_iff_not] at h
    exact .inr (.inr (.inl ⟨h3, h⟩))
   ·exact .inr (.inr (.inr ⟨h1, fun e => h2 (.inl e), fun e => h2 (.inr e), fun e => h3 (.inl e), fun e => h3 (.inr (.inl e)), fun e => h3 (.inr (.inr e))⟩))
theorem isL_yes {y : Int} (h : isL y = true) : 97 ≤ y ∧ y ≤ 100 := by
 unfold isL at h; rw [Bool.and_eq_true, decide_eq_true_eq, decide_eq_true_eq] at h; exact h
theorem isL_no {y : Int} (h : isL y = false) : y < 97 ∨ 100 < y := by
 unfold isL at h; rw [Bool.and_eq_false_iff, decide_eq_false_iff_not, decide_eq_false_iff_not] at h; omega
set_option maxHeartbeats 8000000 in
set_option maxRecDepth 100000 in
theorem specPathOk_any (lo hi : Nat) (a : Option Addr) (n cap : Nat) (l : List Pc) (r : Bool) (w : World) (ha : PathIn lo hi w a l) (hh : hi ≤ w.heap.size) (hn : l.length = n) (hm : n ≤ 1048576) (hq : ∀ i, i < n → (pat l i).2.2.length ≤ 1048576) (hr : r = okP l) :
  Calls Tryz.prog 57 #[pv a n cap] w fun e w' => e = .returned (.bool r) ∧ Hid (Below w.heap.size w w') := by
 have HN : Hid (l.length = n) := hn
 have HA : Hid (PathIn lo hi w a l) := ha
 have HH : Hid (hi ≤ w.heap.size) := hh
 have HR : Hid (r = okP l) := hr
 have HQ : Hid (∀ i, i < n → (pat l i).2.2.length ≤ 1048576) := hq
 clear ha hh hn hr hq
 obtain ⟨B, HB⟩ : ∃ B, Hid (B = w.heap.size) := ⟨_, rfl⟩
 unfold pv
 go_enter Tryz.func57, Tryz.ntmps57
 go_wp2
 rw [← HB.out]
 go_loopw [3] (fun i wr => ∃ k : Nat, i = .int .i64 k ∧ k ≤ n ∧ Hid (okToP l k = true) ∧ Hid (Below w.heap.size w wr) ∧ Hid (Blk wr B 1 (fun _ => .slice a n cap))) (fun i _ => n - (intOf i).toNat)
 case atStart => exact ⟨0, rfl, by omega, rfl, below1 _ _, blk_one w B HB.out _ _⟩
 case round =>
  obtain ⟨k, rfl, hk, HE, HL, HX⟩ := hrel
  have c0 := HX.out.cell (i := 0) (by omega)
  by_cases hlt : k < n
  ·have hlt1 : (k : Int) < (n : Int) := by omega
   have hlt0 : (0 : Int) ≤ (k : Int) := by omega
   have HER : Hid (PathIn lo hi wr a l) := HA.out.below HL.out HH.out
   obtain ⟨b, o, rfl, _, _, hx⟩ := HER.out.piece (k := k) (by rw [HN.out]; exact hlt)
   obtain ⟨z, HZ⟩ : ∃ z : Pc, Hid (z = pat l k) := ⟨_, rfl⟩
   have HQK : Hid ((pat l k).2.2.length ≤ 1048576) := HQ.out k hlt
   have HNO : Hid ((formOk (pat l k) && kidsOk k (pat l k).2.2) = false → r = false) := fun h => by rw [HR.out]; exact okP_no (by rw [HN.out]; exact hlt) h
   have HYES : Hid ((formOk (pat l k) && kidsOk k (pat l k).2.2) = true → okToP l (k + 1) = true) := fun h => by simp only [okToP]; rw [HE.out, h]; rfl
   rw [← HZ.out] at hx HQK HNO HYES
   obtain ⟨x, y, ks⟩ := z
   obtain ⟨p0, p1, ra, rc, p2, hrow⟩ := hx
   dsimp only at p0 p1 p2 hrow HQK HNO HYES
   obtain ⟨q, HKL⟩ : ∃ q, Hid (ks.length = q) := ⟨_, rfl⟩
   rw [HKL.out] at p2 HQK
   have hqk : q ≤ 1048576 := HQK.out
   obtain ⟨E, HEE⟩ : ∃ E, Hid (E = wr.heap.size) := ⟨_, rfl⟩
   obtain ⟨W, HW⟩ : ∃ W, Hid (W = wr.alloc (.cells #[.int .i64 x, .int .u8 y, .slice ra q rc] 127)) := ⟨_, rfl⟩
   have HWB : Hid (Below wr.heap.size wr W) := by rw [HW.out]; exact below1 _ _
   obtain ⟨q0, q1, q2⟩ : W.cell? ⟨E, 0, none⟩ = some (.int .i64 x) ∧ W.cell? ⟨E, 1, none⟩ = some (.int .u8 y) ∧ W.cell? ⟨E, 2, none⟩ = some (.slice ra q rc) := by rw [HW.out]; exact box_cells wr _ _ _ 127 _ HEE.out
   have HRW : Hid (RowIn lo hi W ra ks) := hrow.below HWB.out (Nat.le_trans HH.out HL.out.size)
   have HLW : Hid (Below w.heap.size w W) := HL.out.trans (HWB.out.mono HL.out.size)
   have HXW : Hid (Blk W B 1 (fun _ => .slice (some ⟨b, o, none⟩) n cap)) := HX.out.of_block (HWB.out.block _ HX.out.lt)
   clear hrow HWB
   go_upto_block 2 with fail
   rw [← HEE.out, ← HW.out]
   clear p0 p1 p2 c0 HER HX HL HA HQK
   by_cases hf : formOk (x, y, ks) = true
   ·go_cut [] (fun wc => wc = W)
    case first =>
     rcases formOk_cases hf with ⟨rfl, h1, h2⟩ | ⟨rfl, rfl, h2⟩ | ⟨rfl, rfl, h2⟩ | ⟨rfl, rfl, h2⟩ | ⟨rfl, rfl, h2⟩ | ⟨rfl, rfl, h2⟩
     ·obtain ⟨h3, h4⟩ := isL_yes h1
      obtain rfl : q = 0 := by have := HKL.out; omega
      have d1 : decide (y < 97) = false := by simp; omega
      have d2 : decide ((100 : Int) < y) = false := by simp; omega
      go_wp2_with fail
      go_meet
      case rel => rfl
     ·have d1 : decide ((q : Int) < 2) = false := by have := HKL.out; simp; omega
      go_wp2_with fail
      go_meet
      case rel => rfl
     ·have d1 : decide ((q : Int) < 2) = false := by have := HKL.out; simp; omega
      go_wp2_with fail
      go_meet
      case rel => rfl
     ·obtain rfl : q = 1 := by have := HKL.out; omega
      go_wp2_with fail
      go_meet
      case rel => rfl
     ·obtain rfl : q = 1 := by have := HKL.out; omega
      go_wp2_with fail
      go_meet
      case rel => rfl
     ·obtain rfl : q = 1 := by have := HKL.out; omega
      go_wp2_with fail
      go_meet
      case rel => rfl
    case rest =>
     subst hcut
     have HNO2 : Hid (kidsOk k ks = false → r = false) := fun h => HNO.out (by rw [hf, h]; rfl)
     have HYES2 : Hid (kidsOk k ks = true → okToP l (k + 1) = true) := fun h => HYES.out (by rw [hf, h]; rfl)
     clear HNO HYES hf
     go_wp2
     go_loop [6] (fun j => ∃ m : Nat, j = .int .i64 m ∧ m ≤ q ∧ Hid (∀ t, t < m → (decide (0 ≤ ks.getD t 0) && decide (ks.getD t 0 < (k : Int))) = true)) (fun j => q - (intOf j).toNat)
     case atStart => exact ⟨0, rfl, by omega, fun t ht => absurd ht (by omega)⟩
     case round =>
      obtain ⟨m, rfl, hm1, HP⟩ := hrel
      by_cases hmq : m < q
      ·have hmq1 : (m : Int) < (q : Int) := by omega
       have hmq0 : (0 : Int) ≤ (m : Int) := by omega
       obtain ⟨b2, o2, rfl, hc⟩ := HRW.out.num (i := m) (by rw [HKL.out]; exact hmq)
       obtain ⟨v, HV⟩ : ∃ v, Hid (v = ks.getD m 0) := ⟨_, rfl⟩
       rw [← HV.out] at hc
       obtain ⟨u, HU⟩ : ∃ u, Hid (u = (decide (0 ≤ v) && decide (v ≤ (k : Int) - 1))) := ⟨_, rfl⟩
       have HUU : Hid (u = (decide (0 ≤ v) && decide (v < (k : Int)))) := by
        show _ = _
        rw [HU.out]
        have : decide (v ≤ (k : Int) - 1) = decide (v < (k : Int)) := by rw [decide_eq_decide]; omega
        rw [this]
       go_wp2_with fail
       refine (l01In_any v 0 ((k : Int) - 1) _).mono ?_
       rintro e w1 ⟨rfl, rfl⟩
       rw [← HU.out]
       rcases Bool.eq_false_or_eq_true u with hu | hu
       ·subst hu
        go_wp2
        go_roundw
        case rel =>
         refine ⟨m + 1, by go_num, by omega, fun t ht => ?_⟩
         by_cases e : t = m
         ·subst e; rw [← HV.out]; exact HUU.out.symm
         ·exact HP.out t (by omega)
        case measure => simp [intOf]; omega
       ·subst hu
        go_wp2
        go_ret
        have : r = false := HNO2.out (kidsOk_no (j := m) (by rw [HKL.out]; exact hmq) (by rw [← HV.out]; exact HUU.out.symm))
        exact ⟨by rw [this]; rfl, HLW⟩
      ·obtain rfl : m = q := by omega
       go_wp2
       go_roundw
       case rel => exact ⟨k + 1, by go_num, by omega, HYES2.out (kidsOk_yes (fun j hj => HP.out j (by rw [← HKL.out]; exact hj))), HLW, HXW⟩
       case measure => simp [intOf]; omega
   ·have hff : formOk (x, y, ks) = false := by simpa using hf
    have HF : Hid (r = false) := HNO.out (by rw [hff]; rfl)
    rcases formOk_not hff with ⟨rfl, h⟩ | ⟨h1, h2⟩ | ⟨h1, h2⟩ | ⟨h1, h2, h3, h4, h5, h6⟩
    ·by_cases h1 : isL y = true
     ·obtain ⟨h3, h4⟩ := isL_yes h1
      have d1 : decide (y < 97) = false := by simp; omega
      have d2 : decide ((100 : Int) < y) = false := by simp; omega
      have d3 : ¬ (q : Int) = 0 := by have := HKL.out; rcases h with h | h; rw [h1] at h; cases h; omega
      have d4 : ¬ q = 0 := by omega
      go_wp2
      go_ret
      exact ⟨by rw [HF.out]; rfl, HLW⟩
     ·rcases isL_no (by simpa using h1) with h3 | h3
      ·have d1 : decide (y < 97) = true := by simp; omega
       go_wp2
       go_ret
       exact ⟨by rw [HF.out]; rfl, HLW⟩
      ·have d1 : decide (y < 97) = false := by simp; omega
       have d2 : decide ((100 : Int) < y) = true := by simp; omega
       go_wp2
       go_ret
       exact ⟨by rw [HF.out]; rfl, HLW⟩
    ·by_cases hy : y = 0
     ·subst hy
      have d1 : decide ((q : Int) < 2) = true := by have := HKL.out; rcases h2 with h | h; exact absurd rfl h; simp; omega
      rcases h1 with rfl | rfl
      ·go_wp2
       go_ret
       exact ⟨by rw [HF.out]; rfl, HLW⟩
      ·go_wp2
       go_ret
       exact ⟨by rw [HF.out]; rfl, HLW⟩
     ·rcases h1 with rfl | rfl
      ·go_wp2
       go_ret
       exact ⟨by rw [HF.out]; rfl, HLW⟩
      ·go_wp2
       go_ret
       exact ⟨by rw [HF.out]; rfl, HLW⟩
    ·by_cases hy : y = 0
     ·subst hy
      have d3 : ¬ (q : Int) = 1 := by have := HKL.out; rcases h2 with h | h; exact absurd rfl h; omega
      have d4 : ¬ q = 1 := by omega
      rcases h1 with rfl | rfl | rfl
      ·go_wp2
       go_ret
       exact ⟨by rw [HF.out]; rfl, HLW⟩
      ·go_wp2
       go_ret
       exact ⟨by rw [HF.out]; rfl, HLW⟩
      ·go_wp2
       go_ret
       exact ⟨by rw [HF.out]; rfl, HLW⟩
     ·rcases h1 with rfl | rfl | rfl
      ·go_wp2
       go_ret
       exact ⟨by rw [HF.out]; rfl, HLW⟩
      ·go_wp2
       go_ret
       exact ⟨by rw [HF.out]; rfl, HLW⟩
      ·go_wp2
       go_ret
       exact ⟨by rw [HF.out]; rfl, HLW⟩
    ·go_wp2
     go_ret
     exact ⟨by rw [HF.out]; rfl, HLW⟩
  ·obtain rfl : k = n := by omega
   have HRR : Hid (r = (decide ((1 : Int) ≤ (k : Int)) && decide ((k : Int) ≤ 60))) := by
    show _ = _
    rw [HR.out]; unfold okP; rw [HN.out, HE.out, Bool.and_true]
    have e1 : decide (1 ≤ k) = decide ((1 : Int) ≤ (k : Int)) := by rw [decide_eq_decide]; omega
    have e2 : decide (k ≤ 60) = decide ((k : Int) ≤ 60) := by rw [decide_eq_decide]; omega
    rw [e1, e2]
   go_wp2_with fail
   refine (l01In_any (k : Int) 1 60 _).mono ?_
   rintro e w1 ⟨rfl, rfl⟩
   rw [← HRR.out]
   go_wp2
   go_ret
   exact ⟨rfl, HL⟩
end Go.Proofs.YtbepmeipjdpipaaGreat

namespace Go.Proofs.YtbepmeipjdpipaaGreat
open Go.RowKit
def bt (s : ByteArray) (i : Nat) : Nat := if h : i < s.size then s[i].toNat else 0
theorem bt_lt {s : ByteArray} {i : Nat} (h : i < s.size) : bt s i = s[i].toNat := by simp [bt, h]
theorem bt_end {s : ByteArray} {i : Nat} (h : ¬ i < s.size) : bt s i = 0 := by simp [bt, h]
theorem bt_256 (s : ByteArray) (i : Nat) : bt s i < 256 := by
 unfold bt
 split
 ·exact UInt8.toNat_lt _
 ·omega
theorem bt_in {s : ByteArray} {i : Nat} (h : bt s i ≠ 0) : i < s.size := by
 rcases Nat.lt_or_ge i s.size with h1 | h1
 ·exact h1
 ·exact absurd (bt_end (by omega)) h
def isLab (b : Nat) : Bool := isL (b : Int)
def sgn (b : Nat) : Nat := if b = 42 then 4 else if b = 43 then 5 else if b = 63 then 6 else 0
abbrev St := Nat × List Pc × Int
def signP (c : Nat → Nat) : Nat → Nat → List Pc → Int → St
 | 0, a, l, k => (a, l, k)
 | f + 1, a, l, k => if sgn (c a) = 0 then (a, l, k) else signP c f (a + 1) (l ++ [((sgn (c a) : Int), 0, [k])]) (l.length : Int)
def brk (c : Nat → Nat) : Option St → Option St
 | none => none
 | some x => if c x.1 = 41 then some (x.1 + 1, x.2.1, x.2.2) else none
def sglP (c : Nat → Nat) (A : Nat → List Pc → Option St) (a : Nat) (l : List Pc) : Option St :=
 if isLab (c a) = true then some (a + 1, l ++ [(1, (c a : Int), [])], (l.length : Int))
 else if c a = 40 then brk c (A (a + 1) l)
 else none
def oneP (c : Nat → Nat) (N : Nat) (A : Nat → List Pc → Option St) (a : Nat) (l : List Pc) : Option St :=
 (sglP c A a l).map fun x => signP c (N + 1) x.1 x.2.1 x.2.2
def rowL (O : Nat → List Pc → Option St) (c : Nat → Nat) : Nat → Nat → List Pc → List Int → Option (Nat × List Pc × List Int)
 | 0, a, l, ks => some (a, l, ks)
 | f + 1, a, l, ks =>
  if (isLab (c a) || decide (c a = 40)) = true then
   match O a l with
   | none => none
   | some x => rowL O c f x.1 x.2.1 (ks ++ [x.2.2])
  else some (a, l, ks)
def closeP (op : Int) (x : Nat × List Pc × List Int) : St := if x.2.2.length = 1 then (x.1, x.2.1, x.2.2.getD 0 0) else (x.1, x.2.1 ++ [(op, 0, x.2.2)], (x.2.1.length : Int))
def rowK (O : Nat → List Pc → Option St) (c : Nat → Nat) (N : Nat) : Option St → Option St
 | none => none
 | some x => (rowL O c (N + 1) x.1 x.2.1 [x.2.2]).map (closeP 2)
def rowP (c : Nat → Nat) (N : Nat) (A : Nat → List Pc → Option St) (a : Nat) (l : List Pc) : Option St := rowK (oneP c N A) c N (oneP c N A a l)
def altL (R : Nat → List Pc → Option St) (c : Nat → Nat) : Nat → Nat → List Pc → List Int → Option (Nat × List Pc × List Int)
 | 0, a, l, ks => some (a, l, ks)
 | f + 1, a, l, ks =>
  if c a = 124 then
   match R (a + 1) l with
   | none => none
   | some x => altL R c f x.1 x.2.1 (ks ++ [x.2.2])
  else some (a, l, ks)
def altK (R : Nat → List Pc → Option St) (c : Nat → Nat) (N : Nat) : Option St → Option St
 | none => none
 | some x => (altL R c (N + 1) x.1 x.2.1 [x.2.2]).map (closeP 3)
def altP (c : Nat → Nat) (N : Nat) : Nat → Nat → List Pc → Option St
 | 0, _, _ => none
 | d + 1, a, l => altK (rowP c N (altP c N d)) c N (rowP c N (altP c N d) a l)
def readP (s : ByteArray) : Option (List Pc) :=
 if 20 < s.size then none else
  match altP (bt s) s.size (s.size + 1) 0 [] with
  | none => none
  | some x => if x.1 < s.size then none else if okP x.2.1 = true then some x.2.1 else none
theorem signP_end {c : Nat → Nat} {f a : Nat} {l : List Pc} {k : Int} (h : sgn (c a) = 0) : signP c f a l k = (a, l, k) := by
 match f with
 | 0 => rfl
 | f + 1 => unfold signP; rw [if_pos h]
theorem signP_go {c : Nat → Nat} {f a : Nat} {l : List Pc} {k : Int} (h : sgn (c a) ≠ 0) : signP c (f + 1) a l k = signP c f (a + 1) (l ++ [((sgn (c a) : Int), 0, [k])]) (l.length : Int) := by
 conv => lhs; unfold signP
 rw [if_neg h]
theorem rowL_end {O : Nat → List Pc → Option St} {c : Nat → Nat} {f a : Nat} {l : List Pc} {ks : List Int} (h : (isLab (c a) || decide (c a = 40)) = false) : rowL O c f a l ks = some (a, l, ks) := by
 match f with
 | 0 => rfl
 | f + 1 => unfold rowL; rw [if_neg (by rw [h]; simp)]
theorem rowL_none {O : Nat → List Pc → Option St} {c : Nat → Nat} {f a : Nat} {l : List Pc} {ks : List Int} (h : (isLab (c a) || decide (c a = 40)) = true) (ho : O a l = none) : rowL O c (f + 1) a l ks = none := by
 unfold rowL; rw [if_pos h, ho]
theorem rowL_go {O : Nat → List Pc → Option St} {c : Nat → Nat} {f a : Nat} {l : List Pc} {ks : List Int} {x : St} (h : (isLab (c a) || decide (c a = 40)) = true) (ho : O a l = some x) : rowL O c (f + 1) a l ks = rowL O c f x.1 x.2.1 (ks ++ [x.2.2]) := by
 conv => lhs; unfold rowL
 rw [if_pos h, ho]
theorem altL_end {R : Nat → List Pc → Option St} {c : Nat → Nat} {f a : Nat} {l : List Pc} {ks : List Int} (h : c a ≠ 124) : altL R c f a l ks = some (a, l, ks) := by
 match f with
 | 0 => rfl
 | f + 1 => unfold altL; rw [if_neg h]
theorem altL_none {R : Nat → List Pc → Option St} {c : Nat → Nat} {f a : Nat} {l : List Pc} {ks : List Int} (h : c a = 124) (ho : R (a + 1) l = none) : altL R c (f + 1) a l ks = none := by
 unfold altL; rw [if_pos h, ho]
theorem altL_go {R : Nat → List Pc → Option St} {c : Nat → Nat} {f a : Nat} {l : List Pc} {ks : List Int} {x : St} (h : c a = 124) (ho : R (a + 1) l = some x) : altL R c (f + 1) a l ks = altL R c f x.1 x.2.1 (ks ++ [x.2.2]) := by
 conv => lhs; unfold altL
 rw [if_pos h, ho]
theorem isLab_0 {b : Nat} (h : isLab b = true) : b ≠ 0 ∧ b ≠ 40 := by
 unfold isLab isL at h
 simp at h
 omega
theorem sgn_cases (b : Nat) : sgn b = 0 ∨ ∃ g : Nat, sgn b = 4 + g ∧ g ≤ 2 := by
 unfold sgn
 split
 ·exact .inr ⟨0, rfl, by omega⟩
 ·split
  ·exact .inr ⟨1, rfl, by omega⟩
  ·split
   ·exact .inr ⟨2, rfl, by omega⟩
   ·exact .inl rfl
theorem idx_sgn_all : ∀ x : Fin 256, Lib.indexByte [42, 43, 63] x.val.toUInt8 = if sgn x.val = 0 then -1 else (sgn x.val : Int) - 4 := by decide +kernel
theorem idx_sgn {x : Nat} (h : x < 256) : Lib.indexByte [42, 43, 63] x.toUInt8 = if sgn x = 0 then -1 else (sgn x : Int) - 4 := idx_sgn_all ⟨x, h⟩
theorem sgn_0 {b : Nat} (h : sgn b ≠ 0) : b ≠ 0 := by
 rintro rfl; exact h rfl
end Go.Proofs.YtbepmeipjdpipaaGreat

namespace Go.Proofs.YtbepmeipjdpipaaGreat
open Go.RowKit
def KB (l : List Pc) : Prop := ∀ x ∈ l, x.2.2.length ≤ 100
theorem KB.nil : KB [] := fun x hx => by simp at hx
theorem KB.snoc {l : List Pc} {x : Pc} (h : KB l) (hx : x.2.2.length ≤ 100) : KB (l ++ [x]) := by
 intro y hy
 rcases List.mem_append.1 hy with h1 | h1
 ·exact h y h1
 ·rw [List.mem_singleton.1 h1]; exact hx
theorem KB.pat {l : List Pc} (h : KB l) {i : Nat} (hi : i < l.length) : (pat l i).2.2.length ≤ 100 := by
 rw [pat_get hi]
 exact h _ (List.getElem_mem hi)
theorem KB.kids {l : List Pc} (h : KB l) : ∀ k, k ≤ l.length → kidsLen l k ≤ k * 100
 | 0, _ => by simp [kidsLen]
 | k + 1, hk => by
  have := KB.kids h k (by omega)
  have := h.pat (i := k) (by omega)
  rw [kidsLen, Nat.add_mul]; omega
theorem signP_kb (c : Nat → Nat) : ∀ (f a : Nat) (l : List Pc) (k : Int), KB l → KB (signP c f a l k).2.1
 | 0, _, _, _, h => h
 | f + 1, a, l, k, h => by
  unfold signP
  split
  ·exact h
  ·exact signP_kb c f _ _ _ (h.snoc (by simp))
def KA (A : Nat → List Pc → Option St) : Prop := ∀ a l x, KB l → A a l = some x → KB x.2.1
theorem sglP_kb {c : Nat → Nat} {A : Nat → List Pc → Option St} (hA : KA A) : KA (sglP c A) := by
 intro a l x h hx
 unfold sglP at hx
 split at hx
 ·simp only [Option.some.injEq] at hx
  subst hx
  exact h.snoc (by simp)
 ·split at hx
  ·cases e : A (a + 1) l with
   | none => rw [e] at hx; cases hx
   | some y =>
    rw [e] at hx
    have hx2 : (if c y.1 = 41 then some (y.1 + 1, y.2.1, y.2.2) else none) = some x := hx
    clear hx
    have hx := hx2
    split at hx
    ·simp only [Option.some.injEq] at hx
     subst hx
     have := hA _ _ _ h e
     exact this
    ·cases hx
  ·cases hx
theorem oneP_kb {c : Nat → Nat} {N : Nat} {A : Nat → List Pc → Option St} (hA : KA A) : KA (oneP c N A) := by
 intro a l x h hx
 unfold oneP at hx
 cases e : sglP c A a l with
 | none => rw [e] at hx; cases hx
 | some y =>
  rw [e] at hx
  simp only [Option.map_some, Option.some.injEq] at hx
  subst hx
  exact signP_kb c _ _ _ _ (sglP_kb hA _ _ _ h e)
theorem closeP_kb {op : Int} {x : Nat × List Pc × List Int} (h : KB x.2.1) (h2 : x.2.2.length ≤ 100) : KB (closeP op x).2.1 := by
 unfold closeP
 split
 ·exact h
 ·exact h.snoc h2
theorem rowL_kb {O : Nat → List Pc → Option St} {c : Nat → Nat} (hO : KA O) : ∀ (f a : Nat) (l : List Pc) (ks : List Int) (x : Nat × List Pc × List Int), KB l → rowL O c f a l ks = some x → KB x.2.1 ∧ x.2.2.length ≤ ks.length + f
 | 0, a, l, ks, x, h, hx => by
  unfold rowL at hx
  simp only [Option.some.injEq] at hx
  subst hx
  exact ⟨h, by simp⟩
 | f + 1, a, l, ks, x, h, hx => by
  unfold rowL at hx
  split at hx
  ·cases e : O a l with
   | none => rw [e] at hx; cases hx
   | some y =>
    rw [e] at hx
    obtain ⟨h1, h2⟩ := rowL_kb hO f _ _ _ x (hO _ _ _ h e) hx
    exact ⟨h1, by rw [List.length_append] at h2; simp at h2; omega⟩
  ·simp only [Option.some.injEq] at hx
   subst hx
   exact ⟨h, by simp⟩
theorem altL_kb {O : Nat → List Pc → Option St} {c : Nat → Nat} (hO : KA O) : ∀ (f a : Nat) (l : List Pc) (ks : List Int) (x : Nat × List Pc × List Int), KB l → altL O c f a l ks = some x → KB x.2.1 ∧ x.2.2.length ≤ ks.length + f
 | 0, a, l, ks, x, h, hx => by
  unfold altL at hx
  simp only [Option.some.injEq] at hx
  subst hx
  exact ⟨h, by simp⟩
 | f + 1, a, l, ks, x, h, hx => by
  unfold altL at hx
  split at hx
  ·cases e : O (a + 1) l with
   | none => rw [e] at hx; cases hx
   | some y =>
    rw [e] at hx
    obtain ⟨h1, h2⟩ := altL_kb hO f _ _ _ x (hO _ _ _ h e) hx
    exact ⟨h1, by rw [List.length_append] at h2; simp at h2; omega⟩
  ·simp only [Option.some.injEq] at hx
   subst hx
   exact ⟨h, by simp⟩
theorem rowP_kb {c : Nat → Nat} {N : Nat} (hN : N ≤ 20) {A : Nat → List Pc → Option St} (hA : KA A) : KA (rowP c N A) := by
 intro a l x h hx
 unfold rowP at hx
 cases e : oneP c N A a l with
 | none => rw [e] at hx; cases hx
 | some y =>
  rw [e] at hx
  have hx : (rowL (oneP c N A) c (N + 1) y.1 y.2.1 [y.2.2]).map (closeP 2) = some x := hx
  cases e2 : rowL (oneP c N A) c (N + 1) y.1 y.2.1 [y.2.2] with
  | none => rw [e2] at hx; cases hx
  | some z =>
   rw [e2] at hx
   simp only [Option.map_some, Option.some.injEq] at hx
   subst hx
   obtain ⟨h1, h2⟩ := rowL_kb (oneP_kb hA) _ _ _ _ z (oneP_kb hA _ _ _ h e) e2
   exact closeP_kb h1 (by simp at h2; omega)
theorem altP_kb {c : Nat → Nat} {N : Nat} (hN : N ≤ 20) : ∀ d, KA (altP c N d)
 | 0 => fun a l x _ hx => by unfold altP at hx; cases hx
 | d + 1 => by
  intro a l x h hx
  have hR : KA (rowP c N (altP c N d)) := rowP_kb hN (altP_kb hN d)
  unfold altP at hx
  cases e : rowP c N (altP c N d) a l with
  | none => rw [e] at hx; cases hx
  | some y =>
   rw [e] at hx
   have hx : (altL (rowP c N (altP c N d)) c (N + 1) y.1 y.2.1 [y.2.2]).map (closeP 3) = some x := hx
   cases e2 : altL (rowP c N (altP c N d)) c (N + 1) y.1 y.2.1 [y.2.2] with
   | none => rw [e2] at hx; cases hx
   | some z =>
    rw [e2] at hx
    simp only [Option.map_some, Option.some.injEq] at hx
    subst hx
    obtain ⟨h1, h2⟩ := altL_kb hR _ _ _ _ z (hR _ _ _ h e) e2
    exact closeP_kb h1 (by simp at h2; omega)
theorem readP_size {s : ByteArray} (h : 20 < s.size) : readP s = none := by unfold readP; rw [if_pos h]
theorem readP_of {s : ByteArray} (h : ¬ 20 < s.size) : readP s = match altP (bt s) s.size (s.size + 1) 0 [] with | none => none | some x => if x.1 < s.size then none else if okP x.2.1 = true then some x.2.1 else none := by unfold readP; rw [if_neg h] <;> rfl
theorem readP_none {s : ByteArray} (h : ¬ 20 < s.size) {P : Option St} (hP : P = altP (bt s) s.size (s.size + 1) 0 []) (h1 : P = none) : readP s = none := by rw [readP_of h, ← hP, h1]
theorem readP_some {s : ByteArray} (h : ¬ 20 < s.size) {P : Option St} (hP : P = altP (bt s) s.size (s.size + 1) 0 []) {a : Nat} {l : List Pc} {k : Int} (h1 : P = some (a, l, k)) : readP s = if a < s.size then none else if okP l = true then some l else none := by rw [readP_of h, ← hP, h1]
theorem readP_ok {s : ByteArray} {l : List Pc} (h : readP s = some l) : okP l = true ∧ KB l := by
 by_cases h20 : 20 < s.size
 ·rw [readP_size h20] at h; cases h
 ·rw [readP_of h20] at h
  cases e : altP (bt s) s.size (s.size + 1) 0 [] with
  | none => rw [e] at h; cases h
  | some x =>
   rw [e] at h
   dsimp only at h
   split at h
   ·cases h
   ·split at h
    ·rename_i hok
     simp only [Option.some.injEq] at h
     subst h
     exact ⟨hok, altP_kb (by omega) _ _ _ _ KB.nil e⟩
    ·cases h
def RPost (Z : Option (List Pc)) (w : World) (e : Ending) (w' : World) : Prop :=
 ∃ (a' : Option Addr) (n' c' : Nat) (r : Bool), e = .returned (.tuple #[pv a' n' c', .bool r]) ∧ Hid (r = Z.isSome) ∧ Hid ((Z.getD []).length = n') ∧ Hid (PathOwn w.heap.size w'.heap.size w' a' (Z.getD [])) ∧ Hid (Below w.heap.size w w')
end Go.Proofs.YtbepmeipjdpipaaGreat

namespace Go.Proofs.YtbepmeipjdpipaaGreat
open Go.RowKit
def ecells (l : List Ed) : List Value := (List.range (l.length * 3)).map (ef l)
theorem eat_app {l : List Ed} {x : Ed} {i : Nat} (h : i < l.length) : eat (l ++ [x]) i = eat l i := by simp [eat, List.getD, List.getElem?_append_left h]
theorem eat_last (l : List Ed) (x : Ed) : eat (l ++ [x]) l.length = x := by simp [eat, List.getD]
theorem ecells_snoc (l : List Ed) (x : Ed) : ecells (l ++ [x]) = ecells l ++ [.int .i64 x.1, .int .u8 x.2.1, .int .i64 x.2.2] := by
 unfold ecells
 rw [List.length_append, List.length_singleton, show (l.length + 1) * 3 = l.length * 3 + 1 + 1 + 1 by omega, List.range_succ, List.range_succ, List.range_succ]
 simp only [List.map_append, List.append_assoc]
 congr 1
 ·refine List.map_congr_left fun j hj => ?_
  have hj' := List.mem_range.1 hj
  unfold ef
  rw [eat_app (by omega)]
 ·simp only [List.map_cons, List.map_nil, ef0, ef1, ef2, eat_last]
  rfl
theorem news_three (w2 : World) (x y z : Value) (T : TypeId) : ∀ j u, [x, y, z][j]? = some u → (w2.alloc (.cells #[x, y, z] T)).cell? ((⟨w2.heap.size, 0, none⟩ : Addr).add j) = some u := by
 obtain ⟨h0, h1, h2⟩ := box_cells w2 x y z T _ rfl
 intro j u hu
 rw [add_none, Nat.zero_add]
 rcases j with _ | _ | _ | j
 ·simp at hu; subst hu; exact h0
 ·simp at hu; subst hu; exact h1
 ·simp at hu; subst hu; exact h2
 ·simp at hu
theorem owns_upto {B M e s n : Nat} {w w' : World} {v : Value} {xs : List Value} (ho : w.ownsRow B e s v n xs) (hv : ∀ k, v.ownBlock = some k → k < M) (hb : ∀ k, B ≤ k → k < M → w'.heap[k]? = w.heap[k]?) : w'.ownsRow B e s v n xs := by
 refine ⟨ho.1, ?_⟩
 rcases ho.2 with hn | ⟨g, cap, cur, rfl, hg, hh, r⟩
 ·exact .inl hn
 ·exact .inr ⟨g, cap, cur, rfl, hg, by rw [hb g hg (hv g rfl)]; exact hh, r⟩
theorem blk_three_set {w : World} {b : Nat} {x y z : Value} (h : Blk w b 3 (fun i => if i = 0 then x else if i = 1 then y else z)) : w.cell? ⟨b, 0, none⟩ = some x ∧ w.cell? ⟨b, 1, none⟩ = some y ∧ w.cell? ⟨b, 2, none⟩ = some z :=
 ⟨h.cell (i := 0) (by omega), h.cell (i := 1) (by omega), h.cell (i := 2) (by omega)⟩
theorem cell_set {w : World} {b o c j : Nat} {v : Value} (h : w.cell? ⟨b, o, none⟩ = some v) (u : Value) (hne : b ≠ c) : (w.setCell ⟨c, j, none⟩ u).cell? ⟨b, o, none⟩ = some v := by
 rw [← h]; unfold World.cell?; rw [Below.heap_setCell w ⟨c, j, none⟩ u b (by simpa using hne)]
theorem take_snocE (l : List Ed) {k : Nat} (h : k < l.length) : l.take (k + 1) = l.take k ++ [eat l k] := by
 rw [List.take_add_one]; simp [eat, List.getD, h]
end Go.Proofs.YtbepmeipjdpipaaGreat

namespace Go.Proofs.YtbepmeipjdpipaaGreat
open Go.RowKit
theorem EdgeAt.cell {w : World} {b o i : Nat} {l : List Ed} (h : EdgeAt w b (o + i * 3) (eat l i)) {r : Nat} (hr : r < 3) : w.cell? ⟨b, o + (i * 3 + r), none⟩ = some (ef l (i * 3 + r)) := by
 rcases (show r = 0 ∨ r = 1 ∨ r = 2 by omega) with rfl | rfl | rfl
 ·rw [Nat.add_zero, ef0]; exact h.1
 ·rw [ef1, ← Nat.add_assoc]; exact h.2.1
 ·rw [ef2, ← Nat.add_assoc]; exact h.2.2
theorem owns_set {B e s n b j : Nat} {w : World} {v u : Value} {xs : List Value} (ho : w.ownsRow B e s v n xs) (hb : b < B) : (w.setCell ⟨b, j, none⟩ u).ownsRow B e s v n xs :=
 owns_upto (M := w.heap.size) ho (fun k hk => (ho.lt k hk).2) (fun k h1 _ => Below.heap_setCell _ _ _ _ (by simp; omega))
theorem owns_low {B B' e s n : Nat} {w : World} {v : Value} {xs : List Value} (ho : w.ownsRow B e s v n xs) (hb : B' ≤ B) : w.ownsRow B' e s v n xs := by
 refine ⟨ho.1, ?_⟩
 rcases ho.2 with hn | ⟨g, cap, cur, rfl, hg, r⟩
 ·exact .inl hn
 ·exact .inr ⟨g, cap, cur, rfl, by omega, r⟩
end Go.Proofs.YtbepmeipjdpipaaGreat

namespace Go.Proofs.YtbepmeipjdpipaaGreat
open Go.RowKit
theorem filter_step {p : Ed → Bool} {l : List Ed} {k : Nat} (h : k < l.length) : (l.take (k + 1)).filter p = (l.take k).filter p ++ (if p (eat l k) = true then [eat l k] else []) := by
 rw [take_snocE l h, List.filter_append]
 by_cases hp : p (eat l k) = true <;> simp [hp]
theorem filter_len {p : Ed → Bool} (l : List Ed) (k : Nat) : ((l.take k).filter p).length ≤ k := Nat.le_trans (List.length_filter_le _ _) (by rw [List.length_take]; omega)
end Go.Proofs.YtbepmeipjdpipaaGreat

namespace Go.Proofs.YtbepmeipjdpipaaGreat
open Go.RowKit
theorem Tryz.info130 : (Tryz.prog.info? 130).map (fun i => (i.zero, i.size, i.bytes)) = some (some (.agg #[.int .i64 0, .int .u8 0, .int .i64 0]), 3, 24) := by kernel_rfl
end Go.Proofs.YtbepmeipjdpipaaGreat

namespace Go.Proofs.YtbepmeipjdpipaaGreat
open Go.RowKit
def BlsIn (lo hi : Nat) (w : World) (a : Option Addr) (l : List Bool) : Prop :=
 l = [] ∨ ∃ b o, a = some ⟨b, o, none⟩ ∧ lo ≤ b ∧ b < hi ∧ ∀ i, i < l.length → w.cell? ⟨b, o + i, none⟩ = some (.bool (l.getD i false))
theorem BlsIn.below {lo hi B : Nat} {w w' : World} {a : Option Addr} {l : List Bool} (h : BlsIn lo hi w a l) (hb : Below B w w') (hB : hi ≤ B) : BlsIn lo hi w' a l := by
 rcases h with h | ⟨b, o, e, h1, h2, h3⟩
 ·exact .inl h
 ·exact .inr ⟨b, o, e, h1, h2, fun i hi => cell_below (h3 i hi) hb (by omega)⟩
theorem BlsIn.wide {lo hi lo' hi' : Nat} {w : World} {a : Option Addr} {l : List Bool} (h : BlsIn lo hi w a l) (h1 : lo' ≤ lo) (h2 : hi ≤ hi') : BlsIn lo' hi' w a l := by
 rcases h with h | ⟨b, o, e, h3, h4, h5⟩
 ·exact .inl h
 ·exact .inr ⟨b, o, e, by omega, by omega, h5⟩
theorem BlsIn.num {lo hi : Nat} {w : World} {a : Option Addr} {l : List Bool} (h : BlsIn lo hi w a l) {i : Nat} (hi' : i < l.length) : ∃ b o, a = some ⟨b, o, none⟩ ∧ w.cell? ⟨b, o + i, none⟩ = some (.bool (l.getD i false)) := by
 rcases h with rfl | ⟨b, o, e, _, _, hc⟩
 ·exact absurd hi' (by simp)
 ·exact ⟨b, o, e, hc i hi'⟩
theorem BlsIn.kept {lo hi : Nat} {p : Nat → Prop} {w w' : World} {a : Option Addr} {l : List Bool} (h : BlsIn lo hi w a l) (hk : KeptP p w w') (hh : hi ≤ w.heap.size) (hp : ∀ k, lo ≤ k → k < hi → ¬ p k) : BlsIn lo hi w' a l := by
 rcases h with h | ⟨b, o, e, h1, h2, h3⟩
 ·exact .inl h
 ·exact .inr ⟨b, o, e, h1, h2, fun i hi => hk.cell (h3 i hi) (by omega) (hp b h1 h2)⟩
def BlsOwn (lo hi : Nat) (w : World) (a : Option Addr) (l : List Bool) : Prop :=
 l = [] ∨ ∃ b, a = some ⟨b, 0, none⟩ ∧ lo ≤ b ∧ b < hi ∧ Blk w b l.length (fun i => .bool (l.getD i false))
theorem BlsOwn.toIn {lo hi : Nat} {w : World} {a : Option Addr} {l : List Bool} (h : BlsOwn lo hi w a l) : BlsIn lo hi w a l := by
 rcases h with h | ⟨b, e, h1, h2, h3⟩
 ·exact .inl h
 ·exact .inr ⟨b, 0, e, h1, h2, fun i hi => by rw [Nat.zero_add]; exact h3.cell hi⟩
theorem BlsOwn.below {lo hi B : Nat} {w w' : World} {a : Option Addr} {l : List Bool} (h : BlsOwn lo hi w a l) (hb : Below B w w') (hB : hi ≤ B) : BlsOwn lo hi w' a l := by
 rcases h with h | ⟨b, e, h1, h2, h3⟩
 ·exact .inl h
 ·exact .inr ⟨b, e, h1, h2, h3.of_block (hb.block b (by omega))⟩
theorem BlsOwn.wide {lo hi lo' hi' : Nat} {w : World} {a : Option Addr} {l : List Bool} (h : BlsOwn lo hi w a l) (h1 : lo' ≤ lo) (h2 : hi ≤ hi') : BlsOwn lo' hi' w a l := by
 rcases h with h | ⟨b, e, h3, h4, h5⟩
 ·exact .inl h
 ·exact .inr ⟨b, e, by omega, by omega, h5⟩
theorem BlsOwn.kept {lo hi : Nat} {p : Nat → Prop} {w w' : World} {a : Option Addr} {l : List Bool} (h : BlsOwn lo hi w a l) (hk : KeptP p w w') (hp : ∀ c, lo ≤ c → c < hi → ¬ p c) : BlsOwn lo hi w' a l := by
 rcases h with h | ⟨b, e, h1, h2, h3⟩
 ·exact .inl h
 ·exact .inr ⟨b, e, h1, h2, hk.blk h3 (hp b h1 h2)⟩
theorem BlsOwn.setCellP {lo hi b j : Nat} {w : World} {a : Option Addr} {l : List Bool} (h : BlsOwn lo hi w a l) (hb : b < lo) (v : Value) : BlsOwn lo hi (w.setCell ⟨b, j, none⟩ v) a l := by
 rcases h with h | ⟨g, e, h1, h2, h3⟩
 ·exact .inl h
 ·exact .inr ⟨g, e, h1, h2, h3.of_block (Below.heap_setCell w ⟨b, j, none⟩ v g (by simp; omega))⟩
def mkB (K : Nat) : Bool := (((K : Nat) : Int) % 3 == 0)
def marksB (K n : Nat) : List Bool := (List.range n).map fun i => mkB (K + i)
end Go.Proofs.YtbepmeipjdpipaaGreat

namespace Go.Proofs.YtbepmeipjdpipaaGreat
open Go.RowKit
theorem okE_split (s : Int) (x : Ed) : okE s x = (inV s x.1 && inV s x.2.2 && decide (97 ≤ x.2.1) && decide (x.2.1 ≤ 100)) := rfl
theorem inV_in (s v : Int) : (decide (0 ≤ v) && decide (v ≤ s - 1)) = inV s v := by unfold inV; congr 1; rw [decide_eq_decide]; omega
end Go.Proofs.YtbepmeipjdpipaaGreat

namespace Go.Proofs.YtbepmeipjdpipaaGreat
open Go.RowKit
abbrev nv (s : Int) (a : Option Addr) (n cap : Nat) (b : Option Addr) (m mc : Nat) : Value := .agg #[.int .i64 s, .slice a n cap, .slice b m mc]
def nf (s : Int) (a : Option Addr) (n cap : Nat) (b : Option Addr) (m mc : Nat) : Nat → Value := fun i => if i = 0 then .int .i64 s else if i = 1 then .slice a n cap else .slice b m mc
theorem blk_nf (w : World) (g : Nat) (hg : g = w.heap.size) (s : Int) (a : Option Addr) (n cap : Nat) (b : Option Addr) (m mc : Nat) (T : TypeId) : Blk (w.alloc (.cells #[.int .i64 s, .slice a n cap, .slice b m mc] T)) g 3 (nf s a n cap b m mc) := blk_three w g hg _ _ _ T
def okN (s : Int) (l : List Ed) (m : Nat) : Bool := decide (1 ≤ s) && decide (s ≤ 24) && decide ((m : Int) = s) && okGTo s l l.length
theorem okN_size {s : Int} {l : List Ed} {m : Nat} (h : okN s l m = true) : 1 ≤ s ∧ s ≤ 24 ∧ (m : Int) = s := by unfold okN at h; simp at h; omega
theorem okN_at {s : Int} {l : List Ed} {m : Nat} (h : okN s l m = true) {k : Nat} (hk : k < l.length) : okGAt s l k = true := by unfold okN at h; simp only [Bool.and_eq_true] at h; exact okGTo_at h.2 hk
theorem okN_arc {s : Int} {l : List Ed} {m : Nat} (h : okN s l m = true) {k : Nat} (hk : k < l.length) : okE s (eat l k) = true := by
 have := okN_at h hk; unfold okGAt at this; simp only [Bool.and_eq_true] at this; exact this.1
set_option maxHeartbeats 1000000 in
theorem specLess_arc (x y : Ed) (r : Bool) (w : World) (hr : r = ltE x y) :
  Calls Tryz.prog 74 #[ev x, ev y] w fun e w' => e = .returned (.bool r) ∧ Hid (Below w.heap.size w w') := by
 have HR : Hid (r = ltE x y) := hr
 clear hr
 obtain ⟨x0, x1, x2⟩ := x
 obtain ⟨y0, y1, y2⟩ := y
 have HR2 : Hid (r = if x0 = y0 then (if x1 = y1 then decide (x2 < y2) else decide (x1 < y1)) else decide (x0 < y0)) := by
  show _ = _
  rw [HR.out]
  unfold ltE cmpE orI cmpI
  by_cases h0 : x0 = y0
  ·subst h0
   by_cases h1 : x1 = y1
   ·subst h1
    rcases Int.lt_trichotomy x2 y2 with h | h | h
    ·simp [h]
    ·subst h; simp
    ·simp [h, Int.lt_asymm h]
   ·rcases Int.lt_trichotomy x1 y1 with h | h | h
    ·simp [h, h1]
    ·exact absurd h h1
    ·simp [h, Int.lt_asymm h, h1]
  ·rcases Int.lt_trichotomy x0 y0 with h | h | h
   ·simp [h, h0]
   ·exact absurd h h0
   ·simp [h, Int.lt_asymm h, h0]
 clear HR
 by_cases h0 : x0 = y0
 ·subst h0
  by_cases h1 : x1 = y1
  ·subst h1
   have HR3 : Hid (r = decide (x2 < y2)) := by show _ = _; rw [HR2.out]; simp
   obtain ⟨d, hd⟩ : ∃ d, decide (x2 < y2) = d := ⟨_, rfl⟩
   go_enter Tryz.func74, Tryz.ntmps74
   go_wp2
   go_ret
   exact ⟨by rw [HR3.out, hd]; rfl, below2 w _ _⟩
  ·have HR3 : Hid (r = decide (x1 < y1)) := by show _ = _; rw [HR2.out]; simp [h1]
   obtain ⟨d, hd⟩ : ∃ d, decide (x1 < y1) = d := ⟨_, rfl⟩
   have hn : decide (x1 = y1) = false := decide_eq_false h1
   go_enter Tryz.func74, Tryz.ntmps74
   go_wp2
   go_ret
   exact ⟨by rw [HR3.out, hd]; rfl, below2 w _ _⟩
 ·have HR3 : Hid (r = decide (x0 < y0)) := by show _ = _; rw [HR2.out]; simp [h0]
  obtain ⟨d, hd⟩ : ∃ d, decide (x0 < y0) = d := ⟨_, rfl⟩
  have hn : decide (x0 = y0) = false := decide_eq_false h0
  go_enter Tryz.func74, Tryz.ntmps74
  go_wp2
  go_ret
  exact ⟨by rw [HR3.out, hd]; rfl, below2 w _ _⟩
end Go.Proofs.YtbepmeipjdpipaaGreat

namespace Go.Proofs.YtbepmeipjdpipaaGreat
open Go.RowKit
def NfaIn (lo hi : Nat) (w : World) (a b : Option Addr) (l : List Ed) (e : List Bool) : Prop := EdgesIn lo hi w a l ∧ BlsIn lo hi w b e
def NfaOwn (lo hi : Nat) (w : World) (a b : Option Addr) (l : List Ed) (e : List Bool) : Prop := ∃ md, lo ≤ md ∧ md ≤ hi ∧ EdgesOwn lo md w a l ∧ BlsOwn md hi w b e
theorem NfaIn.below {lo hi B : Nat} {w w' : World} {a b : Option Addr} {l : List Ed} {e : List Bool} (h : NfaIn lo hi w a b l e) (hb : Below B w w') (hB : hi ≤ B) : NfaIn lo hi w' a b l e := ⟨h.1.below hb hB, h.2.below hb hB⟩
theorem NfaIn.wide {lo hi lo' hi' : Nat} {w : World} {a b : Option Addr} {l : List Ed} {e : List Bool} (h : NfaIn lo hi w a b l e) (h1 : lo' ≤ lo) (h2 : hi ≤ hi') : NfaIn lo' hi' w a b l e := ⟨h.1.wide h1 h2, h.2.wide h1 h2⟩
theorem NfaIn.kept {lo hi : Nat} {p : Nat → Prop} {w w' : World} {a b : Option Addr} {l : List Ed} {e : List Bool} (h : NfaIn lo hi w a b l e) (hk : KeptP p w w') (hh : hi ≤ w.heap.size) (hp : ∀ k, lo ≤ k → k < hi → ¬ p k) : NfaIn lo hi w' a b l e := ⟨h.1.kept hk hh hp, h.2.kept hk hh hp⟩
theorem NfaOwn.toIn {lo hi : Nat} {w : World} {a b : Option Addr} {l : List Ed} {e : List Bool} (h : NfaOwn lo hi w a b l e) : NfaIn lo hi w a b l e := by
 obtain ⟨md, h1, h2, h3, h4⟩ := h
 exact ⟨h3.toIn.wide (Nat.le_refl _) h2, h4.toIn.wide h1 (Nat.le_refl _)⟩
theorem NfaOwn.below {lo hi B : Nat} {w w' : World} {a b : Option Addr} {l : List Ed} {e : List Bool} (h : NfaOwn lo hi w a b l e) (hb : Below B w w') (hB : hi ≤ B) : NfaOwn lo hi w' a b l e := by
 obtain ⟨md, h1, h2, h3, h4⟩ := h
 exact ⟨md, h1, h2, h3.below hb (by omega), h4.below hb hB⟩
theorem NfaOwn.wide {lo hi lo' hi' : Nat} {w : World} {a b : Option Addr} {l : List Ed} {e : List Bool} (h : NfaOwn lo hi w a b l e) (h1 : lo' ≤ lo) (h2 : hi ≤ hi') : NfaOwn lo' hi' w a b l e := by
 obtain ⟨md, h3, h4, h5, h6⟩ := h
 exact ⟨md, by omega, by omega, h5.wide h1 (Nat.le_refl _), h6.wide (Nat.le_refl _) h2⟩
theorem NfaOwn.kept {lo hi : Nat} {p : Nat → Prop} {w w' : World} {a b : Option Addr} {l : List Ed} {e : List Bool} (h : NfaOwn lo hi w a b l e) (hk : KeptP p w w') (_hh : hi ≤ w.heap.size) (hp : ∀ k, lo ≤ k → k < hi → ¬ p k) : NfaOwn lo hi w' a b l e := by
 obtain ⟨md, h3, h4, h5, h6⟩ := h
 exact ⟨md, h3, h4, h5.kept hk (fun k h1 h2 => hp k h1 (by omega)), h6.kept hk (fun k h1 h2 => hp k (by omega) h2)⟩
end Go.Proofs.YtbepmeipjdpipaaGreat
