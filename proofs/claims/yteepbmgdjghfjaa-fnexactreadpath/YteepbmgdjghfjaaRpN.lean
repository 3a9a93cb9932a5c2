/-
  A path read off a text: how long its pieces' kids are.
-/
import Derived.Test.YteepbmgdjghfjaaRpM
namespace Go.Proofs.Yteepbmgdjghfjaa
open Go.RowKit

/-- no piece has more than a hundred kids -/
def KB (l : List Pc) : Prop := ∀ x ∈ l, x.2.2.length ≤ 100
theorem KB.nil : KB [] := fun x hx => by simp at hx
theorem KB.snoc {l : List Pc} {x : Pc} (h : KB l) (hx : x.2.2.length ≤ 100) : KB (l ++ [x]) := by
  intro y hy
  rcases List.mem_append.1 hy with h1 | h1
  · exact h y h1
  · rw [List.mem_singleton.1 h1]; exact hx
theorem KB.pat {l : List Pc} (h : KB l) {i : Nat} (hi : i < l.length) : (pat l i).2.2.length ≤ 100 := by
  rw [pat_get hi]
  exact h _ (List.getElem_mem hi)
theorem KB.kids {l : List Pc} (h : KB l) : ∀ k, k ≤ l.length → kidsLen l k ≤ k * 100
  | 0, _ => by simp [kidsLen]
  | k + 1, hk => by
    have := KB.kids h k (by omega)
    have := h.pat (i := k) (by omega)
    rw [kidsLen, Nat.add_mul]; omega
theorem signP_kb (c : Nat → Nat) : ∀ (f a : Nat) (l : List Pc) (k : Int), KB l → KB (signP c f a l k).2.1
  | 0, _, _, _, h => h
  | f + 1, a, l, k, h => by
    unfold signP
    split
    · exact h
    · exact signP_kb c f _ _ _ (h.snoc (by simp))
def KA (A : Nat → List Pc → Option St) : Prop := ∀ a l x, KB l → A a l = some x → KB x.2.1
theorem sglP_kb {c : Nat → Nat} {A : Nat → List Pc → Option St} (hA : KA A) : KA (sglP c A) := by
  intro a l x h hx
  unfold sglP at hx
  split at hx
  · simp only [Option.some.injEq] at hx
    subst hx
    exact h.snoc (by simp)
  · split at hx
    · cases e : A (a + 1) l with
      | none => rw [e] at hx; cases hx
      | some y =>
        rw [e] at hx
        have hx2 : (if c y.1 = 41 then some (y.1 + 1, y.2.1, y.2.2) else none) = some x := hx
        clear hx
        have hx := hx2
        split at hx
        · simp only [Option.some.injEq] at hx
          subst hx
          have := hA _ _ _ h e
          exact this
        · cases hx
    · cases hx
theorem oneP_kb {c : Nat → Nat} {N : Nat} {A : Nat → List Pc → Option St} (hA : KA A) : KA (oneP c N A) := by
  intro a l x h hx
  unfold oneP at hx
  cases e : sglP c A a l with
  | none => rw [e] at hx; cases hx
  | some y =>
    rw [e] at hx
    simp only [Option.map_some, Option.some.injEq] at hx
    subst hx
    exact signP_kb c _ _ _ _ (sglP_kb hA _ _ _ h e)
theorem closeP_kb {op : Int} {x : Nat × List Pc × List Int} (h : KB x.2.1) (h2 : x.2.2.length ≤ 100) : KB (closeP op x).2.1 := by
  unfold closeP
  split
  · exact h
  · exact h.snoc h2
theorem rowL_kb {O : Nat → List Pc → Option St} {c : Nat → Nat} (hO : KA O) : ∀ (f a : Nat) (l : List Pc) (ks : List Int) (x : Nat × List Pc × List Int), KB l → rowL O c f a l ks = some x → KB x.2.1 ∧ x.2.2.length ≤ ks.length + f
  | 0, a, l, ks, x, h, hx => by
    unfold rowL at hx
    simp only [Option.some.injEq] at hx
    subst hx
    exact ⟨h, by simp⟩
  | f + 1, a, l, ks, x, h, hx => by
    unfold rowL at hx
    split at hx
    · cases e : O a l with
      | none => rw [e] at hx; cases hx
      | some y =>
        rw [e] at hx
        obtain ⟨h1, h2⟩ := rowL_kb hO f _ _ _ x (hO _ _ _ h e) hx
        exact ⟨h1, by rw [List.length_append] at h2; simp at h2; omega⟩
    · simp only [Option.some.injEq] at hx
      subst hx
      exact ⟨h, by simp⟩
theorem altL_kb {O : Nat → List Pc → Option St} {c : Nat → Nat} (hO : KA O) : ∀ (f a : Nat) (l : List Pc) (ks : List Int) (x : Nat × List Pc × List Int), KB l → altL O c f a l ks = some x → KB x.2.1 ∧ x.2.2.length ≤ ks.length + f
  | 0, a, l, ks, x, h, hx => by
    unfold altL at hx
    simp only [Option.some.injEq] at hx
    subst hx
    exact ⟨h, by simp⟩
  | f + 1, a, l, ks, x, h, hx => by
    unfold altL at hx
    split at hx
    · cases e : O (a + 1) l with
      | none => rw [e] at hx; cases hx
      | some y =>
        rw [e] at hx
        obtain ⟨h1, h2⟩ := altL_kb hO f _ _ _ x (hO _ _ _ h e) hx
        exact ⟨h1, by rw [List.length_append] at h2; simp at h2; omega⟩
    · simp only [Option.some.injEq] at hx
      subst hx
      exact ⟨h, by simp⟩
theorem rowP_kb {c : Nat → Nat} {N : Nat} (hN : N ≤ 20) {A : Nat → List Pc → Option St} (hA : KA A) : KA (rowP c N A) := by
  intro a l x h hx
  unfold rowP at hx
  cases e : oneP c N A a l with
  | none => rw [e] at hx; cases hx
  | some y =>
    rw [e] at hx
    have hx : (rowL (oneP c N A) c (N + 1) y.1 y.2.1 [y.2.2]).map (closeP 2) = some x := hx
    cases e2 : rowL (oneP c N A) c (N + 1) y.1 y.2.1 [y.2.2] with
    | none => rw [e2] at hx; cases hx
    | some z =>
      rw [e2] at hx
      simp only [Option.map_some, Option.some.injEq] at hx
      subst hx
      obtain ⟨h1, h2⟩ := rowL_kb (oneP_kb hA) _ _ _ _ z (oneP_kb hA _ _ _ h e) e2
      exact closeP_kb h1 (by simp at h2; omega)
theorem altP_kb {c : Nat → Nat} {N : Nat} (hN : N ≤ 20) : ∀ d, KA (altP c N d)
  | 0 => fun a l x _ hx => by unfold altP at hx; cases hx
  | d + 1 => by
    intro a l x h hx
    have hR : KA (rowP c N (altP c N d)) := rowP_kb hN (altP_kb hN d)
    unfold altP at hx
    cases e : rowP c N (altP c N d) a l with
    | none => rw [e] at hx; cases hx
    | some y =>
      rw [e] at hx
      have hx : (altL (rowP c N (altP c N d)) c (N + 1) y.1 y.2.1 [y.2.2]).map (closeP 3) = some x := hx
      cases e2 : altL (rowP c N (altP c N d)) c (N + 1) y.1 y.2.1 [y.2.2] with
      | none => rw [e2] at hx; cases hx
      | some z =>
        rw [e2] at hx
        simp only [Option.map_some, Option.some.injEq] at hx
        subst hx
        obtain ⟨h1, h2⟩ := altL_kb hR _ _ _ _ z (hR _ _ _ h e) e2
        exact closeP_kb h1 (by simp at h2; omega)
theorem readP_size {s : ByteArray} (h : 20 < s.size) : readP s = none := by unfold readP; rw [if_pos h]
theorem readP_of {s : ByteArray} (h : ¬ 20 < s.size) : readP s = match altP (bt s) s.size (s.size + 1) 0 [] with | none => none | some x => if x.1 < s.size then none else if okP x.2.1 = true then some x.2.1 else none := by unfold readP; rw [if_neg h]; rfl
theorem readP_none {s : ByteArray} (h : ¬ 20 < s.size) {P : Option St} (hP : P = altP (bt s) s.size (s.size + 1) 0 []) (h1 : P = none) : readP s = none := by rw [readP_of h, ← hP, h1]
theorem readP_some {s : ByteArray} (h : ¬ 20 < s.size) {P : Option St} (hP : P = altP (bt s) s.size (s.size + 1) 0 []) {a : Nat} {l : List Pc} {k : Int} (h1 : P = some (a, l, k)) : readP s = if a < s.size then none else if okP l = true then some l else none := by rw [readP_of h, ← hP, h1]
/-- what is read is right, and its kids are few -/
theorem readP_ok {s : ByteArray} {l : List Pc} (h : readP s = some l) : okP l = true ∧ KB l := by
  by_cases h20 : 20 < s.size
  · rw [readP_size h20] at h; cases h
  · rw [readP_of h20] at h
    cases e : altP (bt s) s.size (s.size + 1) 0 [] with
    | none => rw [e] at h; cases h
    | some x =>
      rw [e] at h
      dsimp only at h
      split at h
      · cases h
      · split at h
        · rename_i hok
          simp only [Option.some.injEq] at h
          subst h
          exact ⟨hok, altP_kb (by omega) _ _ _ _ KB.nil e⟩
        · cases h
/-- what a reading tells: the pieces, or nothing -/
def RPost (Z : Option (List Pc)) (w : World) (e : Ending) (w' : World) : Prop :=
  ∃ (a' : Option Addr) (n' c' : Nat) (r : Bool), e = .returned (.tuple #[pv a' n' c', .bool r]) ∧ Hid (r = Z.isSome) ∧ Hid ((Z.getD []).length = n') ∧ Hid (PathOwn w.heap.size w'.heap.size w' a' (Z.getD [])) ∧ Hid (Below w.heap.size w w')
end Go.Proofs.Yteepbmgdjghfjaa
