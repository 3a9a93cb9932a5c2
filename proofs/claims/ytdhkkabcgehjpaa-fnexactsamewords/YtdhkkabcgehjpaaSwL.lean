/-
  The words that the model goes through, level by level.
-/
import Derived.Test.YtdhkkabcgehjpaaSwT
namespace Go.Proofs.Ytdhkkabcgehjpaa
open Go.RowKit

/-- the words that go on from one, of the first c labels -/
def onW (l : List Ed) (m : Nat) (l' : List Ed) (m' : Nat) (W : List Nat) (c : Nat) : List (List Nat) := ((List.range c).map fun i => W ++ [i]).filter fun V => goesW l m V || goesW l' m' V
theorem onW_succ (l : List Ed) (m : Nat) (l' : List Ed) (m' : Nat) (W : List Nat) (c : Nat) : onW l m l' m' W (c + 1) = onW l m l' m' W c ++ (if goesW l m (W ++ [c]) || goesW l' m' (W ++ [c]) then [W ++ [c]] else []) := by
  unfold onW
  rw [List.range_succ, List.map_append, List.filter_append]
  congr 1
  by_cases h : (goesW l m (W ++ [c]) || goesW l' m' (W ++ [c])) = true
  · simp [h]
  · rw [Bool.not_eq_true] at h; simp [h]
theorem onW_mem {l : List Ed} {m : Nat} {l' : List Ed} {m' : Nat} {W V : List Nat} {c : Nat} : V ∈ onW l m l' m' W c ↔ ∃ i, i < c ∧ V = W ++ [i] ∧ (goesW l m V = true ∨ goesW l' m' V = true) := by
  unfold onW
  rw [List.mem_filter, List.mem_map, Bool.or_eq_true]
  constructor
  · rintro ⟨⟨i, hi, rfl⟩, h⟩
    exact ⟨i, List.mem_range.1 hi, rfl, h⟩
  · rintro ⟨i, hi, rfl, h⟩
    exact ⟨⟨i, List.mem_range.2 hi, rfl⟩, h⟩
/-- the next level, of the first words -/
def nextW (l : List Ed) (m : Nat) (l' : List Ed) (m' : Nat) (Ws : List (List Nat)) : List (List Nat) := Ws.flatMap fun W => onW l m l' m' W 4
theorem nextW_snoc (l : List Ed) (m : Nat) (l' : List Ed) (m' : Nat) (Ws : List (List Nat)) (W : List Nat) : nextW l m l' m' (Ws ++ [W]) = nextW l m l' m' Ws ++ onW l m l' m' W 4 := by simp [nextW]
/-- level k -/
def levW (l : List Ed) (m : Nat) (l' : List Ed) (m' : Nat) : Nat → List (List Nat)
  | 0 => [[]]
  | k + 1 => nextW l m l' m' (levW l m l' m' k)
theorem lev_mem {s s' : Int} {l l' : List Ed} {m m' : Nat} (hok : okN s l m = true) (hok' : okN s' l' m' = true) : ∀ {k : Nat} {W : List Nat}, W ∈ levW l m l' m' k ↔ WordAt l m l' m' k W
  | 0, W => by
    unfold levW WordAt
    rw [List.mem_singleton]
    constructor
    · rintro rfl; exact ⟨rfl, by simp, .inl rfl⟩
    · rintro ⟨h, _, _⟩; exact List.length_eq_zero_iff.1 h
  | k + 1, V => by
    unfold levW nextW
    rw [List.mem_flatMap]
    constructor
    · rintro ⟨W, hW, hV⟩
      obtain ⟨i, hi, rfl, h⟩ := onW_mem.1 hV
      obtain ⟨h1, h2, _⟩ := (lev_mem hok hok').1 hW
      refine ⟨by simp [h1], fun x hx => ?_, .inr h⟩
      rcases List.mem_append.1 hx with hx | hx
      · exact h2 x hx
      · rw [List.mem_singleton.1 hx]; exact hi
    · intro h
      rcases List.eq_nil_or_concat V with e | ⟨W, i, e⟩
      · subst e; have := h.1; simp at this
      · rw [List.concat_eq_append] at e
        subst e
        obtain ⟨h1, h2⟩ := h.prev hok hok'
        refine ⟨W, (lev_mem hok hok').2 h1, onW_mem.2 ⟨i, h2, rfl, ?_⟩⟩
        rcases h.2.2 with h3 | h3
        · omega
        · exact h3
theorem onW_len (l : List Ed) (m : Nat) (l' : List Ed) (m' : Nat) (W : List Nat) (c : Nat) : (onW l m l' m' W c).length ≤ c := by
  have := List.length_filter_le (fun V => goesW l m V || goesW l' m' V) ((List.range c).map fun i => W ++ [i])
  simpa [onW] using this
theorem nextW_len (l : List Ed) (m : Nat) (l' : List Ed) (m' : Nat) (Ws : List (List Nat)) : (nextW l m l' m' Ws).length ≤ 4 * Ws.length := by
  induction Ws with
  | nil => simp [nextW]
  | cons W Ws ih =>
    have h := onW_len l m l' m' W 4
    have e : nextW l m l' m' (W :: Ws) = onW l m l' m' W 4 ++ nextW l m l' m' Ws := by simp [nextW]
    rw [e, List.length_append, List.length_cons]
    omega
theorem lev_len (l : List Ed) (m : Nat) (l' : List Ed) (m' : Nat) : ∀ k, (levW l m l' m' k).length ≤ 4 ^ k
  | 0 => by simp [levW]
  | k + 1 => by
    have h1 := nextW_len l m l' m' (levW l m l' m' k)
    have h2 := lev_len l m l' m' k
    show (nextW l m l' m' (levW l m l' m' k)).length ≤ 4 ^ (k + 1)
    rw [Nat.pow_succ]
    omega
/-- whether the first words take alike -/
def likeW (l : List Ed) (es : List Bool) (l' : List Ed) (es' : List Bool) (W : List Nat) : Prop := endTo (endM es) (runW l W) 24 = endTo (endM es') (runW l' W) 24
/-- the answer: no when one word that is gone through is taken by one alone -/
theorem sameW_no {s s' : Int} {l l' : List Ed} {m m' : Nat} {es es' : List Bool} (hok : okN s l m = true) (hok' : okN s' l' m' = true) {k : Nat} (hk : k ≤ 6) {W : List Nat} (hW : W ∈ levW l m l' m' k) (h : ¬ likeW l es l' es' W) : sameW s l m es s' l' m' es' = false := by
  rw [Bool.eq_false_iff]
  intro e
  unfold sameW at e
  rw [hok, hok', Bool.true_and, Bool.true_and, same_iff hok hok'] at e
  have h1 := (lev_mem hok hok').1 hW
  exact h (e W h1.2.1 (by rw [h1.1]; exact hk))
theorem sameW_yes {s s' : Int} {l l' : List Ed} {m m' : Nat} {es es' : List Bool} (hok : okN s l m = true) (hok' : okN s' l' m' = true) (h : ∀ k, k ≤ 6 → ∀ W, W ∈ levW l m l' m' k → likeW l es l' es' W) : sameW s l m es s' l' m' es' = true := by
  unfold sameW
  rw [hok, hok', Bool.true_and, Bool.true_and, same_iff hok hok']
  exact all_agree hok hok' fun k hk W hW => h k hk W ((lev_mem hok hok').2 hW)
end Go.Proofs.Ytdhkkabcgehjpaa
