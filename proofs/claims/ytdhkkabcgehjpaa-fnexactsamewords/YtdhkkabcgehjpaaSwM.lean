/-
  Words told apart: the mathematics.
-/
import Derived.Test.YtdhkkabcgehjpaaSwB
namespace Go.Proofs.Ytdhkkabcgehjpaa
open Go.RowKit

/-- the set behind a word, letter by letter -/
def runG (A : Nat → Nat → Bool) (f : Nat → Bool) (W : List Nat) : Nat → Bool := W.foldl (fun f i => goS (A i) f) f
theorem ahead_iff {A A' : Nat → Nat → Bool} {q q' : Nat → Bool} : ∀ {n : Nat} {f g : Nat → Bool}, aheadB A A' q q' n f g = true ↔ ∀ W : List Nat, (∀ i ∈ W, i < 4) → W.length ≤ n → endTo q (runG A f W) 24 = endTo q' (runG A' g W) 24
  | 0, f, g => by
    unfold aheadB
    constructor
    · intro h W _ hl
      obtain rfl : W = [] := List.length_eq_zero_iff.1 (by omega)
      simpa [runG] using h
    · intro h
      have := h [] (by simp) (by simp)
      simpa [runG] using this
  | n + 1, f, g => by
    unfold aheadB
    rw [Bool.and_eq_true, List.all_eq_true]
    constructor
    · rintro ⟨h1, h2⟩ W hW hl
      cases W with
      | nil => simpa [runG] using h1
      | cons i W =>
        have h3 := h2 i (List.mem_range.2 (hW i (by simp)))
        exact ahead_iff.1 h3 W (fun j hj => hW j (by simp [hj])) (by simp at hl; omega)
    · intro h
      refine ⟨by simpa [runG] using h [] (by simp) (by simp), fun i hi => ahead_iff.2 fun W hW hl => ?_⟩
      exact h (i :: W) (fun j hj => by rcases List.mem_cons.1 hj with e | e; · rw [e]; exact List.mem_range.1 hi
                                       · exact hW j e) (by simp; omega)
/-- the same by the arcs -/
def runW (l : List Ed) (W : List Nat) : Nat → Bool := W.foldl (fun f i => stepL l ((97 + i : Nat) : Int) f) oneS
theorem step_low {s : Int} {l : List Ed} {m : Nat} (hok : okN s l m = true) {c : Int} {f : Nat → Bool} {j : Nat} (h : stepL l c f j = true) : j < m := by
  obtain ⟨e, he, _, _, h3⟩ := step_iff.1 h
  have h1 := okN_mem hok he
  have h2 := okN_size hok
  obtain ⟨x, y, z⟩ := e
  unfold okE inV at h1
  simp only [Bool.and_eq_true, decide_eq_true_eq] at h1 h3
  omega
theorem step_congr {s : Int} {l : List Ed} {m : Nat} (hok : okN s l m = true) {c : Int} {f g : Nat → Bool} (h : ∀ i, i < 24 → f i = g i) (j : Nat) : stepL l c f j = stepL l c g j := by
  rw [Bool.eq_iff_iff, step_iff, step_iff]
  constructor
  all_goals
    rintro ⟨e, he, h1, h2, h3⟩
    obtain ⟨f', i', t', rfl, hf, hi4, ht⟩ := okE_nums (okN_size hok).2.1 (okN_mem hok he)
    refine ⟨_, he, ?_, h2, h3⟩
    simp only [Int.toNat_natCast] at h1 ⊢
  · rw [← h _ hf]; exact h1
  · rw [h _ hf]; exact h1
theorem goS_congr {A f g : Nat → Bool} (h : ∀ i, i < 24 → f i = g i) (j : Nat) : goS A f j = goS A g j := by
  unfold goS
  rw [Bool.eq_iff_iff, List.any_eq_true, List.any_eq_true]
  constructor
  all_goals
    rintro ⟨x, hx, h1⟩
    refine ⟨x, hx, ?_⟩
  · rw [← h x (List.mem_range.1 hx)]; exact h1
  · rw [h x (List.mem_range.1 hx)]; exact h1
theorem runs_same {s : Int} {l : List Ed} {m : Nat} (hok : okN s l m = true) : ∀ (W : List Nat), (∀ i ∈ W, i < 4) → ∀ (f g : Nat → Bool), (∀ i, i < 24 → f i = g i) → ∀ j, j < 24 → runG (arcM l) f W j = (W.foldl (fun f i => stepL l ((97 + i : Nat) : Int) f) g) j
  | [], _, f, g, h, j, hj => h j hj
  | i :: W, hW, f, g, h, j, hj => by
    have hi : i < 4 := hW i (by simp)
    exact runs_same hok W (fun x hx => hW x (by simp [hx])) (goS (arcM l i) f) (stepL l ((97 + i : Nat) : Int) g) (fun x hx => by rw [step_go hok hi hx, step_congr hok h]) j hj
theorem end_congr {q f g : Nat → Bool} (h : ∀ i, i < 24 → f i = g i) : endTo q f 24 = endTo q g 24 := by
  unfold endTo
  rw [Bool.eq_iff_iff, List.any_eq_true, List.any_eq_true]
  constructor
  all_goals
    rintro ⟨x, hx, h1⟩
    refine ⟨x, hx, ?_⟩
  · rw [← h x (List.mem_range.1 hx)]; exact h1
  · rw [h x (List.mem_range.1 hx)]; exact h1
/-- two right automata: the same words of at most n letters -/
theorem same_iff {s s' : Int} {l l' : List Ed} {m m' : Nat} {es es' : List Bool} (hok : okN s l m = true) (hok' : okN s' l' m' = true) {n : Nat} : aheadB (arcM l) (arcM l') (endM es) (endM es') n oneS oneS = true ↔ ∀ W : List Nat, (∀ i ∈ W, i < 4) → W.length ≤ n → endTo (endM es) (runW l W) 24 = endTo (endM es') (runW l' W) 24 := by
  rw [ahead_iff]
  constructor
  · intro h W hW hl
    have := h W hW hl
    rw [end_congr (runs_same hok W hW oneS oneS (fun _ _ => rfl)), end_congr (runs_same hok' W hW oneS oneS (fun _ _ => rfl))] at this
    exact this
  · intro h W hW hl
    rw [end_congr (runs_same hok W hW oneS oneS (fun _ _ => rfl)), end_congr (runs_same hok' W hW oneS oneS (fun _ _ => rfl))]
    exact h W hW hl
theorem runW_snoc (l : List Ed) (W : List Nat) (i : Nat) : runW l (W ++ [i]) = stepL l ((97 + i : Nat) : Int) (runW l W) := by simp [runW]
/-- a word leads somewhere -/
def goesW (l : List Ed) (m : Nat) (W : List Nat) : Bool := (List.range m).any fun j => runW l W j
theorem goes_snoc {s : Int} {l : List Ed} {m : Nat} (hok : okN s l m = true) {W : List Nat} {i : Nat} (h : goesW l m (W ++ [i]) = true) : goesW l m W = true := by
  unfold goesW at h ⊢
  rw [List.any_eq_true] at h ⊢
  obtain ⟨j, _, h1⟩ := h
  rw [runW_snoc] at h1
  obtain ⟨e, he, h2, _, _⟩ := step_iff.1 h1
  have h3 := okN_mem hok he
  have h4 := okN_size hok
  obtain ⟨x, y, z⟩ := e
  unfold okE inV at h3
  simp only [Bool.and_eq_true, decide_eq_true_eq] at h3
  exact ⟨x.toNat, List.mem_range.2 (by omega), h2⟩
theorem run_low {s : Int} {l : List Ed} {m : Nat} (hok : okN s l m = true) (W : List Nat) {j : Nat} (h : runW l W j = true) : j < m := by
  rcases List.eq_nil_or_concat W with e | ⟨V, i, e⟩
  · subst e
    simp [runW, oneS] at h
    have := okN_size hok
    omega
  · rw [e, List.concat_eq_append, runW_snoc] at h
    exact step_low hok h
theorem takes_goes {s : Int} {l : List Ed} {m : Nat} (hok : okN s l m = true) {q : Nat → Bool} {W : List Nat} (h : endTo q (runW l W) 24 = true) : goesW l m W = true := by
  unfold endTo at h
  unfold goesW
  rw [List.any_eq_true] at h ⊢
  obtain ⟨j, _, h1⟩ := h
  rw [Bool.and_eq_true] at h1
  exact ⟨j, List.mem_range.2 (run_low hok W h1.1), h1.1⟩
/-- the words that the model goes through: of k letters, each of their beginnings leads somewhere in one of the two -/
def WordAt (l : List Ed) (m : Nat) (l' : List Ed) (m' : Nat) (k : Nat) (W : List Nat) : Prop := W.length = k ∧ (∀ i ∈ W, i < 4) ∧ (k = 0 ∨ goesW l m W = true ∨ goesW l' m' W = true)
theorem WordAt.prev {s s' : Int} {l l' : List Ed} {m m' : Nat} (hok : okN s l m = true) (hok' : okN s' l' m' = true) {k : Nat} {W : List Nat} {i : Nat} (h : WordAt l m l' m' (k + 1) (W ++ [i])) : WordAt l m l' m' k W ∧ i < 4 := by
  obtain ⟨h1, h2, h3⟩ := h
  refine ⟨⟨by simpa using h1, fun x hx => h2 x (by simp [hx]), .inr ?_⟩, h2 i (by simp)⟩
  rcases h3 with h3 | h3 | h3
  · omega
  · exact .inl (goes_snoc hok h3)
  · exact .inr (goes_snoc hok' h3)
/-- if all words that are gone through agree, all words agree -/
theorem all_agree {s s' : Int} {l l' : List Ed} {m m' : Nat} {es es' : List Bool} (hok : okN s l m = true) (hok' : okN s' l' m' = true) {n : Nat} (h : ∀ k, k ≤ n → ∀ W, WordAt l m l' m' k W → endTo (endM es) (runW l W) 24 = endTo (endM es') (runW l' W) 24) (W : List Nat) (hW : ∀ i ∈ W, i < 4) (hl : W.length ≤ n) : endTo (endM es) (runW l W) 24 = endTo (endM es') (runW l' W) 24 := by
  by_cases h0 : endTo (endM es) (runW l W) 24 = true
  · exact h W.length hl W ⟨rfl, hW, .inr (.inl (takes_goes hok h0))⟩
  · by_cases h1 : endTo (endM es') (runW l' W) 24 = true
    · exact h W.length hl W ⟨rfl, hW, .inr (.inr (takes_goes hok' h1))⟩
    · rw [Bool.not_eq_true] at h0 h1
      rw [h0, h1]
end Go.Proofs.Ytdhkkabcgehjpaa
