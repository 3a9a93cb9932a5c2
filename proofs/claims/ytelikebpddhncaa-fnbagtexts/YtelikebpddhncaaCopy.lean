/-
  slices.Clone at items; newBag; impl.BagEach.
-/
import Derived.Test.YtelikebpddhncaaApp
import Derived.Test.YtelikebpddhncaaMarkB
namespace Go.Proofs.Ytelikebpddhncaa
open Go.RowKit

/-- a copied list of items: the rows of the first k are new, the others are still those of the list that was copied -/
def PartCopy (lo0 hi0 lo hi : Nat) (w : World) (b : Nat) (l : List It) (n k : Nat) : Prop :=
  ∃ (f : Nat → Value) (R : Nat → Option Addr) (C : Nat → Nat), Blk w b (n * 2) f ∧
    (∀ i, i < n → f (i * 2) = .slice (R i) (at' l i).1.length (C i) ∧ f (i * 2 + 1) = .int .i64 (at' l i).2) ∧
    (∀ i, k ≤ i → i < n → RowIn lo0 hi0 w (R i) (at' l i).1) ∧
    ∀ i, i < k → RowOwn lo hi w (R i) (at' l i).1 ∧ ((at' l i).1 ≠ [] → (∀ c, R i = some ⟨c, 0, none⟩ → c ≠ b) ∧ ∀ j, j < i → (at' l j).1 ≠ [] → R j ≠ R i)

theorem PartCopy.below {lo0 hi0 lo hi B b : Nat} {w w' : World} {l : List It} {n k : Nat} (h : PartCopy lo0 hi0 lo hi w b l n k) (hb : Below B w w') (hB : hi ≤ B) (hB0 : hi0 ≤ B) (hl : b < B) : PartCopy lo0 hi0 lo hi w' b l n k := by
  obtain ⟨f, R, C, h1, h2, h3, h4⟩ := h
  refine ⟨f, R, C, h1.of_block (hb.block b hl), h2, fun i hi hi' => (h3 i hi hi').below hb hB0, fun i hi => ⟨(h4 i hi).1.below hb hB, (h4 i hi).2⟩⟩

theorem PartCopy.done {lo0 hi0 lo hi : Nat} {w : World} {b : Nat} {l : List It} {n : Nat} (h : PartCopy lo0 hi0 lo hi w b l n n) : PartOwn lo hi w b l n n := by
  obtain ⟨f, R, C, h1, h2, _, h4⟩ := h
  exact ⟨f, R, C, h1, fun i hi => ⟨(h2 i hi).1, (h2 i hi).2, (h4 i hi).1, (h4 i hi).2⟩⟩

theorem RowOwn.setAway {lo hi b j : Nat} {w : World} {a : Option Addr} {r : List Int} (h : RowOwn lo hi w a r) (hne : r ≠ [] → a ≠ some ⟨b, 0, none⟩) (v : Value) : RowOwn lo hi (w.setCell ⟨b, j, none⟩ v) a r := by
  by_cases h0 : r = []
  · exact .inl h0
  · rcases h with h | ⟨c, e, h3, h4, h5⟩
    · exact absurd h h0
    · have hcb : c ≠ b := by intro e2; subst e2; exact hne h0 e
      exact .inr ⟨c, e, h3, h4, h5.of_block (Below.heap_setCell w _ _ c (by simpa using hcb))⟩

theorem PartCopy.step {lo0 hi0 lo hi hi' b rc : Nat} {ra : Option Addr} {w : World} {l : List It} {n k : Nat} (h : PartCopy lo0 hi0 lo hi w b l n k) (hk : k < n) (hb0 : hi0 ≤ b) (hb : b < hi) (hr : RowOwn hi hi' w ra (at' l k).1) (hlo : lo ≤ hi) (hhi : hi ≤ hi') :
    PartCopy lo0 hi0 lo hi' (w.setCell ⟨b, k * 2, none⟩ (.slice ra (at' l k).1.length rc)) b l n (k + 1) := by
  obtain ⟨f, R, C, h1, h2, h3, h4⟩ := h
  have hgb : (at' l k).1 ≠ [] → ∀ c, ra = some ⟨c, 0, none⟩ → hi ≤ c := by
    intro hne c hc
    rcases hr with h | ⟨c', e, h5, _, _⟩
    · exact absurd h hne
    · rw [hc] at e; simp at e; omega
  refine ⟨_, fun i => if i = k then ra else R i, fun i => if i = k then rc else C i, h1.set (k * 2) (by omega) _, fun i hin => ?_, fun i hki hin => ?_, fun i hik => ?_⟩
  · have n4 : ¬ i * 2 + 1 = k * 2 := by omega
    by_cases e : i = k
    · subst e
      refine ⟨by simp, by simp only [n4, if_false]; exact (h2 i hin).2⟩
    · have n2 : ¬ i * 2 = k * 2 := by omega
      exact ⟨by simp only [n2, if_false, e]; exact (h2 i hin).1, by simp only [n4, if_false]; exact (h2 i hin).2⟩
  · have e : ¬ i = k := by omega
    simp only [e, if_false]
    rcases h3 i (by omega) hin with h | ⟨c, o, ec, h5, h6, h7⟩
    · exact .inl h
    · refine .inr ⟨c, o, ec, h5, h6, fun j hj => ?_⟩
      rw [← h7 j hj]
      unfold World.cell?
      rw [Below.heap_setCell w ⟨b, k * 2, none⟩ _ c (by simp; omega)]
  · by_cases e : i = k
    · subst e
      simp only [if_true]
      refine ⟨(hr.wide hlo (Nat.le_refl _)).setAway (fun hne e2 => ?_) _, fun hne => ⟨fun c hc => ?_, fun j hj hnj => ?_⟩⟩
      · have := hgb hne b e2; omega
      · have := hgb hne c hc; omega
      · have : ¬ j = i := by omega
        simp only [this, if_false]
        intro e3
        rcases (h4 j hj).1 with h | ⟨c, ec, _, hc, _⟩
        · exact hnj h
        · have := hgb hne c (by rw [← e3]; exact ec); omega
    · simp only [e, if_false]
      have hik' : i < k := by omega
      refine ⟨((h4 i hik').1.setAway (fun hne e2 => ((h4 i hik').2 hne).1 b e2 rfl) _).wide (Nat.le_refl _) hhi, fun hne => ⟨((h4 i hik').2 hne).1, fun j hj hnj => ?_⟩⟩
      have : ¬ j = k := by omega
      simp only [this, if_false]
      exact ((h4 i hik').2 hne).2 j hj hnj

/-- the cells of a list of items -/
theorem bag_cells {lo hi : Nat} {w : World} {ao : Option Addr} {l : List It} (h : BagIn lo hi w ao l) (hne : l ≠ []) : ∃ (b o : Nat) (f : Nat → Value) (R : Nat → Option Addr) (C : Nat → Nat), ao = some ⟨b, o, none⟩ ∧ lo ≤ b ∧ b < hi ∧ (∀ j, j < l.length * 2 → w.cell? ⟨b, o + j, none⟩ = some (f j)) ∧
    ∀ i, i < l.length → (f (i * 2) = .slice (R i) (at' l i).1.length (C i) ∧ f (i * 2 + 1) = .int .i64 (at' l i).2) ∧ RowIn lo hi w (R i) (at' l i).1 := by
  rcases h with h | ⟨b, o, e, h1, h2, h3⟩
  · exact absurd h hne
  · have each : ∀ i, i < l.length → ∃ q : Option Addr × Nat, w.cell? ⟨b, o + i * 2, none⟩ = some (.slice q.1 (at' l i).1.length q.2) ∧ RowIn lo hi w q.1 (at' l i).1 ∧ w.cell? ⟨b, o + i * 2 + 1, none⟩ = some (.int .i64 (at' l i).2) := by
      intro i hi
      obtain ⟨ra, rc, h4, h5, h6⟩ := h3 i hi
      exact ⟨(ra, rc), h4, h5, h6⟩
    obtain ⟨q, hq⟩ := Go.Deep.choose_lt each
    refine ⟨b, o, fun j => (w.cell? ⟨b, o + j, none⟩).getD (.int .i64 0), fun i => (q i).1, fun i => (q i).2, e, h1, h2, fun j hj => ?_, fun i hi => ⟨⟨?_, ?_⟩, (hq i hi).2.1⟩⟩
    · show w.cell? ⟨b, o + j, none⟩ = some ((w.cell? ⟨b, o + j, none⟩).getD (.int .i64 0))
      have hjd := Nat.div_add_mod j 2
      have hjm := Nat.mod_lt j (show 0 < 2 by omega)
      have hjl : j / 2 < l.length := by omega
      obtain ⟨c1, _, c2⟩ := hq (j / 2) hjl
      rcases Nat.lt_or_ge (j % 2) 1 with h | h
      · have e1 : j = j / 2 * 2 := by omega
        rw [← e1] at c1; rw [c1]; rfl
      · have e1 : o + j / 2 * 2 + 1 = o + j := by omega
        rw [e1] at c2; rw [c2]; rfl
    · show (w.cell? ⟨b, o + i * 2, none⟩).getD _ = _
      rw [(hq i hi).1]; rfl
    · show (w.cell? ⟨b, o + (i * 2 + 1), none⟩).getD _ = _
      rw [← Nat.add_assoc, (hq i hi).2.2]; rfl

theorem fn_cells_one {f : Nat → Value} {R : Nat → Option Addr} {C : Nat → Nat} {l : List It} (h : ∀ i, i < l.length → f (i * 2) = .slice (R i) (at' l i).1.length (C i) ∧ f (i * 2 + 1) = .int .i64 (at' l i).2) : ∀ u ∈ (List.range (l.length * 2)).map f, u.oneCell' = true := by
  intro u hu
  obtain ⟨j, hj, rfl⟩ := List.mem_map.1 hu
  have hj' := List.mem_range.1 hj
  have hjd := Nat.div_add_mod j 2
  have hjm := Nat.mod_lt j (show 0 < 2 by omega)
  obtain ⟨c1, c2⟩ := h (j / 2) (by omega)
  rcases Nat.lt_or_ge (j % 2) 1 with h | h
  · have e1 : j / 2 * 2 = j := by omega
    rw [e1] at c1; rw [c1]; rfl
  · have e1 : j / 2 * 2 + 1 = j := by omega
    rw [e1] at c2; rw [c2]; rfl

/-- the first k items with Times 1 -/
def eachTo (l : List It) (k : Nat) : List It := (List.range l.length).map fun i => if i < k then ((at' l i).1, 1) else at' l i
/-- each item with Times 1 -/
def eachOf (l : List It) : List It := l.map fun x => (x.1, 1)
theorem eachTo_len (l : List It) (k : Nat) : (eachTo l k).length = l.length := by simp [eachTo]
theorem eachTo_at {l : List It} {k i : Nat} (h : i < l.length) : at' (eachTo l k) i = if i < k then ((at' l i).1, 1) else at' l i := by simp [eachTo, at', List.getD, h]
theorem eachTo_zero (l : List It) : eachTo l 0 = l := by
  apply List.ext_getElem (by simp [eachTo])
  intro i h1 h2
  simp [eachTo, at', List.getD, h2]
theorem eachTo_all (l : List It) : eachTo l l.length = eachOf l := by
  apply List.ext_getElem (by simp [eachTo, eachOf])
  intro i h1 h2
  have h3 : i < l.length := by simpa [eachTo] using h1
  simp [eachTo, eachOf, at', List.getD, h3]
theorem eachTo_row {l : List It} {k i : Nat} (h : i < l.length) : (at' (eachTo l k) i).1 = (at' l i).1 := by rw [eachTo_at h]; split <;> rfl

/-- one item's Times in place -/
theorem PartOwn.each {lo hi b n k : Nat} {w : World} {l : List It} (h : PartOwn lo hi w b (eachTo l k) n n) (hn : l.length = n) (hk : k < n) : PartOwn lo hi (w.setCell ⟨b, k * 2 + 1, none⟩ (.int .i64 1)) b (eachTo l (k + 1)) n n := by
  obtain ⟨f, R, C, h1, h2⟩ := h
  refine PartOwn.turned (r' := (at' l k).1) (t' := 1) h1 h2 hk (KeptP.refl _ _) ?_ ?_ ?_ ?_
  · have := (h2 k hk).2.2.1
    rw [eachTo_row (by omega)] at this; exact this
  · rw [eachTo_row (by omega)]
  · rw [eachTo_at (by omega), if_pos (by omega)]
  · intro i hi hne
    rw [eachTo_at (by omega), eachTo_at (by omega)]
    by_cases e : i < k
    · rw [if_pos (by omega), if_pos e]
    · rw [if_neg (by omega), if_neg e]
end Go.Proofs.Ytelikebpddhncaa
