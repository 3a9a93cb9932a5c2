/-
  slices.Clone at rows and at pieces; newPath.
-/
import Derived.Test.YtdbogikcmfnpdaaLay
namespace Go.Proofs.Ytdbogikcmfnpdaa
open Go.RowKit

/-- a copied list of pieces: the kids of the first k are new, the others are still those of the list that was copied -/
def PartCopyP (lo0 hi0 lo hi : Nat) (w : World) (b : Nat) (l : List Pc) (n k : Nat) : Prop :=
  ∃ (f : Nat → Value) (R : Nat → Option Addr) (C : Nat → Nat), Blk w b (n * 3) f ∧
    (∀ i, i < n → f (i * 3) = .int .i64 (pat l i).1 ∧ f (i * 3 + 1) = .int .u8 (pat l i).2.1 ∧ f (i * 3 + 2) = .slice (R i) (pat l i).2.2.length (C i)) ∧
    (∀ i, k ≤ i → i < n → RowIn lo0 hi0 w (R i) (pat l i).2.2) ∧
    ∀ i, i < k → RowOwn lo hi w (R i) (pat l i).2.2 ∧ ((pat l i).2.2 ≠ [] → (∀ c, R i = some ⟨c, 0, none⟩ → c ≠ b) ∧ ∀ j, j < i → (pat l j).2.2 ≠ [] → R j ≠ R i)
theorem PartCopyP.below {lo0 hi0 lo hi B b : Nat} {w w' : World} {l : List Pc} {n k : Nat} (h : PartCopyP lo0 hi0 lo hi w b l n k) (hb : Below B w w') (hB : hi ≤ B) (hB0 : hi0 ≤ B) (hl : b < B) : PartCopyP lo0 hi0 lo hi w' b l n k := by
  obtain ⟨f, R, C, h1, h2, h3, h4⟩ := h
  refine ⟨f, R, C, h1.of_block (hb.block b hl), h2, fun i hi hi' => (h3 i hi hi').below hb hB0, fun i hi => ⟨(h4 i hi).1.below hb hB, (h4 i hi).2⟩⟩
theorem PartCopyP.done {lo0 hi0 lo hi : Nat} {w : World} {b : Nat} {l : List Pc} {n : Nat} (h : PartCopyP lo0 hi0 lo hi w b l n n) : PartPc lo hi w b l n n := by
  obtain ⟨f, R, C, h1, h2, _, h4⟩ := h
  exact ⟨f, R, C, h1, fun i hi => ⟨(h2 i hi).1, (h2 i hi).2.1, (h2 i hi).2.2, (h4 i hi).1, (h4 i hi).2⟩⟩
theorem RowOwn.setAway {lo hi b j : Nat} {w : World} {a : Option Addr} {r : List Int} (h : RowOwn lo hi w a r) (hne : r ≠ [] → a ≠ some ⟨b, 0, none⟩) (v : Value) : RowOwn lo hi (w.setCell ⟨b, j, none⟩ v) a r := by
  by_cases h0 : r = []
  · exact .inl h0
  · rcases h with h | ⟨c, e, h3, h4, h5⟩
    · exact absurd h h0
    · have hcb : c ≠ b := by intro e2; subst e2; exact hne h0 e
      exact .inr ⟨c, e, h3, h4, h5.of_block (Below.heap_setCell w _ _ c (by simpa using hcb))⟩
theorem PartCopyP.step {lo0 hi0 lo hi hi' b rc : Nat} {ra : Option Addr} {w : World} {l : List Pc} {n k : Nat} (h : PartCopyP lo0 hi0 lo hi w b l n k) (hk : k < n) (hb0 : hi0 ≤ b) (hb : b < hi) (hr : RowOwn hi hi' w ra (pat l k).2.2) (hlo : lo ≤ hi) (hhi : hi ≤ hi') :
    PartCopyP lo0 hi0 lo hi' (w.setCell ⟨b, k * 3 + 2, none⟩ (.slice ra (pat l k).2.2.length rc)) b l n (k + 1) := by
  obtain ⟨f, R, C, h1, h2, h3, h4⟩ := h
  have hgb : (pat l k).2.2 ≠ [] → ∀ c, ra = some ⟨c, 0, none⟩ → hi ≤ c := by
    intro hne c hc
    rcases hr with h | ⟨c', e, h5, _, _⟩
    · exact absurd h hne
    · rw [hc] at e; simp at e; omega
  refine ⟨_, fun i => if i = k then ra else R i, fun i => if i = k then rc else C i, h1.set (k * 3 + 2) (by omega) _, fun i hin => ?_, fun i hki hin => ?_, fun i hik => ?_⟩
  · have n4 : ¬ i * 3 = k * 3 + 2 := by omega
    have n5 : ¬ i * 3 + 1 = k * 3 + 2 := by omega
    by_cases e : i = k
    · subst e
      refine ⟨by simp only [n4, if_false]; exact (h2 i hin).1, by simp only [n5, if_false]; exact (h2 i hin).2.1, by simp⟩
    · have n2 : ¬ i * 3 + 2 = k * 3 + 2 := by omega
      exact ⟨by simp only [n4, if_false]; exact (h2 i hin).1, by simp only [n5, if_false]; exact (h2 i hin).2.1, by simp only [n2, if_false, e]; exact (h2 i hin).2.2⟩
  · have e : ¬ i = k := by omega
    simp only [e, if_false]
    rcases h3 i (by omega) hin with h | ⟨c, o, ec, h5, h6, h7⟩
    · exact .inl h
    · refine .inr ⟨c, o, ec, h5, h6, fun j hj => ?_⟩
      rw [← h7 j hj]
      unfold World.cell?
      rw [Below.heap_setCell w ⟨b, k * 3 + 2, none⟩ _ c (by simp; omega)]
  · by_cases e : i = k
    · subst e
      simp only [if_true]
      refine ⟨(hr.wide hlo (Nat.le_refl _)).setAway (fun hne e2 => ?_) _, fun hne => ⟨fun c hc => ?_, fun j hj hnj => ?_⟩⟩
      · have := hgb hne b e2; omega
      · have := hgb hne c hc; omega
      · have : ¬ j = i := by omega
        simp only [this, if_false]
        intro e3
        rcases (h4 j hj).1 with h | ⟨c, ec, _, hc, _⟩
        · exact hnj h
        · have := hgb hne c (by rw [← e3]; exact ec); omega
    · simp only [e, if_false]
      have hik' : i < k := by omega
      refine ⟨((h4 i hik').1.setAway (fun hne e2 => ((h4 i hik').2 hne).1 b e2 rfl) _).wide (Nat.le_refl _) hhi, fun hne => ⟨((h4 i hik').2 hne).1, fun j hj hnj => ?_⟩⟩
      have : ¬ j = k := by omega
      simp only [this, if_false]
      exact ((h4 i hik').2 hne).2 j hj hnj

/-- the cells of a list of pieces -/
theorem path_cells {lo hi : Nat} {w : World} {ao : Option Addr} {l : List Pc} (h : PathIn lo hi w ao l) (hne : l ≠ []) : ∃ (b o : Nat) (f : Nat → Value) (R : Nat → Option Addr) (C : Nat → Nat), ao = some ⟨b, o, none⟩ ∧ lo ≤ b ∧ b < hi ∧ (∀ j, j < l.length * 3 → w.cell? ⟨b, o + j, none⟩ = some (f j)) ∧
    ∀ i, i < l.length → (f (i * 3) = .int .i64 (pat l i).1 ∧ f (i * 3 + 1) = .int .u8 (pat l i).2.1 ∧ f (i * 3 + 2) = .slice (R i) (pat l i).2.2.length (C i)) ∧ RowIn lo hi w (R i) (pat l i).2.2 := by
  rcases h with h | ⟨b, o, e, h1, h2, h3⟩
  · exact absurd h hne
  · have each : ∀ i, i < l.length → ∃ q : Option Addr × Nat, w.cell? ⟨b, o + i * 3, none⟩ = some (.int .i64 (pat l i).1) ∧ w.cell? ⟨b, o + i * 3 + 1, none⟩ = some (.int .u8 (pat l i).2.1) ∧ w.cell? ⟨b, o + i * 3 + 2, none⟩ = some (.slice q.1 (pat l i).2.2.length q.2) ∧ RowIn lo hi w q.1 (pat l i).2.2 := by
      intro i hi
      obtain ⟨h4, h5, ra, rc, h6, h7⟩ := h3 i hi
      exact ⟨(ra, rc), h4, h5, h6, h7⟩
    obtain ⟨q, hq⟩ := Go.Deep.choose_lt each
    refine ⟨b, o, fun j => (w.cell? ⟨b, o + j, none⟩).getD (.int .i64 0), fun i => (q i).1, fun i => (q i).2, e, h1, h2, fun j hj => ?_, fun i hi => ⟨⟨?_, ?_, ?_⟩, (hq i hi).2.2.2⟩⟩
    · show w.cell? ⟨b, o + j, none⟩ = some ((w.cell? ⟨b, o + j, none⟩).getD (.int .i64 0))
      have hjd := Nat.div_add_mod j 3
      have hjm := Nat.mod_lt j (show 0 < 3 by omega)
      obtain ⟨c0, c1, c2, _⟩ := hq (j / 3) (by omega)
      rcases (show j % 3 = 0 ∨ j % 3 = 1 ∨ j % 3 = 2 by omega) with h | h | h
      · have e1 : o + j / 3 * 3 = o + j := by omega
        rw [e1] at c0; rw [c0]; rfl
      · have e1 : o + j / 3 * 3 + 1 = o + j := by omega
        rw [e1] at c1; rw [c1]; rfl
      · have e1 : o + j / 3 * 3 + 2 = o + j := by omega
        rw [e1] at c2; rw [c2]; rfl
    · show (w.cell? ⟨b, o + i * 3, none⟩).getD _ = _
      rw [(hq i hi).1]; rfl
    · show (w.cell? ⟨b, o + (i * 3 + 1), none⟩).getD _ = _
      rw [← Nat.add_assoc, (hq i hi).2.1]; rfl
    · show (w.cell? ⟨b, o + (i * 3 + 2), none⟩).getD _ = _
      rw [← Nat.add_assoc, (hq i hi).2.2.1]; rfl
theorem pc_cells_one {f : Nat → Value} {R : Nat → Option Addr} {C : Nat → Nat} {l : List Pc} (h : ∀ i, i < l.length → f (i * 3) = .int .i64 (pat l i).1 ∧ f (i * 3 + 1) = .int .u8 (pat l i).2.1 ∧ f (i * 3 + 2) = .slice (R i) (pat l i).2.2.length (C i)) : ∀ u ∈ (List.range (l.length * 3)).map f, u.oneCell' = true := by
  intro u hu
  obtain ⟨j, hj, rfl⟩ := List.mem_map.1 hu
  have hj' := List.mem_range.1 hj
  have hjd := Nat.div_add_mod j 3
  have hjm := Nat.mod_lt j (show 0 < 3 by omega)
  obtain ⟨c0, c1, c2⟩ := h (j / 3) (by omega)
  rcases (show j % 3 = 0 ∨ j % 3 = 1 ∨ j % 3 = 2 by omega) with h | h | h
  · have e1 : j / 3 * 3 = j := by omega
    rw [e1] at c0; rw [c0]; rfl
  · have e1 : j / 3 * 3 + 1 = j := by omega
    rw [e1] at c1; rw [c1]; rfl
  · have e1 : j / 3 * 3 + 2 = j := by omega
    rw [e1] at c2; rw [c2]; rfl

end Go.Proofs.Ytdbogikcmfnpdaa
