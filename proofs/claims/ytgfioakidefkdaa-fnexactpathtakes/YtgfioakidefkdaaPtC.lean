/-
  Marks in all that a path owns, and whether they are held: markPieceS, markPath, heldPieceS, heldPath.
-/
import Derived.Test.YtgfioakidefkdaaPtB
namespace Go.Proofs.Ytgfioakidefkdaa
open Go.RowKit

/-- the first mark of piece i -/
def posP (K : Nat) (l : List Pc) (i : Nat) : Nat := K + kidsLen l i + i * 2
/-- a piece that is marked -/
def mkAtP (K : Nat) (l : List Pc) (i : Nat) : Pc := (((posP K l i : Nat) : Int), ((posP K l i + 1 : Nat) : Int) % 256, marks (posP K l i + 2) (pat l i).2.2.length)
/-- the pieces ahead of place k are marked -/
def mkToP (K : Nat) (l : List Pc) (k : Nat) : List Pc := (List.range l.length).map fun i => if i < k then mkAtP K l i else pat l i
theorem mkToP_len (K : Nat) (l : List Pc) (k : Nat) : (mkToP K l k).length = l.length := by simp [mkToP]
theorem mkToP_at {K : Nat} {l : List Pc} {k i : Nat} (h : i < l.length) : pat (mkToP K l k) i = if i < k then mkAtP K l i else pat l i := by simp [mkToP, pat, List.getD, h]
theorem mkToP_zero (K : Nat) (l : List Pc) : mkToP K l 0 = l := by
  refine pat_ext (mkToP_len K l 0) fun i hi => ?_
  rw [mkToP_at (by rw [mkToP_len] at hi; exact hi)]; simp
theorem mkAtP_len (K : Nat) (l : List Pc) (i : Nat) : (mkAtP K l i).2.2.length = (pat l i).2.2.length := by simp [mkAtP, marks]
theorem mkToP_rowlen {K : Nat} {l : List Pc} {k i : Nat} (h : i < l.length) : (pat (mkToP K l k) i).2.2.length = (pat l i).2.2.length := by
  rw [mkToP_at h]; split
  · exact mkAtP_len K l i
  · rfl
theorem posP_step (K : Nat) (l : List Pc) (k : Nat) : posP K l (k + 1) = posP K l k + 2 + (pat l k).2.2.length := by simp only [posP, kidsLen]; omega

/-- one piece turned in place -/
theorem PartPc.turned {lo hi b n k : Nat} {w w1 : World} {l l' : List Pc} {f : Nat → Value} {R : Nat → Option Addr} {C : Nat → Nat} {r' : List Int} {x' y' : Int}
    (h1 : Blk w b (n * 3) f)
    (h2 : ∀ i, i < n → f (i * 3) = .int .i64 (pat l i).1 ∧ f (i * 3 + 1) = .int .u8 (pat l i).2.1 ∧ f (i * 3 + 2) = .slice (R i) (pat l i).2.2.length (C i) ∧ RowOwn lo hi w (R i) (pat l i).2.2 ∧ ((pat l i).2.2 ≠ [] → (∀ c, R i = some ⟨c, 0, none⟩ → c ≠ b) ∧ ∀ j, j < i → (pat l j).2.2 ≠ [] → R j ≠ R i))
    (hk : k < n) (hK : KeptP (fun c => (pat l k).2.2 ≠ [] ∧ R k = some ⟨c, 0, none⟩) ((w.setCell ⟨b, k * 3, none⟩ (.int .i64 x')).setCell ⟨b, k * 3 + 1, none⟩ (.int .u8 y')) w1) (hr : RowOwn lo hi w1 (R k) r') (hl : r'.length = (pat l k).2.2.length)
    (e1 : pat l' k = (x', y', r')) (e2 : ∀ i, i < n → i ≠ k → pat l' i = pat l i) : PartPc lo hi w1 b l' n n := by
  have hrow : ∀ i, i < n → (pat l' i).2.2.length = (pat l i).2.2.length := by
    intro i hi
    by_cases e : i = k
    · subst e; rw [e1]; exact hl
    · rw [e2 i hi e]
  have hne : ∀ i, i < n → ((pat l' i).2.2 ≠ [] ↔ (pat l i).2.2 ≠ []) := fun i hi => ne_nil_len (hrow i hi)
  have hb0 := (h1.set (k * 3) (by omega) (.int .i64 x')).set (k * 3 + 1) (by omega) (.int .u8 y')
  have hb1 := hK.blk hb0 (fun ⟨h3, h4⟩ => ((h2 k hk).2.2.2.2 h3).1 b h4 rfl)
  refine ⟨_, R, C, hb1, fun i hin => ?_⟩
  obtain ⟨p0, p1, p2, p3, p4⟩ := h2 i hin
  have n1 : ¬ i * 3 = k * 3 + 1 := by omega
  have n2 : ¬ i * 3 + 1 = k * 3 := by omega
  have n3 : ¬ i * 3 + 2 = k * 3 + 1 := by omega
  have n4 : ¬ i * 3 + 2 = k * 3 := by omega
  refine ⟨?_, ?_, by simp only [n3, n4, if_false]; rw [p2, hrow i hin], ?_, ?_⟩
  · simp only [n1, if_false]
    by_cases e : i = k
    · subst e; rw [e1]; simp
    · have n5 : ¬ i * 3 = k * 3 := by omega
      simp only [n5, if_false]; rw [p0, e2 i hin e]
  · by_cases e : i = k
    · subst e; rw [e1]; simp
    · have n5 : ¬ i * 3 + 1 = k * 3 + 1 := by omega
      simp only [n5, n2, if_false]; rw [p1, e2 i hin e]
  · by_cases e : i = k
    · subst e; rw [e1]; exact hr
    · rw [e2 i hin e]
      by_cases hi0 : (pat l i).2.2 = []
      · exact .inl hi0
      · rcases p3 with h | ⟨c, ec, h5, h6, h7⟩
        · exact absurd h hi0
        · have hcb : c ≠ b := (p4 hi0).1 c ec
          have h8 := (h7.of_block (Below.heap_setCell w ⟨b, k * 3, none⟩ (.int .i64 x') c (by simpa using hcb))).of_block (Below.heap_setCell _ ⟨b, k * 3 + 1, none⟩ (.int .u8 y') c (by simpa using hcb))
          refine .inr ⟨c, ec, h5, h6, hK.blk h8 (fun ⟨h9, h10⟩ => ?_)⟩
          rcases Nat.lt_or_ge i k with h | h
          · exact ((h2 k hk).2.2.2.2 h9).2 i h hi0 (by rw [ec, h10])
          · exact (p4 hi0).2 k (by omega) h9 (by rw [ec, h10])
  · intro h3
    have h4 := p4 ((hne i hin).1 h3)
    exact ⟨h4.1, fun j hj hj0 => h4.2 j hj ((hne j (by omega)).1 hj0)⟩

end Go.Proofs.Ytgfioakidefkdaa
