/-
  Marks in all that a bag owns, and whether they are held: markItemS, markBag, heldItemS, heldBag.
-/
import Derived.Test.YtfeimdlkpiacoaaItemC
namespace Go.Proofs.Ytfeimdlkpiacoaa
open Go.RowKit

/-- the first mark of item i -/
def pos (K : Nat) (l : List It) (i : Nat) : Nat := K + rowsLen l i + i
/-- an item that is marked -/
def mkAt (K : Nat) (l : List It) (i : Nat) : It := (marks (pos K l i) (at' l i).1.length, ((pos K l i + (at' l i).1.length : Nat) : Int))
/-- the items ahead of place k are marked -/
def mkTo (K : Nat) (l : List It) (k : Nat) : List It := (List.range l.length).map fun i => if i < k then mkAt K l i else at' l i
theorem mkTo_len (K : Nat) (l : List It) (k : Nat) : (mkTo K l k).length = l.length := by simp [mkTo]
theorem mkTo_at {K : Nat} {l : List It} {k i : Nat} (h : i < l.length) : at' (mkTo K l k) i = if i < k then mkAt K l i else at' l i := by simp [mkTo, at', List.getD, h]
theorem mkTo_zero (K : Nat) (l : List It) : mkTo K l 0 = l := by
  apply List.ext_getElem (by simp [mkTo])
  intro i h1 h2
  simp [mkTo, at', List.getD, h2]
theorem mkAt_len (K : Nat) (l : List It) (i : Nat) : (mkAt K l i).1.length = (at' l i).1.length := by simp [mkAt, marks]
theorem mkTo_rowlen {K : Nat} {l : List It} {k i : Nat} (h : i < l.length) : (at' (mkTo K l k) i).1.length = (at' l i).1.length := by
  rw [mkTo_at h]; split
  · exact mkAt_len K l i
  · rfl
theorem pos_step (K : Nat) (l : List It) (k : Nat) : pos K l (k + 1) = pos K l k + (at' l k).1.length + 1 := by simp only [pos, rowsLen]; omega
theorem ne_nil_len {r r' : List Int} (h : r.length = r'.length) : r ≠ [] ↔ r' ≠ [] := by
  constructor
  · intro h1 h2; subst h2; exact h1 (List.length_eq_zero_iff.1 (by simpa using h))
  · intro h1 h2; subst h2; exact h1 (List.length_eq_zero_iff.1 (by simpa using h.symm))

theorem below1' (w : World) (o1 : Obj) : Below w.heap.size w (w.alloc o1) := (Below.refl _ _).alloc (Nat.le_refl _) _

/-- one item turned in place -/
theorem PartOwn.turned {lo hi b n k : Nat} {w w1 : World} {l l' : List It} {f : Nat → Value} {R : Nat → Option Addr} {C : Nat → Nat} {r' : List Int} {t' : Int}
    (h1 : Blk w b (n * 2) f)
    (h2 : ∀ i, i < n → f (i * 2) = .slice (R i) (at' l i).1.length (C i) ∧ f (i * 2 + 1) = .int .i64 (at' l i).2 ∧ RowOwn lo hi w (R i) (at' l i).1 ∧ ((at' l i).1 ≠ [] → (∀ c, R i = some ⟨c, 0, none⟩ → c ≠ b) ∧ ∀ j, j < i → (at' l j).1 ≠ [] → R j ≠ R i))
    (hk : k < n) (hK : KeptP (fun c => (at' l k).1 ≠ [] ∧ R k = some ⟨c, 0, none⟩) w w1) (hr : RowOwn lo hi w1 (R k) r') (hl : r'.length = (at' l k).1.length)
    (e1 : at' l' k = (r', t')) (e2 : ∀ i, i < n → i ≠ k → at' l' i = at' l i) : PartOwn lo hi (w1.setCell ⟨b, k * 2 + 1, none⟩ (.int .i64 t')) b l' n n := by
  have hrow : ∀ i, i < n → (at' l' i).1.length = (at' l i).1.length := by
    intro i hi
    by_cases e : i = k
    · subst e; rw [e1]; exact hl
    · rw [e2 i hi e]
  have hne : ∀ i, i < n → ((at' l' i).1 ≠ [] ↔ (at' l i).1 ≠ []) := fun i hi => ne_nil_len (hrow i hi)
  have hb1 : Blk w1 b (n * 2) f := hK.blk h1 (fun ⟨h3, h4⟩ => ((h2 k hk).2.2.2 h3).1 b h4 rfl)
  refine ⟨_, R, C, hb1.set (k * 2 + 1) (by omega) _, fun i hin => ?_⟩
  obtain ⟨p1, p2, p3, p4⟩ := h2 i hin
  have n1 : ¬ i * 2 = k * 2 + 1 := by omega
  refine ⟨by simp only [n1, if_false]; rw [p1, hrow i hin], ?_, ?_, ?_⟩
  · by_cases e : i = k
    · subst e; rw [e1]; simp
    · have n2 : ¬ i * 2 + 1 = k * 2 + 1 := by omega
      simp only [n2, if_false]; rw [p2, e2 i hin e]
  · have base : RowOwn lo hi w1 (R i) (at' l' i).1 := by
      by_cases e : i = k
      · subst e; rw [e1]; exact hr
      · rw [e2 i hin e]
        rcases p3 with h | ⟨c, ec, h5, h6, h7⟩
        · exact .inl h
        · by_cases hi0 : (at' l i).1 = []
          · exact .inl hi0
          · refine .inr ⟨c, ec, h5, h6, hK.blk h7 (fun ⟨h8, h9⟩ => ?_)⟩
            rcases Nat.lt_or_ge i k with h | h
            · exact ((h2 k hk).2.2.2 h8).2 i h hi0 (by rw [ec, h9])
            · exact (p4 hi0).2 k (by omega) h8 (by rw [ec, h9])
    by_cases hi0 : (at' l' i).1 = []
    · exact .inl hi0
    · rcases base with h | ⟨c, ec, h5, h6, h7⟩
      · exact absurd h hi0
      · have hcb : c ≠ b := (p4 ((hne i hin).1 hi0)).1 c ec
        exact .inr ⟨c, ec, h5, h6, h7.of_block (Below.heap_setCell _ _ _ c (by simpa using hcb))⟩
  · intro h3
    have h4 := p4 ((hne i hin).1 h3)
    exact ⟨h4.1, fun j hj hj0 => h4.2 j hj ((hne j (by omega)).1 hj0)⟩

end Go.Proofs.Ytfeimdlkpiacoaa
