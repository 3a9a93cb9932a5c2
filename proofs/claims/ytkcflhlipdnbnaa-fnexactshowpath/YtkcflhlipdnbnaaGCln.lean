/-
  slices.Clone at edges, impl.newGraph, spec.l04Copy: a graph of the call's own.
-/
import Derived.Test.YtkcflhlipdnbnaaGRdI
import Derived.Test.YtkcflhlipdnbnaaApp
namespace Go.Proofs.Ytkcflhlipdnbnaa
open Go.RowKit

theorem ecells_one (l : List Ed) : ∀ u ∈ ecells l, u.oneCell' = true := by
  intro u hu
  obtain ⟨j, _, rfl⟩ := List.mem_map.1 hu
  unfold ef
  split
  · rfl
  · split <;> rfl
theorem ecells_get {l : List Ed} {j : Nat} (h : j < l.length * 3) : (ecells l)[j]? = some (ef l j) := by simp [ecells, h]
theorem EdgeAt.cell {w : World} {b o i : Nat} {l : List Ed} (h : EdgeAt w b (o + i * 3) (eat l i)) {r : Nat} (hr : r < 3) : w.cell? ⟨b, o + (i * 3 + r), none⟩ = some (ef l (i * 3 + r)) := by
  rcases (show r = 0 ∨ r = 1 ∨ r = 2 by omega) with rfl | rfl | rfl
  · rw [Nat.add_zero, ef0]; exact h.1
  · rw [ef1, ← Nat.add_assoc]; exact h.2.1
  · rw [ef2, ← Nat.add_assoc]; exact h.2.2
theorem ecells_at {lo hi : Nat} {w : World} {ao : Option Addr} {l : List Ed} (h : EdgesIn lo hi w ao l) : ∀ ad, ao = some ad → ∀ j u, (ecells l)[j]? = some u → w.cell? (ad.add j) = some u := by
  intro ad e j u hu
  have hj : j < l.length * 3 := by have := (List.getElem?_eq_some_iff.1 hu).1; simpa [ecells] using this
  rcases h with rfl | ⟨b, o, e2, _, _, h3⟩
  · simp at hj
  · rw [e] at e2
    simp only [Option.some.injEq] at e2
    subst e2
    rw [add_none]
    have hc := (h3 (j / 3) (by omega)).cell (r := j % 3) (by omega)
    rw [show j / 3 * 3 + j % 3 = j by omega] at hc
    rw [hc, ← ecells_get hj, hu]
theorem edgesIn_none {lo hi n : Nat} {w : World} {ao : Option Addr} {l : List Ed} (h : EdgesIn lo hi w ao l) (hn : l.length = n) : ao = none → n = 0 := by
  intro e
  rcases h with rfl | ⟨b, o, e2, _⟩
  · simpa using hn.symm
  · rw [e] at e2; cases e2

theorem blk_pair_cells {w : World} {b : Nat} {x y : Value} (h : Blk w b 2 (fun i => if i = 0 then x else y)) : w.cell? ⟨b, 0, none⟩ = some x ∧ w.cell? ⟨b, 1, none⟩ = some y := ⟨h.cell (i := 0) (by omega), h.cell (i := 1) (by omega)⟩
theorem owns_set {B e s n b j : Nat} {w : World} {v u : Value} {xs : List Value} (ho : w.ownsRow B e s v n xs) (hb : b < B) : (w.setCell ⟨b, j, none⟩ u).ownsRow B e s v n xs :=
  owns_upto (M := w.heap.size) ho (fun k hk => (ho.lt k hk).2) (fun k h1 _ => Below.heap_setCell _ _ _ _ (by simp; omega))
theorem owns_low {B B' e s n : Nat} {w : World} {v : Value} {xs : List Value} (ho : w.ownsRow B e s v n xs) (hb : B' ≤ B) : w.ownsRow B' e s v n xs := by
  refine ⟨ho.1, ?_⟩
  rcases ho.2 with hn | ⟨g, cap, cur, rfl, hg, r⟩
  · exact .inl hn
  · exact .inr ⟨g, cap, cur, rfl, by omega, r⟩

end Go.Proofs.Ytkcflhlipdnbnaa
