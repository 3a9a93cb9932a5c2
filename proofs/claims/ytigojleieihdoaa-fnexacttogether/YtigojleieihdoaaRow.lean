/-
  Rows of ints: how one lies in the world; the functions that go through one or two of them.
-/
import Derived.Test.YtigojleieihdoaaCur
namespace Go.Proofs.Ytigojleieihdoaa
open Go.RowKit

/-- a row of ints that is reached by a slice; its block is one of lo .. hi - 1 -/
def RowIn (lo hi : Nat) (w : World) (a : Option Addr) (l : List Int) : Prop :=
  l = [] ∨ ∃ b o, a = some ⟨b, o, none⟩ ∧ lo ≤ b ∧ b < hi ∧ ∀ i, i < l.length → w.cell? ⟨b, o + i, none⟩ = some (.int .i64 (l.getD i 0))

theorem cell_below {w w' : World} {hi b o : Nat} {v : Value} (h : w.cell? ⟨b, o, none⟩ = some v) (hb : Below hi w w') (hi' : b < hi) : w'.cell? ⟨b, o, none⟩ = some v := by
  rw [← h]; unfold World.cell?; rw [hb.block b hi']

theorem RowIn.below {lo hi B : Nat} {w w' : World} {a : Option Addr} {l : List Int} (h : RowIn lo hi w a l) (hb : Below B w w') (hB : hi ≤ B) : RowIn lo hi w' a l := by
  rcases h with h | ⟨b, o, e, h1, h2, h3⟩
  · exact .inl h
  · exact .inr ⟨b, o, e, h1, h2, fun i hi => cell_below (h3 i hi) hb (by omega)⟩

theorem RowIn.wide {lo hi lo' hi' : Nat} {w : World} {a : Option Addr} {l : List Int} (h : RowIn lo hi w a l) (h1 : lo' ≤ lo) (h2 : hi ≤ hi') : RowIn lo' hi' w a l := by
  rcases h with h | ⟨b, o, e, h3, h4, h5⟩
  · exact .inl h
  · exact .inr ⟨b, o, e, by omega, by omega, h5⟩

/-- as it was, but for draws -/
def Drawn (w w' : World) : Prop := ∃ m, w' = w.drewN m
theorem Drawn.refl (w : World) : Drawn w w := ⟨0, rfl⟩
theorem Drawn.drewN {a w : World} (h : Drawn a w) (n : Nat) : Drawn a (w.drewN n) := by
  obtain ⟨m, rfl⟩ := h
  exact ⟨m + n, World.drewN_drewN _ _ _⟩
theorem Drawn.below {w w' : World} (h : Drawn w w') : Below w.heap.size w w' := by
  obtain ⟨m, rfl⟩ := h
  exact below_drewN (Below.refl _ _) _

theorem ext_getD {l l' : List Int} {n : Nat} (h1 : l.length = n) (h2 : l'.length = n) (h : ∀ j, j < n → l.getD j 0 = l'.getD j 0) : l = l' := by
  apply List.ext_getElem (by omega)
  intro i hi hi'
  have := h i (by omega)
  simpa [List.getD, hi, hi'] using this

theorem getD_of_eq {l l' : List Int} (h : l = l') (k : Nat) : l.getD k 0 = l'.getD k 0 := by rw [h]

end Go.Proofs.Ytigojleieihdoaa
