/-
  A box of one cell, and a bag beside it.
-/
import Derived.Test.YtelikebpddhncaaPutS
import Derived.Test.YtelikebpddhncaaSrt
namespace Go.Proofs.Ytelikebpddhncaa
open Go.RowKit

/-- a block of one cell -/
def One (w : World) (b : Nat) (v : Value) : Prop := w.heap[b]? = some (.cells #[v] 26 (0, 0))
theorem One.lt {w : World} {b : Nat} {v : Value} (h : One w b v) : b < w.heap.size := (Array.getElem?_eq_some_iff.1 h).1
theorem One.blk {w : World} {b : Nat} {v : Value} (h : One w b v) : Blk w b 1 (fun _ => v) := ⟨_, _, h, fun i hi => by simp [show i = 0 by omega]⟩
theorem One.block {w w' : World} {b : Nat} {v : Value} (h : One w b v) (e : w'.heap[b]? = w.heap[b]?) : One w' b v := by unfold One; rw [e]; exact h
theorem One.new (w : World) (b : Nat) (hb : b = w.heap.size) (v : Value) : One (w.alloc (.cells #[v] 26)) b v := by rw [hb]; exact (MapKept.heap_alloc w _).1
theorem One.set {w : World} {b : Nat} {v : Value} (h : One w b v) (u : Value) : One (w.setCell ⟨b, 0, none⟩ u) b u := by
  have hl := h.lt
  unfold One at *
  simp [World.setCell, Array.getElem?_modify, h]
theorem One.cell1 {w : World} {b j : Nat} {v u : Value} (h : One w b v) (hc : w.cell? ⟨b, j, none⟩ = some u) : j = 0 ∧ u = v := by
  unfold One at h
  unfold World.cell? at hc
  rw [h] at hc
  simp at hc
  rcases Nat.eq_zero_or_pos j with h0 | h0
  · subst h0; simp at hc; exact ⟨rfl, hc.symm⟩
  · rw [List.getElem?_eq_none (by simp; omega)] at hc; cases hc
theorem row_one_set {lo hi ob : Nat} {w : World} {a : Option Addr} {l : List Int} {x : Option Addr} {y z : Nat} (h : RowIn lo hi w a l) (ho : One w ob (.slice x y z)) (u : Value) : RowIn lo hi (w.setCell ⟨ob, 0, none⟩ u) a l := by
  rcases h with h | ⟨b, o, e, h1, h2, h3⟩
  · exact .inl h
  · by_cases h0 : l = []
    · exact .inl h0
    · have hne : b ≠ ob := by
        rintro rfl
        have := ho.cell1 (h3 0 (by cases l with | nil => exact absurd rfl h0 | cons x xs => simp))
        cases this.2
      exact .inr ⟨b, o, e, h1, h2, fun i hi => cell_set (h3 i hi) u hne⟩
theorem bag_one_set {lo hi ob : Nat} {w : World} {a : Option Addr} {l : List It} {x : Option Addr} {y z : Nat} (h : BagIn lo hi w a l) (ho : One w ob (.slice x y z)) (u : Value) : BagIn lo hi (w.setCell ⟨ob, 0, none⟩ u) a l := by
  rcases h with h | ⟨b, o, e, h1, h2, h3⟩
  · exact .inl h
  · refine .inr ⟨b, o, e, h1, h2, fun i hi => ?_⟩
    obtain ⟨ra, rc, c1, hr, c2⟩ := h3 i hi
    have hne : b ≠ ob := by
      rintro rfl
      have := (ho.cell1 c2).1
      omega
    exact ⟨ra, rc, cell_set c1 u hne, row_one_set hr ho u, cell_set c2 u hne⟩
end Go.Proofs.Ytelikebpddhncaa
