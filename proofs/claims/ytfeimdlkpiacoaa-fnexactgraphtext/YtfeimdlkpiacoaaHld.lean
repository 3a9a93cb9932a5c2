/-
  What a law keeps at hand while it goes on: what was there, the boxes of its variables, each of so many cells.
-/
import Derived.Test.YtfeimdlkpiacoaaEdC
namespace Go.Proofs.Ytfeimdlkpiacoaa
open Go.RowKit

/-- what was there is as it was; each box holds its values -/
structure Hold (w wi : World) (bx : List (Nat × List Value)) : Prop where
  bel : Below w.heap.size w wi
  box : ∀ p ∈ bx, Blk wi p.1 p.2.length (fun i => p.2.getD i (.int .i64 0))
theorem Hold.below {w wi wj : World} {bx : List (Nat × List Value)} (h : Hold w wi bx) (hb : Below wi.heap.size wi wj) : Hold w wj bx :=
  ⟨h.bel.trans (hb.mono h.bel.size), fun p hp => (h.box p hp).of_block (hb.block _ (h.box p hp).lt)⟩
theorem Hold.kept {w wi wj : World} {bx : List (Nat × List Value)} {p : Nat → Prop} (h : Hold w wi bx) (hk : KeptP p wi wj) (h1 : ∀ x ∈ bx, ¬ p x.1) (h2 : ∀ k, p k → w.heap.size ≤ k) : Hold w wj bx :=
  ⟨h.bel.trans (hk.to_below h.bel.size h2), fun x hx => hk.blk (h.box x hx) (h1 x hx)⟩
theorem blk_list (w : World) (b : Nat) (hb : b = w.heap.size) (vs : List Value) (T : TypeId) : Blk (w.alloc (.cells vs.toArray T)) b vs.length (fun i => vs.getD i (.int .i64 0)) :=
  hb ▸ blk_new w vs.toArray T _ (fun i hi => by
    have hi' : i < vs.length := by simpa using hi
    simp [List.getD, hi'])
theorem Hold.more {w wi : World} {bx : List (Nat × List Value)} (h : Hold w wi bx) (vs : List Value) (T : TypeId) : Hold w (wi.alloc (.cells vs.toArray T)) ((wi.heap.size, vs) :: bx) :=
  ⟨h.bel.alloc h.bel.size _, fun p hp => by
    rcases List.mem_cons.1 hp with rfl | hp
    · exact blk_list wi _ rfl vs T
    · exact (h.box p hp).alloc _⟩
theorem Hold.cell {w wi : World} {bx : List (Nat × List Value)} (h : Hold w wi bx) {b : Nat} {vs : List Value} {i : Nat} (hm : (b, vs) ∈ bx) (hi : i < vs.length) : wi.cell? ⟨b, i, none⟩ = some (vs.getD i (.int .i64 0)) := (h.box _ hm).cell (i := i) hi
theorem Hold.frozen {w wi : World} {bx : List (Nat × List Value)} (h : Hold w wi bx) {b : Nat} {vs : List Value} (i : Nat) (hm : (b, vs) ∈ bx) : wi.frozen? ⟨b, i, none⟩ = false := (h.box _ hm).frozen i
theorem Hold.lt {w wi : World} {bx : List (Nat × List Value)} (h : Hold w wi bx) {b : Nat} {vs : List Value} (hm : (b, vs) ∈ bx) : b < wi.heap.size := (h.box _ hm).lt
theorem Hold.none (w : World) : Hold w w [] := ⟨Below.refl _ _, fun p hp => by simp at hp⟩
theorem Hold.less {w wi : World} {bx bx' : List (Nat × List Value)} (h : Hold w wi bx) (hs : ∀ p ∈ bx', p ∈ bx) : Hold w wi bx' := ⟨h.bel, fun p hp => h.box p (hs p hp)⟩
theorem Hold.drew {w wi : World} {bx : List (Nat × List Value)} (h : Hold w wi bx) : Hold w wi.drew bx := h.below ((Below.refl _ _).drew)
/-- a store into a box -/
theorem Hold.put {w wi : World} {bx : List (Nat × List Value)} {b j : Nat} {vs : List Value} (h : Hold w wi ((b, vs) :: bx)) (hj : j < vs.length) (v : Value) (hb : w.heap.size ≤ b) (hn : ∀ p ∈ bx, p.1 ≠ b) : Hold w (wi.setCell ⟨b, j, Option.none⟩ v) ((b, vs.set j v) :: bx) :=
  ⟨h.bel.setCell hb v, fun p hp => by
    rcases List.mem_cons.1 hp with rfl | hp
    · have h1 := (h.box (b, vs) (by simp)).set j hj v
      show Blk _ b (vs.set j v).length _
      rw [List.length_set]
      refine h1.congr fun i hi => ?_
      by_cases e : i = j
      · subst e; simp [List.getD, show i < vs.length from hj]
      · simp [List.getD, e, List.getElem?_set_ne (Ne.symm e)]
    · exact (h.box p (List.mem_cons_of_mem _ hp)).of_block (Below.heap_setCell _ _ _ _ (hn p hp))⟩
end Go.Proofs.Ytfeimdlkpiacoaa
