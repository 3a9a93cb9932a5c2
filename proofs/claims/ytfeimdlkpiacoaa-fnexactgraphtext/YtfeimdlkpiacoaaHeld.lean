/-
  What a law keeps at hand while it goes on: what was there, the boxes of its variables. toBag, toIntS, eqBag, markBag, heldBag in these words.
-/
import Derived.Test.YtfeimdlkpiacoaaMarkB
namespace Go.Proofs.Ytfeimdlkpiacoaa
open Go.RowKit

/-- what was there is as it was; each box holds its value -/
structure Held (w wi : World) (bx : List (Nat × Value)) : Prop where
  bel : Below w.heap.size w wi
  box : ∀ p ∈ bx, Blk wi p.1 1 (fun _ => p.2)
theorem Held.below {w wi wj : World} {bx : List (Nat × Value)} (h : Held w wi bx) (hb : Below wi.heap.size wi wj) : Held w wj bx :=
  ⟨h.bel.trans (hb.mono h.bel.size), fun p hp => (h.box p hp).of_block (hb.block _ (h.box p hp).lt)⟩
theorem Held.kept {w wi wj : World} {bx : List (Nat × Value)} {p : Nat → Prop} (h : Held w wi bx) (hk : KeptP p wi wj) (h1 : ∀ x ∈ bx, ¬ p x.1) (h2 : ∀ k, p k → w.heap.size ≤ k) : Held w wj bx :=
  ⟨h.bel.trans (hk.to_below h.bel.size h2), fun x hx => hk.blk (h.box x hx) (h1 x hx)⟩
theorem Held.more {w wi : World} {bx : List (Nat × Value)} (h : Held w wi bx) (v : Value) (T : TypeId) : Held w (wi.alloc (.cells #[v] T)) ((wi.heap.size, v) :: bx) :=
  ⟨h.bel.alloc h.bel.size _, fun p hp => by
    rcases List.mem_cons.1 hp with rfl | hp
    · exact blk_one wi _ rfl _ _
    · exact (h.box p hp).alloc _⟩
theorem Held.cell {w wi : World} {bx : List (Nat × Value)} (h : Held w wi bx) {b : Nat} {v : Value} (hm : (b, v) ∈ bx) : wi.cell? ⟨b, 0, none⟩ = some v := (h.box _ hm).cell (i := 0) (by omega)
theorem Held.lt {w wi : World} {bx : List (Nat × Value)} (h : Held w wi bx) {b : Nat} {v : Value} (hm : (b, v) ∈ bx) : b < wi.heap.size := (h.box _ hm).lt
theorem Held.start (w : World) (v : Value) (T : TypeId) : Held w (w.alloc (.cells #[v] T)) [(w.heap.size, v)] :=
  ⟨below1' w _, fun p hp => by simp at hp; subst hp; exact blk_one w _ rfl _ _⟩

theorem BagOwn.kept {lo hi : Nat} {p : Nat → Prop} {w w' : World} {a : Option Addr} {l : List It} (h : BagOwn lo hi w a l) (hk : KeptP p w w') (hh : hi ≤ w.heap.size) (hp : ∀ c, lo ≤ c → c < hi → ¬ p c) : BagOwn lo hi w' a l := by
  rcases h with h | ⟨b, e, h1, h2, h3⟩
  · exact .inl h
  · exact .inr ⟨b, e, h1, h2, h3.of_blocks (hk.block b (by omega) (hp b h1 h2)) (fun c h4 h5 => hk.block c (by omega) (hp c h4 h5))⟩
theorem RowOwn.kept {lo hi : Nat} {p : Nat → Prop} {w w' : World} {a : Option Addr} {l : List Int} (h : RowOwn lo hi w a l) (hk : KeptP p w w') (hp : ∀ c, lo ≤ c → c < hi → ¬ p c) : RowOwn lo hi w' a l := by
  rcases h with h | ⟨b, e, h1, h2, h3⟩
  · exact .inl h
  · exact .inr ⟨b, e, h1, h2, hk.blk h3 (hp b h1 h2)⟩

end Go.Proofs.Ytfeimdlkpiacoaa
