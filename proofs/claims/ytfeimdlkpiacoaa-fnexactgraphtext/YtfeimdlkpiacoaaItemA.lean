/-
  Items: how long they are (szItem, szItemS, szBag), one made new (toItem), two held against one another (eqItem).
-/
import Derived.Test.YtfeimdlkpiacoaaBag
namespace Go.Proofs.Ytfeimdlkpiacoaa
open Go.RowKit

/-- what lay ahead of two blocks -/
theorem below2 (w : World) (o1 o2 : Obj) : Below w.heap.size w ((w.alloc o1).alloc o2) := ((Below.refl _ _).alloc (Nat.le_refl _) _).alloc (by simp) _

theorem blk_new (w : World) (cs : Array Value) (T : TypeId) (f : Nat → Value) (h : ∀ i, i < cs.size → cs[i]? = some (f i)) : Blk (w.alloc (.cells cs T)) w.heap.size cs.size f := by
  refine ⟨cs, T, ?_, h⟩
  show (w.heap.push _)[w.heap.size]? = _
  simp
/-- a new block of two cells -/
theorem blk_two (w : World) (b : Nat) (hb : b = w.heap.size) (x y : Value) (T : TypeId) : Blk (w.alloc (.cells #[x, y] T)) b 2 (fun i => if i = 0 then x else y) :=
  hb ▸ blk_new w #[x, y] T _ (fun i hi => by
    have hi' : i < 2 := hi
    rcases i with _ | _ | i
    · rfl
    · rfl
    · omega)
theorem Blk.alloc {w : World} {b n : Nat} {f : Nat → Value} (h : Blk w b n f) (o : Obj) : Blk (w.alloc o) b n f := h.of_block (Below.heap_alloc w o b h.lt)

theorem below3 (w : World) (o1 o2 o3 : Obj) : Below w.heap.size w (((w.alloc o1).alloc o2).alloc o3) := (below2 w o1 o2).alloc (by simp; omega) _

theorem RowOwn.setCell {lo hi b j : Nat} {w : World} {a : Option Addr} {l : List Int} (h : RowOwn lo hi w a l) (hb : b < lo) (v : Value) : RowOwn lo hi (w.setCell ⟨b, j, none⟩ v) a l := by
  rcases h with h | ⟨g, e, h1, h2, h3⟩
  · exact .inl h
  · exact .inr ⟨g, e, h1, h2, h3.of_block (Below.heap_setCell w ⟨b, j, none⟩ v g (by simp; omega))⟩

end Go.Proofs.Ytfeimdlkpiacoaa
