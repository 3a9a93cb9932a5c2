/-
  What is drawn for numbers and texts: l01Number, l01Text, l01Long, DrawVarText, DrawHex.
-/
import Derived.Test.YtaaohmeabgopfaaDoorDrawB
namespace Go.Proofs.YtaaohmeabgopfaaDoor
open Go.RowKit

theorem KeptBut.alloc {g : Nat} {w w1 : World} (h : KeptBut g w w1) (o : Obj) : KeptBut g w (w1.alloc o) :=
  h.below ((Below.refl _ w1).alloc (Nat.le_refl _) o)
theorem Cur.keep {p n cap : Nat} {ao : Option Addr} {w w' : World} (h : Cur p ao n cap w) (hb : Below w.heap.size w w') : Cur p ao n cap w' := by
  obtain ⟨i, x, hc⟩ := h
  refine ⟨i, x, (hb.block p hc.lt).trans hc.blk, hc.le, hc.small, ?_⟩
  rcases hc.code with h | ⟨b, off, e, hne, hs, hz⟩
  · exact .inl h
  · refine .inr ⟨b, off, e, hne, Nat.lt_of_lt_of_le hs hb.size, fun k hk => ?_⟩
    obtain ⟨z, h0, h1, hcc⟩ := hz k hk
    exact ⟨z, h0, h1, (hb.cell hs).trans hcc⟩
theorem Cur.lt {p n cap : Nat} {ao : Option Addr} {w : World} (h : Cur p ao n cap w) : p < w.heap.size := by
  obtain ⟨i, x, hc⟩ := h
  exact hc.lt

end Go.Proofs.YtaaohmeabgopfaaDoor
