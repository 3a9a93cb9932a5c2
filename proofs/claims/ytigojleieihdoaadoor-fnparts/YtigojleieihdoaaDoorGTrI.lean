/-
  impl.Turned.
-/
import Derived.Test.YtigojleieihdoaaDoorGSrt
import Derived.Test.YtigojleieihdoaaDoorGCln
import Derived.Test.YtigojleieihdoaaDoorGOk
namespace Go.Proofs.YtigojleieihdoaaDoor
open Go.RowKit

theorem own_in {B n cap : Nat} {w : World} {a : Option Addr} {l : List Ed} (h : w.ownsRow B 37 3 (.slice a n cap) n (ecells l)) (hn : l.length = n) : EdgesOwn B w.heap.size w a l := by
  obtain ⟨a2, cap2, hv, h2⟩ := edges_own h hn
  simp only [Value.slice.injEq] at hv
  rw [hv.1]; exact h2
theorem map_of_at {l L : List Ed} {n : Nat} (hl : l.length = n) (hL : L.length = n) (h : ∀ i, i < n → eat L i = turnE (eat l i)) : L = l.map turnE := by
  refine eat_ext (by simp [hL, hl]) fun i hi => ?_
  have hi' : i < l.length := by omega
  rw [h i (by omega), eat_get (l := l.map turnE) (by simpa using hi'), eat_get hi', List.getElem_map]

end Go.Proofs.YtigojleieihdoaaDoor
