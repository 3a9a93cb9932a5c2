/-
  spec.BagOk.
-/
import Derived.Test.YtfeimdlkpiacoaaOkB
namespace Go.Proofs.Ytfeimdlkpiacoaa
open Go.RowKit

theorem okItem_parts {l : List Int} {t : Int} {u v : Bool} (hu : u = okRow l) (hv : v = (decide (1 ≤ t) && decide (t ≤ 1000000))) : okItem l t = (u && v) := by unfold okItem; rw [hu, hv]

end Go.Proofs.Ytfeimdlkpiacoaa
