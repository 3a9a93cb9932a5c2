/-
  impl.BagOk.
-/
import Derived.Test.YtfeimdlkpiacoaaOk
namespace Go.Proofs.Ytfeimdlkpiacoaa
open Go.RowKit

end Go.Proofs.Ytfeimdlkpiacoaa
