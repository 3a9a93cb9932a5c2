/-
  The tables that the rows list: what a row's list gives of the powers of ten, and a world that holds the listed tables.
-/
import Derived.Test.YtcbebilhbghclaaDoorCards
import Derived.Test.YtcbebilhbghclaaDoorTie
import Derived.Test.YtcbebilhbghclaaDoorDec
import Derived.ProofKit
import Derived.OpenShut
import Derived.ShutString
import Derived.Deep.DeepHandedRow
import Derived.Lib.LaidTab
import Derived.Stop.LaidErr
namespace Go.Proofs.YtcbebilhbghclaaDoor
open Go.ChangeShapes Go.WideShapes Go.ChangeAt Go.RowKit

theorem own : ownKnob Tryd.prog.godebug = none := by kernel_rfl
theorem gPow : Tryd.prog.globalNamed "internal/strconv.uint64pow10" = some 2 := by kernel_rfl
theorem gPowType : (Tryd.prog.globals[2]?).map (·.type) = some 89 := by kernel_rfl

theorem cells89 : Tryd.prog.cellsOf 89 = 20 := by kernel_rfl
theorem cells70 : Tryd.prog.cellsOf 70 = 1 := by kernel_rfl

/-- what the rows of Decimal list -/
theorem powTab {W : World} (h : laidMetH Tryd.prog Rows.fnExactDecimalRow.laid W) : Lib.TabIs Tryd.prog W "internal/strconv.uint64pow10" .u64 Lib.pow10Tab :=
  Lib.tabIs_of_head (rest := []) gPow gPowType Tryd.underlying89 Tryd.underlying70 cells70 cells89 (laidMet.tail (laidMet.tail (show laidMet Tryd.prog Rows.fnExactDecimalRow.laid W from h)))

/-- the table stands behind a call that leaves old memory alone -/
theorem powBelow {W W' : World} (hb : Below W.heap.size W W') (h : Lib.TabIs Tryd.prog W "internal/strconv.uint64pow10" .u64 Lib.pow10Tab) : Lib.TabIs Tryd.prog W' "internal/strconv.uint64pow10" .u64 Lib.pow10Tab := by
  refine var?_below hb gPow ?_ h
  unfold Lib.TabIs World.var? at h
  simp only [gPow, Option.bind_some] at h
  rcases Nat.lt_or_ge 2 W.heap.size with h1 | h1
  · exact h1
  · rw [Array.getElem?_eq_none h1] at h
    simp at h

def litCell {H : Type} : DataW H → Value
  | .lit (.int k z) => .int k z
  | _ => .bool false
def tabCells {H : Type} : DataW H → Array Value
  | .agg l => (l.map litCell).toArray
  | _ => #[]
def fillCells (cs : Array Value) : Obj → Obj
  | .cells _ t frozen => .cells cs t frozen
  | o => o
/-- a world that holds the three tables -/
def powWorld (w : World) : World :=
  { w with heap := ((w.heap.modify 3 (fillCells (tabCells (Rows.laid_math_bits_deBruijn32tab (H := Unit))))).modify 4 (fillCells (tabCells (Rows.laid_math_bits_deBruijn64tab (H := Unit))))).modify 2 (fillCells (tabCells (Rows.laid_internal_strconv_uint64pow10 (H := Unit)))) }

end Go.Proofs.YtcbebilhbghclaaDoor
