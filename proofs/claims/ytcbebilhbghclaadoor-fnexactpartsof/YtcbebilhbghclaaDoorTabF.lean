/-
  The two tables that the row of PartsOf lists: what the list gives of the table of blanks, and a world that holds both.
-/
import Derived.Test.YtcbebilhbghclaaDoorTab
import Derived.Test.YtcbebilhbghclaaDoorPartsL
import Derived.Deep.DeepWitnessRowRef
namespace Go.Proofs.YtcbebilhbghclaaDoor
open Go.ChangeShapes Go.WideShapes Go.ChangeAt Go.RowKit

theorem gSpType : (Tryd.prog.globals[0]?).map (·.type) = some 58 := by kernel_rfl
theorem cells58 : Tryd.prog.cellsOf 58 = 256 := by kernel_rfl
theorem cells5 : Tryd.prog.cellsOf 5 = 1 := by kernel_rfl
theorem spDatum : (Rows.laid_strings_asciiSpace (H := Unit)) = Lib.tabData .u8 Lib.asciiSpaceTab := by kernel_rfl

theorem spTab {W : World} (h : laidMetH Tryd.prog Rows.fnExactPartsOfRow.laid W) : SpTab W := by
  have h1 : laidMet Tryd.prog [("strings.asciiSpace", Rows.laid_strings_asciiSpace)] W := laidMet.tail (show laidMet Tryd.prog Rows.fnExactPartsOfRow.laid W from h)
  rw [spDatum] at h1
  exact Lib.tabIs_of_head (rest := []) gSp gSpType Tryd.underlying58 Tryd.underlying5 cells5 cells58 h1

def rowCells {H : Type} : DataW H → List Value
  | .agg l => l.map litCell
  | _ => []
/-- the cells of the ranges that a table leads to -/
def rangeCells {H : Type} : DataW H → Array Value
  | .ptr (.agg (.slice elems _ :: _)) => (elems.flatMap rowCells).toArray
  | _ => #[]
/-- what is laid behind the world's own blocks, the first of them being n -/
def spBlocks (n : Nat) : Array Obj :=
  #[.cells (rangeCells (Rows.laid_unicode_White_Space (H := Unit))) 82, .cells #[.slice (some ⟨n, 0, none⟩) 7 7, .slice none 0 0, .int .i64 2] 79]
def spFill (n : Nat) (w : World) : World :=
  { w with heap := (w.heap.modify 0 (fillCells (tabCells (Rows.laid_strings_asciiSpace (H := Unit))))).modify 1 (fillCells #[.pointer (some ⟨n + 1, 0, none⟩)]) }
end Go.Proofs.YtcbebilhbghclaaDoor
