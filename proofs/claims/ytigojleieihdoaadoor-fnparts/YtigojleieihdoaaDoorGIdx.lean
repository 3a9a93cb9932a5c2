/-
  slices.Index, slices.Contains at edges.
-/
import Derived.Test.YtigojleieihdoaaDoorEdC
import Derived.Laws.StructEq
namespace Go.Proofs.YtigojleieihdoaaDoor
open Go.RowKit

set_option maxRecDepth 100000 in
theorem eql_edge (x0 x1 x2 y0 y1 y2 : Int) (q : Bool) (w : World) (hq : q = decide ((x0, x1, x2) = ((y0, y1, y2) : Ed))) : (binOp .eql 37 (.agg #[.int .i64 x0, .int .u8 x1, .int .i64 x2]) (.agg #[.int .i64 y0, .int .u8 y1, .int .i64 y2])).run Tryd.prog w = .ok (.bool q) w := by
  have u3 := Tryd.underlying3
  have a3 := Tryd.isAgg3
  have z3 := Tryd.sizeOf3
  have u5 := Tryd.underlying5
  have a5 := Tryd.isAgg5
  have z5 := Tryd.sizeOf5
  have hS : Tryd.prog.underlying 37 = some (.struct (Tryd.prog.fieldsOf 37)) := by kernel_rfl
  have hp : Tryd.prog.stoodInHeld 37 = false := by kernel_rfl
  rw [run_eql_struct, show (10000 : Nat) = 9999 + 1 from rfl, run_equalIn_agg w 9999 37 _ _ hS hp]
  simp only [Program.fieldsOf, Tryd.underlying37]
  rw [hq]
  go_simp
  by_cases h1 : x0 = y0 <;> by_cases h2 : x1 = y1 <;> by_cases h3 : x2 = y2 <;> simp [h1, h2, h3]

/-- where an edge is met first; -1: nowhere -/
def idxE (l : List Ed) (e : Ed) (k : Nat) : Prop := ∀ i, i < k → eat l i ≠ e

end Go.Proofs.YtigojleieihdoaaDoor
