/-
  spec.Turned.
-/
import Derived.Test.YtigojleieihdoaaDoorGPut
import Derived.Test.YtigojleieihdoaaDoorGOkS
namespace Go.Proofs.YtigojleieihdoaaDoor
open Go.RowKit

/-- edges turned, as far as place k -/
def turnTo (l : List Ed) (k : Nat) : List Ed := turnL (l.take k)
theorem turnTo_step {l : List Ed} {k : Nat} (h : k < l.length) : turnTo l (k + 1) = putE (turnTo l k) (turnE (eat l k)) := by
  unfold turnTo turnL
  rw [take_snocE l h, List.foldl_append]
  rfl
theorem turnTo_len (l : List Ed) (k : Nat) : (turnTo l k).length ≤ k := by
  induction k with
  | zero => simp [turnTo, turnL]
  | succ k ih =>
    by_cases h : k < l.length
    · rw [turnTo_step h]; have := putE_len (turnTo l k) (turnE (eat l k)); omega
    · have e : turnTo l (k + 1) = turnTo l k := by unfold turnTo; rw [List.take_of_length_le (by omega), List.take_of_length_le (by omega)]
      rw [e]; omega

end Go.Proofs.YtigojleieihdoaaDoor
