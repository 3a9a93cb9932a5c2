/-
  Graphs that come in, that are compared, marked and held: toGraph, eqEdge, eqEdgeS, eqGraph, markEdgeS, markGraph, heldEdgeS, heldGraph; a graph out of its reading.
-/
import Derived.Test.YtkcflhlipdnbnaaEdM
import Derived.Test.YtkcflhlipdnbnaaHeld
import Derived.Deep.Strs
import Derived.Deep.SlicePairs
import Derived.ProofKit
import Derived.OpenShut
import Derived.ChangeOld
namespace Go.Proofs.Ytkcflhlipdnbnaa
open Go.RowKit

/-- a graph as a value -/
abbrev gv (s : Int) (a : Option Addr) (n cap : Nat) : Value := .agg #[.int .i64 s, .slice a n cap]

theorem below_edge {w w' : World} {b o : Nat} {x : Ed} (h : EdgeAt w b o x) (hb : Below w.heap.size w w') : EdgeAt w' b o x := h.below hb (lt_of_cell h.1)
theorem drop_of_getD {l l' : List Ed} {n k : Nat} (h : l.length = n) (h' : l'.length = n) (hk : k < n) : (l.drop k = l'.drop k) ↔ (eat l k = eat l' k ∧ l.drop (k + 1) = l'.drop (k + 1)) := by
  rw [List.drop_eq_getElem_cons (by omega), List.drop_eq_getElem_cons (l := l') (by omega), List.cons.injEq, eat_get (by omega), eat_get (by omega)]

/-- marks from K on, three an edge -/
def marksE (K n : Nat) : List Ed := (List.range n).map fun i => (((K + i * 3 : Nat) : Int), ((K + i * 3 + 1 : Nat) : Int) % 256, ((K + i * 3 + 2 : Nat) : Int))
theorem marksE_len (K n : Nat) : (marksE K n).length = n := by simp [marksE]
theorem marksE_at {K n i : Nat} (h : i < n) : eat (marksE K n) i = (((K + i * 3 : Nat) : Int), ((K + i * 3 + 1 : Nat) : Int) % 256, ((K + i * 3 + 2 : Nat) : Int)) := by simp [marksE, eat, List.getD, h]

end Go.Proofs.Ytkcflhlipdnbnaa
