/-
  NARROWER THAN 'FOR EVERY INPUT', by the rows' own cells (each row's printed sentence says how): FnTurned: laid · FnExactSumMore: laid · FnExactSumOf: laid · FnExactSealed: laid · FnExactUnsealed: laid.
  DERIVED. THE GIVEN ROWS OF THIS SEAT. 5 by the template 'for every input the law returns true; each argument reads behind the call as it read before'; 0 by the template 'total and deterministic' (their statements: YtaaohmeabgopfaaDoorTotals.lean).
  GIVEN WITH THE SEED: the statements are not yours to turn. If you find one false, say at which input.
  Laid BY PROGRAM, IN A SANDBOX (cutbox-rows.mjs): the forced cells as the released guide's own fill.sh prints them over the translation 35a3cc0c98af155b… (all of the seat's roots in one cut). By AI agents, Wed Nov 11 2026. No macro, syntax, notation, axiom, sorry.
-/
import Derived.Test.YtaaohmeabgopfaaDoorChecked
import GoSem.Claim
import GoSem.ClaimJoined
import GoSem.ClaimMapViews
import Derived.JoinedTies
import Derived.KernelRfl
namespace Go.Proofs.YtaaohmeabgopfaaDoor
/- THE CELL 'sum', in the pinned program and in every row, IS THE sha256 OF THE DUMP (.gsa) THAT YtaaohmeabgopfaaDoorProg.lean LOADS. Nothing in Lean hashes anything: it is a label: what it is worth is what the hold of that sum in a sandbox is worth. -/
noncomputable def Tryd.pinned : Pinned := { name := "ytaaohmeabgopfaadoor", sum := "35a3cc0c98af155b88a9509fc2086182396124e84761644887e9d86a339a469a", checked := Tryd.checked }
namespace Rows
def none {H : Type} : Left H := { results := [], args := [] }

/- WHAT THE LISTED PACKAGE-LEVEL VARIABLES READ AS WHEN THE CALL BEGINS. Each datum BY PROGRAM (the guide's laid-datum.mjs) off the statement by which the dump's own 'gosem.cut.vars' lays the variable. In a bare row this is a premise. The card (YtaaohmeabgopfaaDoorCards.lean) ties it to the program's text. -/
def laid_loop_example_g00250_impl_fourSteps {H : Type} : DataW H := .agg [.lit (.int .u32 0), .lit (.int .u32 1166650509), .lit (.int .u32 2333301018), .lit (.int .u32 3466261911), .lit (.int .u32 3189058079), .lit (.int .u32 4221339282), .lit (.int .u32 889615109), .lit (.int .u32 1888477064), .lit (.int .u32 3558460437), .lit (.int .u32 2442158232), .lit (.int .u32 1594529039), .lit (.int .u32 444807554), .lit (.int .u32 1779230218), .lit (.int .u32 797264519), .lit (.int .u32 3776954128), .lit (.int .u32 2761298845)]

/-- 'laws.FnTurned': WHATEVER THE INPUT: true; the input reads as it did. -/
def fnTurnedSpec : ChangeSpec := { name := "fnTurned", vars := ["loop.example/g00250/impl.fourSteps"], fn := fun _ => fun
  | [d, g1] => { results := [.lit (.bool true)], args := [d], vars := [g1] }
  | _ => none }
def fnTurnedRow : OpenClaim := { program := "ytaaohmeabgopfaadoor", sum := "35a3cc0c98af155b88a9509fc2086182396124e84761644887e9d86a339a469a", func := "loop.example/g00250/laws.FnTurned", spec := "fnTurned", named := ["loop.example/g00250/impl.fourSteps"], apart := false, laid := [("loop.example/g00250/impl.fourSteps", laid_loop_example_g00250_impl_fourSteps)] }
def FnTurnedSaid : Prop := fnTurnedRow.holds Tryd.pinned (OpenSpec.ofChange fnTurnedSpec)

/-- ITS FALSE NEIGHBOUR: 'it returns false'. Refute it at one input. -/
def fnTurnedWrong : ChangeSpec := { name := "fnTurned", vars := ["loop.example/g00250/impl.fourSteps"], fn := fun _ => fun
  | [d, g1] => { results := [.lit (.bool false)], args := [d], vars := [g1] }
  | _ => none }
def FnTurnedWrongFalsely : Prop := fnTurnedRow.holds Tryd.pinned (OpenSpec.ofChange fnTurnedWrong)

/-- 'laws.FnExactSumMore': WHATEVER THE INPUT: true; the input reads as it did. -/
def fnExactSumMoreSpec : ChangeSpec := { name := "fnExactSumMore", vars := ["loop.example/g00250/impl.fourSteps"], fn := fun _ => fun
  | [d1, d2, g1] => { results := [.lit (.bool true)], args := [d1, d2], vars := [g1] }
  | _ => none }
def fnExactSumMoreRow : OpenClaim := { program := "ytaaohmeabgopfaadoor", sum := "35a3cc0c98af155b88a9509fc2086182396124e84761644887e9d86a339a469a", func := "loop.example/g00250/laws.FnExactSumMore", spec := "fnExactSumMore", named := ["loop.example/g00250/impl.fourSteps"], apart := false, laid := [("loop.example/g00250/impl.fourSteps", laid_loop_example_g00250_impl_fourSteps)] }
def FnExactSumMoreSaid : Prop := fnExactSumMoreRow.holds Tryd.pinned (OpenSpec.ofChange fnExactSumMoreSpec)

/-- ITS FALSE NEIGHBOUR: 'it returns false'. Refute it at one input. -/
def fnExactSumMoreWrong : ChangeSpec := { name := "fnExactSumMore", vars := ["loop.example/g00250/impl.fourSteps"], fn := fun _ => fun
  | [d1, d2, g1] => { results := [.lit (.bool false)], args := [d1, d2], vars := [g1] }
  | _ => none }
def FnExactSumMoreWrongFalsely : Prop := fnExactSumMoreRow.holds Tryd.pinned (OpenSpec.ofChange fnExactSumMoreWrong)

/-- 'laws.FnExactSumOf': WHATEVER THE INPUT: true; the input reads as it did. -/
def fnExactSumOfSpec : ChangeSpec := { name := "fnExactSumOf", vars := ["loop.example/g00250/impl.fourSteps"], fn := fun _ => fun
  | [d, g1] => { results := [.lit (.bool true)], args := [d], vars := [g1] }
  | _ => none }
def fnExactSumOfRow : OpenClaim := { program := "ytaaohmeabgopfaadoor", sum := "35a3cc0c98af155b88a9509fc2086182396124e84761644887e9d86a339a469a", func := "loop.example/g00250/laws.FnExactSumOf", spec := "fnExactSumOf", named := ["loop.example/g00250/impl.fourSteps"], apart := false, laid := [("loop.example/g00250/impl.fourSteps", laid_loop_example_g00250_impl_fourSteps)] }
def FnExactSumOfSaid : Prop := fnExactSumOfRow.holds Tryd.pinned (OpenSpec.ofChange fnExactSumOfSpec)

/-- ITS FALSE NEIGHBOUR: 'it returns false'. Refute it at one input. -/
def fnExactSumOfWrong : ChangeSpec := { name := "fnExactSumOf", vars := ["loop.example/g00250/impl.fourSteps"], fn := fun _ => fun
  | [d, g1] => { results := [.lit (.bool false)], args := [d], vars := [g1] }
  | _ => none }
def FnExactSumOfWrongFalsely : Prop := fnExactSumOfRow.holds Tryd.pinned (OpenSpec.ofChange fnExactSumOfWrong)

/-- 'laws.FnExactSealed': WHATEVER THE INPUT: true; the input reads as it did. -/
def fnExactSealedSpec : ChangeSpec := { name := "fnExactSealed", vars := ["loop.example/g00250/impl.fourSteps"], fn := fun _ => fun
  | [d, g1] => { results := [.lit (.bool true)], args := [d], vars := [g1] }
  | _ => none }
def fnExactSealedRow : OpenClaim := { program := "ytaaohmeabgopfaadoor", sum := "35a3cc0c98af155b88a9509fc2086182396124e84761644887e9d86a339a469a", func := "loop.example/g00250/laws.FnExactSealed", spec := "fnExactSealed", named := ["loop.example/g00250/impl.fourSteps"], apart := false, laid := [("loop.example/g00250/impl.fourSteps", laid_loop_example_g00250_impl_fourSteps)] }
def FnExactSealedSaid : Prop := fnExactSealedRow.holds Tryd.pinned (OpenSpec.ofChange fnExactSealedSpec)

/-- ITS FALSE NEIGHBOUR: 'it returns false'. Refute it at one input. -/
def fnExactSealedWrong : ChangeSpec := { name := "fnExactSealed", vars := ["loop.example/g00250/impl.fourSteps"], fn := fun _ => fun
  | [d, g1] => { results := [.lit (.bool false)], args := [d], vars := [g1] }
  | _ => none }
def FnExactSealedWrongFalsely : Prop := fnExactSealedRow.holds Tryd.pinned (OpenSpec.ofChange fnExactSealedWrong)

/-- 'laws.FnExactUnsealed': WHATEVER THE INPUT: true; the input reads as it did. -/
def fnExactUnsealedSpec : ChangeSpec := { name := "fnExactUnsealed", vars := ["loop.example/g00250/impl.fourSteps"], fn := fun _ => fun
  | [d, g1] => { results := [.lit (.bool true)], args := [d], vars := [g1] }
  | _ => none }
def fnExactUnsealedRow : OpenClaim := { program := "ytaaohmeabgopfaadoor", sum := "35a3cc0c98af155b88a9509fc2086182396124e84761644887e9d86a339a469a", func := "loop.example/g00250/laws.FnExactUnsealed", spec := "fnExactUnsealed", named := ["loop.example/g00250/impl.fourSteps"], apart := false, laid := [("loop.example/g00250/impl.fourSteps", laid_loop_example_g00250_impl_fourSteps)] }
def FnExactUnsealedSaid : Prop := fnExactUnsealedRow.holds Tryd.pinned (OpenSpec.ofChange fnExactUnsealedSpec)

/-- ITS FALSE NEIGHBOUR: 'it returns false'. Refute it at one input. -/
def fnExactUnsealedWrong : ChangeSpec := { name := "fnExactUnsealed", vars := ["loop.example/g00250/impl.fourSteps"], fn := fun _ => fun
  | [d, g1] => { results := [.lit (.bool false)], args := [d], vars := [g1] }
  | _ => none }
def FnExactUnsealedWrongFalsely : Prop := fnExactUnsealedRow.holds Tryd.pinned (OpenSpec.ofChange fnExactUnsealedWrong)

/- THE SECOND FORM. 'bulk': how many values and letters a reading holds, each counted each time it is reached (what is shared counts as often as it is met; a slice's spare places count too). A statement '..UptoSaid' is the law's where the arguments, and the package variables that the reading takes, are together of bulk at most 1048576: NARROWER than '..Said'. Prove '..Said' where nothing that the law and all that it calls make is longer than what came in: it says more and counts as full. Else prove '..UptoSaid'. A law counts once. -/
mutual
def uptoBulk {H : Type} : DataW H → Nat
  | .lit (.string bytes) => bytes.length + 1
  | .lit _ => 1
  | .nil => 1
  | .ptr d => uptoBulk d + 1
  | .slice elems spare => uptoBulkAll elems + uptoBulkAll spare + 1
  | .agg parts => uptoBulkAll parts + 1
  | .iface _ d => uptoBulk d + 1
  | .map entries => uptoBulkEntries entries + 1
  | .held _ => 1
def uptoBulkAll {H : Type} : List (DataW H) → Nat
  | [] => 0
  | d :: r => uptoBulk d + uptoBulkAll r
def uptoBulkEntries {H : Type} : List (Lit × DataW H) → Nat
  | [] => 0
  | x :: r => uptoBulkEntry x + uptoBulkEntries r
def uptoBulkEntry {H : Type} : Lit × DataW H → Nat
  | (.string bytes, d) => bytes.length + uptoBulk d + 1
  | (_, d) => uptoBulk d + 1
 end
def uptoSmall : (H : Type) → List (DataW H) → Bool := fun _ ds => decide (uptoBulkAll ds ≤ 1048576)
def OpenSpec.upto (s : _root_.Go.ChangeSpec) : _root_.Go.OpenSpec := { _root_.Go.OpenSpec.ofChange s with cond := some uptoSmall }

/-- 'laws.FnTurned', WHERE WHAT IT READS IS OF BULK AT MOST 1048576: true; the input reads as it did. -/
def fnTurnedUptoRow : OpenClaim := { program := "ytaaohmeabgopfaadoor", sum := "35a3cc0c98af155b88a9509fc2086182396124e84761644887e9d86a339a469a", func := "loop.example/g00250/laws.FnTurned", spec := "fnTurned", named := ["loop.example/g00250/impl.fourSteps"], apart := false, laid := [("loop.example/g00250/impl.fourSteps", laid_loop_example_g00250_impl_fourSteps)], narrowed := true }
def FnTurnedUptoSaid : Prop := fnTurnedUptoRow.holds Tryd.pinned (OpenSpec.upto fnTurnedSpec)

/-- 'laws.FnExactSumMore', WHERE WHAT IT READS IS OF BULK AT MOST 1048576: true; the input reads as it did. -/
def fnExactSumMoreUptoRow : OpenClaim := { program := "ytaaohmeabgopfaadoor", sum := "35a3cc0c98af155b88a9509fc2086182396124e84761644887e9d86a339a469a", func := "loop.example/g00250/laws.FnExactSumMore", spec := "fnExactSumMore", named := ["loop.example/g00250/impl.fourSteps"], apart := false, laid := [("loop.example/g00250/impl.fourSteps", laid_loop_example_g00250_impl_fourSteps)], narrowed := true }
def FnExactSumMoreUptoSaid : Prop := fnExactSumMoreUptoRow.holds Tryd.pinned (OpenSpec.upto fnExactSumMoreSpec)

/-- 'laws.FnExactSumOf', WHERE WHAT IT READS IS OF BULK AT MOST 1048576: true; the input reads as it did. -/
def fnExactSumOfUptoRow : OpenClaim := { program := "ytaaohmeabgopfaadoor", sum := "35a3cc0c98af155b88a9509fc2086182396124e84761644887e9d86a339a469a", func := "loop.example/g00250/laws.FnExactSumOf", spec := "fnExactSumOf", named := ["loop.example/g00250/impl.fourSteps"], apart := false, laid := [("loop.example/g00250/impl.fourSteps", laid_loop_example_g00250_impl_fourSteps)], narrowed := true }
def FnExactSumOfUptoSaid : Prop := fnExactSumOfUptoRow.holds Tryd.pinned (OpenSpec.upto fnExactSumOfSpec)

/-- 'laws.FnExactSealed', WHERE WHAT IT READS IS OF BULK AT MOST 1048576: true; the input reads as it did. -/
def fnExactSealedUptoRow : OpenClaim := { program := "ytaaohmeabgopfaadoor", sum := "35a3cc0c98af155b88a9509fc2086182396124e84761644887e9d86a339a469a", func := "loop.example/g00250/laws.FnExactSealed", spec := "fnExactSealed", named := ["loop.example/g00250/impl.fourSteps"], apart := false, laid := [("loop.example/g00250/impl.fourSteps", laid_loop_example_g00250_impl_fourSteps)], narrowed := true }
def FnExactSealedUptoSaid : Prop := fnExactSealedUptoRow.holds Tryd.pinned (OpenSpec.upto fnExactSealedSpec)

/-- 'laws.FnExactUnsealed', WHERE WHAT IT READS IS OF BULK AT MOST 1048576: true; the input reads as it did. -/
def fnExactUnsealedUptoRow : OpenClaim := { program := "ytaaohmeabgopfaadoor", sum := "35a3cc0c98af155b88a9509fc2086182396124e84761644887e9d86a339a469a", func := "loop.example/g00250/laws.FnExactUnsealed", spec := "fnExactUnsealed", named := ["loop.example/g00250/impl.fourSteps"], apart := false, laid := [("loop.example/g00250/impl.fourSteps", laid_loop_example_g00250_impl_fourSteps)], narrowed := true }
def FnExactUnsealedUptoSaid : Prop := fnExactUnsealedUptoRow.holds Tryd.pinned (OpenSpec.upto fnExactUnsealedSpec)

end Rows
end Go.Proofs.YtaaohmeabgopfaaDoor
