/-
  NARROWER THAN 'FOR EVERY INPUT', by the rows' own cells (each row's printed sentence says how): FnOwners: laid · FnParts: laid · FnExactOwnerOf: laid · FnExactOwned: laid · FnExactPartOf: laid.
  DERIVED. THE GIVEN ROWS OF THIS SEAT. 5 by the template 'for every input the law returns true; each argument reads behind the call as it read before'; 0 by the template 'total and deterministic' (their statements: YtigojleieihdoaaDoorTotals.lean).
  GIVEN WITH THE SEED: the statements are not yours to turn. If you find one false, say at which input.
  Laid BY PROGRAM, IN A SANDBOX (cutbox-rows.mjs): the forced cells as the released guide's own fill.sh prints them over the translation 8ce43ea044e4da5a… (all of the seat's roots in one cut). By AI agents, Wed Nov 11 2026. No macro, syntax, notation, axiom, sorry.
-/
import Derived.Test.YtigojleieihdoaaDoorChecked
import GoSem.Claim
import GoSem.ClaimJoined
import GoSem.ClaimMapViews
import Derived.JoinedTies
import Derived.KernelRfl
namespace Go.Proofs.YtigojleieihdoaaDoor
/- THE CELL 'sum', in the pinned program and in every row, IS THE sha256 OF THE DUMP (.gsa) THAT YtigojleieihdoaaDoorProg.lean LOADS. Nothing in Lean hashes anything: it is a label: what it is worth is what the hold of that sum in a sandbox is worth. -/
noncomputable def Tryd.pinned : Pinned := { name := "ytigojleieihdoaadoor", sum := "8ce43ea044e4da5adc68160856d05e985d1737aaed68f87b417d998ddc167f89", checked := Tryd.checked }
namespace Rows
def none {H : Type} : Left H := { results := [], args := [] }

/- WHAT THE LISTED PACKAGE-LEVEL VARIABLES READ AS WHEN THE CALL BEGINS. Each datum BY PROGRAM (the guide's laid-datum.mjs) off the statement by which the dump's own 'gosem.cut.vars' lays the variable. In a bare row this is a premise. The card (YtigojleieihdoaaDoorCards.lean) ties it to the program's text. -/
def laid_loop_example_g00250_impl_fourSteps {H : Type} : DataW H := .agg [.lit (.int .u32 0), .lit (.int .u32 1166650509), .lit (.int .u32 2333301018), .lit (.int .u32 3466261911), .lit (.int .u32 3189058079), .lit (.int .u32 4221339282), .lit (.int .u32 889615109), .lit (.int .u32 1888477064), .lit (.int .u32 3558460437), .lit (.int .u32 2442158232), .lit (.int .u32 1594529039), .lit (.int .u32 444807554), .lit (.int .u32 1779230218), .lit (.int .u32 797264519), .lit (.int .u32 3776954128), .lit (.int .u32 2761298845)]

/-- 'laws.FnOwners': WHATEVER THE INPUT: true; the input reads as it did. -/
def fnOwnersSpec : ChangeSpec := { name := "fnOwners", vars := ["loop.example/g00250/impl.fourSteps"], fn := fun _ => fun
  | [d, g1] => { results := [.lit (.bool true)], args := [d], vars := [g1] }
  | _ => none }
def fnOwnersRow : OpenClaim := { program := "ytigojleieihdoaadoor", sum := "8ce43ea044e4da5adc68160856d05e985d1737aaed68f87b417d998ddc167f89", func := "loop.example/g00250/laws.FnOwners", spec := "fnOwners", inPlace := ["internal/abi.NoEscape"], named := ["loop.example/g00250/impl.fourSteps"], apart := false, laid := [("loop.example/g00250/impl.fourSteps", laid_loop_example_g00250_impl_fourSteps)] }
def FnOwnersSaid : Prop := fnOwnersRow.holds Tryd.pinned (OpenSpec.ofChange fnOwnersSpec)

/-- ITS FALSE NEIGHBOUR: 'it returns false'. Refute it at one input. -/
def fnOwnersWrong : ChangeSpec := { name := "fnOwners", vars := ["loop.example/g00250/impl.fourSteps"], fn := fun _ => fun
  | [d, g1] => { results := [.lit (.bool false)], args := [d], vars := [g1] }
  | _ => none }
def FnOwnersWrongFalsely : Prop := fnOwnersRow.holds Tryd.pinned (OpenSpec.ofChange fnOwnersWrong)

/-- 'laws.FnParts': WHATEVER THE INPUT: true; the input reads as it did. -/
def fnPartsSpec : ChangeSpec := { name := "fnParts", vars := ["loop.example/g00250/impl.fourSteps"], fn := fun _ => fun
  | [d, g1] => { results := [.lit (.bool true)], args := [d], vars := [g1] }
  | _ => none }
def fnPartsRow : OpenClaim := { program := "ytigojleieihdoaadoor", sum := "8ce43ea044e4da5adc68160856d05e985d1737aaed68f87b417d998ddc167f89", func := "loop.example/g00250/laws.FnParts", spec := "fnParts", inPlace := ["internal/abi.NoEscape"], unfollowed := true, recurses := true, named := ["loop.example/g00250/impl.fourSteps"], apart := false, laid := [("loop.example/g00250/impl.fourSteps", laid_loop_example_g00250_impl_fourSteps)] }
def FnPartsSaid : Prop := fnPartsRow.holds Tryd.pinned (OpenSpec.ofChange fnPartsSpec)

/-- ITS FALSE NEIGHBOUR: 'it returns false'. Refute it at one input. -/
def fnPartsWrong : ChangeSpec := { name := "fnParts", vars := ["loop.example/g00250/impl.fourSteps"], fn := fun _ => fun
  | [d, g1] => { results := [.lit (.bool false)], args := [d], vars := [g1] }
  | _ => none }
def FnPartsWrongFalsely : Prop := fnPartsRow.holds Tryd.pinned (OpenSpec.ofChange fnPartsWrong)

/-- 'laws.FnExactOwnerOf': WHATEVER THE INPUT: true; the input reads as it did. -/
def fnExactOwnerOfSpec : ChangeSpec := { name := "fnExactOwnerOf", vars := ["loop.example/g00250/impl.fourSteps"], fn := fun _ => fun
  | [d1, d2, g1] => { results := [.lit (.bool true)], args := [d1, d2], vars := [g1] }
  | _ => none }
def fnExactOwnerOfRow : OpenClaim := { program := "ytigojleieihdoaadoor", sum := "8ce43ea044e4da5adc68160856d05e985d1737aaed68f87b417d998ddc167f89", func := "loop.example/g00250/laws.FnExactOwnerOf", spec := "fnExactOwnerOf", inPlace := ["internal/abi.NoEscape"], named := ["loop.example/g00250/impl.fourSteps"], apart := false, laid := [("loop.example/g00250/impl.fourSteps", laid_loop_example_g00250_impl_fourSteps)] }
def FnExactOwnerOfSaid : Prop := fnExactOwnerOfRow.holds Tryd.pinned (OpenSpec.ofChange fnExactOwnerOfSpec)

/-- ITS FALSE NEIGHBOUR: 'it returns false'. Refute it at one input. -/
def fnExactOwnerOfWrong : ChangeSpec := { name := "fnExactOwnerOf", vars := ["loop.example/g00250/impl.fourSteps"], fn := fun _ => fun
  | [d1, d2, g1] => { results := [.lit (.bool false)], args := [d1, d2], vars := [g1] }
  | _ => none }
def FnExactOwnerOfWrongFalsely : Prop := fnExactOwnerOfRow.holds Tryd.pinned (OpenSpec.ofChange fnExactOwnerOfWrong)

/-- 'laws.FnExactOwned': WHATEVER THE INPUT: true; the input reads as it did. -/
def fnExactOwnedSpec : ChangeSpec := { name := "fnExactOwned", vars := ["loop.example/g00250/impl.fourSteps"], fn := fun _ => fun
  | [d1, d2, d3, g1] => { results := [.lit (.bool true)], args := [d1, d2, d3], vars := [g1] }
  | _ => none }
def fnExactOwnedRow : OpenClaim := { program := "ytigojleieihdoaadoor", sum := "8ce43ea044e4da5adc68160856d05e985d1737aaed68f87b417d998ddc167f89", func := "loop.example/g00250/laws.FnExactOwned", spec := "fnExactOwned", inPlace := ["internal/abi.NoEscape"], named := ["loop.example/g00250/impl.fourSteps"], apart := false, laid := [("loop.example/g00250/impl.fourSteps", laid_loop_example_g00250_impl_fourSteps)] }
def FnExactOwnedSaid : Prop := fnExactOwnedRow.holds Tryd.pinned (OpenSpec.ofChange fnExactOwnedSpec)

/-- ITS FALSE NEIGHBOUR: 'it returns false'. Refute it at one input. -/
def fnExactOwnedWrong : ChangeSpec := { name := "fnExactOwned", vars := ["loop.example/g00250/impl.fourSteps"], fn := fun _ => fun
  | [d1, d2, d3, g1] => { results := [.lit (.bool false)], args := [d1, d2, d3], vars := [g1] }
  | _ => none }
def FnExactOwnedWrongFalsely : Prop := fnExactOwnedRow.holds Tryd.pinned (OpenSpec.ofChange fnExactOwnedWrong)

/-- 'laws.FnExactPartOf': WHATEVER THE INPUT: true; the input reads as it did. -/
def fnExactPartOfSpec : ChangeSpec := { name := "fnExactPartOf", vars := ["loop.example/g00250/impl.fourSteps"], fn := fun _ => fun
  | [d1, d2, d3, g1] => { results := [.lit (.bool true)], args := [d1, d2, d3], vars := [g1] }
  | _ => none }
def fnExactPartOfRow : OpenClaim := { program := "ytigojleieihdoaadoor", sum := "8ce43ea044e4da5adc68160856d05e985d1737aaed68f87b417d998ddc167f89", func := "loop.example/g00250/laws.FnExactPartOf", spec := "fnExactPartOf", inPlace := ["internal/abi.NoEscape"], named := ["loop.example/g00250/impl.fourSteps"], apart := false, laid := [("loop.example/g00250/impl.fourSteps", laid_loop_example_g00250_impl_fourSteps)] }
def FnExactPartOfSaid : Prop := fnExactPartOfRow.holds Tryd.pinned (OpenSpec.ofChange fnExactPartOfSpec)

/-- ITS FALSE NEIGHBOUR: 'it returns false'. Refute it at one input. -/
def fnExactPartOfWrong : ChangeSpec := { name := "fnExactPartOf", vars := ["loop.example/g00250/impl.fourSteps"], fn := fun _ => fun
  | [d1, d2, d3, g1] => { results := [.lit (.bool false)], args := [d1, d2, d3], vars := [g1] }
  | _ => none }
def FnExactPartOfWrongFalsely : Prop := fnExactPartOfRow.holds Tryd.pinned (OpenSpec.ofChange fnExactPartOfWrong)

/- THE SECOND FORM. 'bulk': how many values and letters a reading holds, each counted each time it is reached (what is shared counts as often as it is met; a slice's spare places count too). A statement '..UptoSaid' is the law's where the arguments, and the package variables that the reading takes, are together of bulk at most 1048576: NARROWER than '..Said'. Prove '..Said' where nothing that the law and all that it calls make is longer than what came in: it says more and counts as full. Else prove '..UptoSaid'. A law counts once. -/
mutual
def uptoBulk {H : Type} : DataW H → Nat
  | .lit (.string bytes) => bytes.length + 1
  | .lit _ => 1
  | .nil => 1
  | .ptr d => uptoBulk d + 1
  | .slice elems spare => uptoBulkAll elems + uptoBulkAll spare + 1
  | .agg parts => uptoBulkAll parts + 1
  | .iface _ d => uptoBulk d + 1
  | .map entries => uptoBulkEntries entries + 1
  | .held _ => 1
def uptoBulkAll {H : Type} : List (DataW H) → Nat
  | [] => 0
  | d :: r => uptoBulk d + uptoBulkAll r
def uptoBulkEntries {H : Type} : List (Lit × DataW H) → Nat
  | [] => 0
  | x :: r => uptoBulkEntry x + uptoBulkEntries r
def uptoBulkEntry {H : Type} : Lit × DataW H → Nat
  | (.string bytes, d) => bytes.length + uptoBulk d + 1
  | (_, d) => uptoBulk d + 1
 end
def uptoSmall : (H : Type) → List (DataW H) → Bool := fun _ ds => decide (uptoBulkAll ds ≤ 1048576)
def OpenSpec.upto (s : _root_.Go.ChangeSpec) : _root_.Go.OpenSpec := { _root_.Go.OpenSpec.ofChange s with cond := some uptoSmall }

/-- 'laws.FnOwners', WHERE WHAT IT READS IS OF BULK AT MOST 1048576: true; the input reads as it did. -/
def fnOwnersUptoRow : OpenClaim := { program := "ytigojleieihdoaadoor", sum := "8ce43ea044e4da5adc68160856d05e985d1737aaed68f87b417d998ddc167f89", func := "loop.example/g00250/laws.FnOwners", spec := "fnOwners", inPlace := ["internal/abi.NoEscape"], named := ["loop.example/g00250/impl.fourSteps"], apart := false, laid := [("loop.example/g00250/impl.fourSteps", laid_loop_example_g00250_impl_fourSteps)], narrowed := true }
def FnOwnersUptoSaid : Prop := fnOwnersUptoRow.holds Tryd.pinned (OpenSpec.upto fnOwnersSpec)

/-- 'laws.FnParts', WHERE WHAT IT READS IS OF BULK AT MOST 1048576: true; the input reads as it did. -/
def fnPartsUptoRow : OpenClaim := { program := "ytigojleieihdoaadoor", sum := "8ce43ea044e4da5adc68160856d05e985d1737aaed68f87b417d998ddc167f89", func := "loop.example/g00250/laws.FnParts", spec := "fnParts", inPlace := ["internal/abi.NoEscape"], unfollowed := true, recurses := true, named := ["loop.example/g00250/impl.fourSteps"], apart := false, laid := [("loop.example/g00250/impl.fourSteps", laid_loop_example_g00250_impl_fourSteps)], narrowed := true }
def FnPartsUptoSaid : Prop := fnPartsUptoRow.holds Tryd.pinned (OpenSpec.upto fnPartsSpec)

/-- 'laws.FnExactOwnerOf', WHERE WHAT IT READS IS OF BULK AT MOST 1048576: true; the input reads as it did. -/
def fnExactOwnerOfUptoRow : OpenClaim := { program := "ytigojleieihdoaadoor", sum := "8ce43ea044e4da5adc68160856d05e985d1737aaed68f87b417d998ddc167f89", func := "loop.example/g00250/laws.FnExactOwnerOf", spec := "fnExactOwnerOf", inPlace := ["internal/abi.NoEscape"], named := ["loop.example/g00250/impl.fourSteps"], apart := false, laid := [("loop.example/g00250/impl.fourSteps", laid_loop_example_g00250_impl_fourSteps)], narrowed := true }
def FnExactOwnerOfUptoSaid : Prop := fnExactOwnerOfUptoRow.holds Tryd.pinned (OpenSpec.upto fnExactOwnerOfSpec)

/-- 'laws.FnExactOwned', WHERE WHAT IT READS IS OF BULK AT MOST 1048576: true; the input reads as it did. -/
def fnExactOwnedUptoRow : OpenClaim := { program := "ytigojleieihdoaadoor", sum := "8ce43ea044e4da5adc68160856d05e985d1737aaed68f87b417d998ddc167f89", func := "loop.example/g00250/laws.FnExactOwned", spec := "fnExactOwned", inPlace := ["internal/abi.NoEscape"], named := ["loop.example/g00250/impl.fourSteps"], apart := false, laid := [("loop.example/g00250/impl.fourSteps", laid_loop_example_g00250_impl_fourSteps)], narrowed := true }
def FnExactOwnedUptoSaid : Prop := fnExactOwnedUptoRow.holds Tryd.pinned (OpenSpec.upto fnExactOwnedSpec)

/-- 'laws.FnExactPartOf', WHERE WHAT IT READS IS OF BULK AT MOST 1048576: true; the input reads as it did. -/
def fnExactPartOfUptoRow : OpenClaim := { program := "ytigojleieihdoaadoor", sum := "8ce43ea044e4da5adc68160856d05e985d1737aaed68f87b417d998ddc167f89", func := "loop.example/g00250/laws.FnExactPartOf", spec := "fnExactPartOf", inPlace := ["internal/abi.NoEscape"], named := ["loop.example/g00250/impl.fourSteps"], apart := false, laid := [("loop.example/g00250/impl.fourSteps", laid_loop_example_g00250_impl_fourSteps)], narrowed := true }
def FnExactPartOfUptoSaid : Prop := fnExactPartOfUptoRow.holds Tryd.pinned (OpenSpec.upto fnExactPartOfSpec)

end Rows
end Go.Proofs.YtigojleieihdoaaDoor
