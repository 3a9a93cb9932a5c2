/-
  No cell of these rows narrows 'for every input' (looked for: loops, veiled, ifaces, maps, wideKeys, modest, calm, conditions, laid).
  DERIVED. THE GIVEN ROWS OF THIS SEAT. 13 by the template 'for every input the law returns true; each argument reads behind the call as it read before'; 0 by the template 'total and deterministic' (their statements: YtijbngdafgmpaaaTotals.lean).
  GIVEN WITH THE SEED: the statements are not yours to turn. If you find one false, say at which input.
  Laid BY PROGRAM, IN A SANDBOX (cutbox-rows.mjs): the forced cells as the released guide's own fill.sh prints them over the translation 817ebb1032dc66a2… (all of the seat's roots in one cut). By AI agents, Wed Nov 11 2026. No macro, syntax, notation, axiom, sorry.
-/
import Derived.Test.YtijbngdafgmpaaaChecked
import GoSem.Claim
import GoSem.ClaimJoined
import GoSem.ClaimMapViews
import Derived.JoinedTies
import Derived.KernelRfl
namespace Go.Proofs.Ytijbngdafgmpaaa
/- THE CELL 'sum', in the pinned program and in every row, IS THE sha256 OF THE DUMP (.gsa) THAT YtijbngdafgmpaaaProg.lean LOADS. Nothing in Lean hashes anything: it is a label: what it is worth is what the hold of that sum in a sandbox is worth. -/
noncomputable def Try.pinned : Pinned := { name := "ytijbngdafgmpaaa", sum := "817ebb1032dc66a242db7a91d28d758743252f3bea9cde7b3ed032fc5a8e26aa", checked := Try.checked }
namespace Rows
def none {H : Type} : Left H := { results := [], args := [] }

/-- 'laws.FnBags': WHATEVER THE INPUT: true; the input reads as it did. -/
def fnBagsSpec : ChangeSpec := { name := "fnBags", fn := fun _ => fun
  | [d] => { results := [.lit (.bool true)], args := [d] }
  | _ => none }
def fnBagsRow : OpenClaim := { program := "ytijbngdafgmpaaa", sum := "817ebb1032dc66a242db7a91d28d758743252f3bea9cde7b3ed032fc5a8e26aa", func := "loop.example/g00250/laws.FnBags", spec := "fnBags", unfollowed := true, recurses := true, plainKeys := false, apart := false }
def FnBagsSaid : Prop := fnBagsRow.holds Try.pinned (OpenSpec.ofChange fnBagsSpec)

/-- ITS FALSE NEIGHBOUR: 'it returns false'. Refute it at one input. -/
def fnBagsWrong : ChangeSpec := { name := "fnBags", fn := fun _ => fun
  | [d] => { results := [.lit (.bool false)], args := [d] }
  | _ => none }
def FnBagsWrongFalsely : Prop := fnBagsRow.holds Try.pinned (OpenSpec.ofChange fnBagsWrong)

/-- 'laws.FnBagsJoined': WHATEVER THE INPUT: true; the input reads as it did. -/
def fnBagsJoinedSpec : ChangeSpec := { name := "fnBagsJoined", fn := fun _ => fun
  | [d] => { results := [.lit (.bool true)], args := [d] }
  | _ => none }
def fnBagsJoinedRow : OpenClaim := { program := "ytijbngdafgmpaaa", sum := "817ebb1032dc66a242db7a91d28d758743252f3bea9cde7b3ed032fc5a8e26aa", func := "loop.example/g00250/laws.FnBagsJoined", spec := "fnBagsJoined", unfollowed := true, recurses := true, plainKeys := false, apart := false }
def FnBagsJoinedSaid : Prop := fnBagsJoinedRow.holds Try.pinned (OpenSpec.ofChange fnBagsJoinedSpec)

/-- ITS FALSE NEIGHBOUR: 'it returns false'. Refute it at one input. -/
def fnBagsJoinedWrong : ChangeSpec := { name := "fnBagsJoined", fn := fun _ => fun
  | [d] => { results := [.lit (.bool false)], args := [d] }
  | _ => none }
def FnBagsJoinedWrongFalsely : Prop := fnBagsJoinedRow.holds Try.pinned (OpenSpec.ofChange fnBagsJoinedWrong)

/-- 'laws.FnBagTexts': WHATEVER THE INPUT: true; the input reads as it did. -/
def fnBagTextsSpec : ChangeSpec := { name := "fnBagTexts", fn := fun _ => fun
  | [d] => { results := [.lit (.bool true)], args := [d] }
  | _ => none }
def fnBagTextsRow : OpenClaim := { program := "ytijbngdafgmpaaa", sum := "817ebb1032dc66a242db7a91d28d758743252f3bea9cde7b3ed032fc5a8e26aa", func := "loop.example/g00250/laws.FnBagTexts", spec := "fnBagTexts", inPlace := ["internal/abi.NoEscape"], plainKeys := false, apart := false }
def FnBagTextsSaid : Prop := fnBagTextsRow.holds Try.pinned (OpenSpec.ofChange fnBagTextsSpec)

/-- ITS FALSE NEIGHBOUR: 'it returns false'. Refute it at one input. -/
def fnBagTextsWrong : ChangeSpec := { name := "fnBagTexts", fn := fun _ => fun
  | [d] => { results := [.lit (.bool false)], args := [d] }
  | _ => none }
def FnBagTextsWrongFalsely : Prop := fnBagTextsRow.holds Try.pinned (OpenSpec.ofChange fnBagTextsWrong)

/-- 'laws.FnRowsLess': WHATEVER THE INPUT: true; the input reads as it did. -/
def fnRowsLessSpec : ChangeSpec := { name := "fnRowsLess", fn := fun _ => fun
  | [d] => { results := [.lit (.bool true)], args := [d] }
  | _ => none }
def fnRowsLessRow : OpenClaim := { program := "ytijbngdafgmpaaa", sum := "817ebb1032dc66a242db7a91d28d758743252f3bea9cde7b3ed032fc5a8e26aa", func := "loop.example/g00250/laws.FnRowsLess", spec := "fnRowsLess", plainKeys := false, apart := false }
def FnRowsLessSaid : Prop := fnRowsLessRow.holds Try.pinned (OpenSpec.ofChange fnRowsLessSpec)

/-- ITS FALSE NEIGHBOUR: 'it returns false'. Refute it at one input. -/
def fnRowsLessWrong : ChangeSpec := { name := "fnRowsLess", fn := fun _ => fun
  | [d] => { results := [.lit (.bool false)], args := [d] }
  | _ => none }
def FnRowsLessWrongFalsely : Prop := fnRowsLessRow.holds Try.pinned (OpenSpec.ofChange fnRowsLessWrong)

/-- 'laws.FnExactRowLess': WHATEVER THE INPUT: true; the input reads as it did. -/
def fnExactRowLessSpec : ChangeSpec := { name := "fnExactRowLess", fn := fun _ => fun
  | [d1, d2] => { results := [.lit (.bool true)], args := [d1, d2] }
  | _ => none }
def fnExactRowLessRow : OpenClaim := { program := "ytijbngdafgmpaaa", sum := "817ebb1032dc66a242db7a91d28d758743252f3bea9cde7b3ed032fc5a8e26aa", func := "loop.example/g00250/laws.FnExactRowLess", spec := "fnExactRowLess", plainKeys := false, apart := false }
def FnExactRowLessSaid : Prop := fnExactRowLessRow.holds Try.pinned (OpenSpec.ofChange fnExactRowLessSpec)

/-- ITS FALSE NEIGHBOUR: 'it returns false'. Refute it at one input. -/
def fnExactRowLessWrong : ChangeSpec := { name := "fnExactRowLess", fn := fun _ => fun
  | [d1, d2] => { results := [.lit (.bool false)], args := [d1, d2] }
  | _ => none }
def FnExactRowLessWrongFalsely : Prop := fnExactRowLessRow.holds Try.pinned (OpenSpec.ofChange fnExactRowLessWrong)

/-- 'laws.FnExactBagOk': WHATEVER THE INPUT: true; the input reads as it did. -/
def fnExactBagOkSpec : ChangeSpec := { name := "fnExactBagOk", fn := fun _ => fun
  | [d] => { results := [.lit (.bool true)], args := [d] }
  | _ => none }
def fnExactBagOkRow : OpenClaim := { program := "ytijbngdafgmpaaa", sum := "817ebb1032dc66a242db7a91d28d758743252f3bea9cde7b3ed032fc5a8e26aa", func := "loop.example/g00250/laws.FnExactBagOk", spec := "fnExactBagOk", plainKeys := false, apart := false }
def FnExactBagOkSaid : Prop := fnExactBagOkRow.holds Try.pinned (OpenSpec.ofChange fnExactBagOkSpec)

/-- ITS FALSE NEIGHBOUR: 'it returns false'. Refute it at one input. -/
def fnExactBagOkWrong : ChangeSpec := { name := "fnExactBagOk", fn := fun _ => fun
  | [d] => { results := [.lit (.bool false)], args := [d] }
  | _ => none }
def FnExactBagOkWrongFalsely : Prop := fnExactBagOkRow.holds Try.pinned (OpenSpec.ofChange fnExactBagOkWrong)

/-- 'laws.FnExactBagAdd': WHATEVER THE INPUT: true; the input reads as it did. -/
def fnExactBagAddSpec : ChangeSpec := { name := "fnExactBagAdd", fn := fun _ => fun
  | [d1, d2, d3] => { results := [.lit (.bool true)], args := [d1, d2, d3] }
  | _ => none }
def fnExactBagAddRow : OpenClaim := { program := "ytijbngdafgmpaaa", sum := "817ebb1032dc66a242db7a91d28d758743252f3bea9cde7b3ed032fc5a8e26aa", func := "loop.example/g00250/laws.FnExactBagAdd", spec := "fnExactBagAdd", unfollowed := true, recurses := true, plainKeys := false, apart := false }
def FnExactBagAddSaid : Prop := fnExactBagAddRow.holds Try.pinned (OpenSpec.ofChange fnExactBagAddSpec)

/-- ITS FALSE NEIGHBOUR: 'it returns false'. Refute it at one input. -/
def fnExactBagAddWrong : ChangeSpec := { name := "fnExactBagAdd", fn := fun _ => fun
  | [d1, d2, d3] => { results := [.lit (.bool false)], args := [d1, d2, d3] }
  | _ => none }
def FnExactBagAddWrongFalsely : Prop := fnExactBagAddRow.holds Try.pinned (OpenSpec.ofChange fnExactBagAddWrong)

/-- 'laws.FnExactBagJoin': WHATEVER THE INPUT: true; the input reads as it did. -/
def fnExactBagJoinSpec : ChangeSpec := { name := "fnExactBagJoin", fn := fun _ => fun
  | [d1, d2] => { results := [.lit (.bool true)], args := [d1, d2] }
  | _ => none }
def fnExactBagJoinRow : OpenClaim := { program := "ytijbngdafgmpaaa", sum := "817ebb1032dc66a242db7a91d28d758743252f3bea9cde7b3ed032fc5a8e26aa", func := "loop.example/g00250/laws.FnExactBagJoin", spec := "fnExactBagJoin", unfollowed := true, recurses := true, plainKeys := false, apart := false }
def FnExactBagJoinSaid : Prop := fnExactBagJoinRow.holds Try.pinned (OpenSpec.ofChange fnExactBagJoinSpec)

/-- ITS FALSE NEIGHBOUR: 'it returns false'. Refute it at one input. -/
def fnExactBagJoinWrong : ChangeSpec := { name := "fnExactBagJoin", fn := fun _ => fun
  | [d1, d2] => { results := [.lit (.bool false)], args := [d1, d2] }
  | _ => none }
def FnExactBagJoinWrongFalsely : Prop := fnExactBagJoinRow.holds Try.pinned (OpenSpec.ofChange fnExactBagJoinWrong)

/-- 'laws.FnExactBagTimes': WHATEVER THE INPUT: true; the input reads as it did. -/
def fnExactBagTimesSpec : ChangeSpec := { name := "fnExactBagTimes", fn := fun _ => fun
  | [d1, d2] => { results := [.lit (.bool true)], args := [d1, d2] }
  | _ => none }
def fnExactBagTimesRow : OpenClaim := { program := "ytijbngdafgmpaaa", sum := "817ebb1032dc66a242db7a91d28d758743252f3bea9cde7b3ed032fc5a8e26aa", func := "loop.example/g00250/laws.FnExactBagTimes", spec := "fnExactBagTimes", plainKeys := false, apart := false }
def FnExactBagTimesSaid : Prop := fnExactBagTimesRow.holds Try.pinned (OpenSpec.ofChange fnExactBagTimesSpec)

/-- ITS FALSE NEIGHBOUR: 'it returns false'. Refute it at one input. -/
def fnExactBagTimesWrong : ChangeSpec := { name := "fnExactBagTimes", fn := fun _ => fun
  | [d1, d2] => { results := [.lit (.bool false)], args := [d1, d2] }
  | _ => none }
def FnExactBagTimesWrongFalsely : Prop := fnExactBagTimesRow.holds Try.pinned (OpenSpec.ofChange fnExactBagTimesWrong)

/-- 'laws.FnExactBagEach': WHATEVER THE INPUT: true; the input reads as it did. -/
def fnExactBagEachSpec : ChangeSpec := { name := "fnExactBagEach", fn := fun _ => fun
  | [d] => { results := [.lit (.bool true)], args := [d] }
  | _ => none }
def fnExactBagEachRow : OpenClaim := { program := "ytijbngdafgmpaaa", sum := "817ebb1032dc66a242db7a91d28d758743252f3bea9cde7b3ed032fc5a8e26aa", func := "loop.example/g00250/laws.FnExactBagEach", spec := "fnExactBagEach", plainKeys := false, apart := false }
def FnExactBagEachSaid : Prop := fnExactBagEachRow.holds Try.pinned (OpenSpec.ofChange fnExactBagEachSpec)

/-- ITS FALSE NEIGHBOUR: 'it returns false'. Refute it at one input. -/
def fnExactBagEachWrong : ChangeSpec := { name := "fnExactBagEach", fn := fun _ => fun
  | [d] => { results := [.lit (.bool false)], args := [d] }
  | _ => none }
def FnExactBagEachWrongFalsely : Prop := fnExactBagEachRow.holds Try.pinned (OpenSpec.ofChange fnExactBagEachWrong)

/-- 'laws.FnExactBagSize': WHATEVER THE INPUT: true; the input reads as it did. -/
def fnExactBagSizeSpec : ChangeSpec := { name := "fnExactBagSize", fn := fun _ => fun
  | [d] => { results := [.lit (.bool true)], args := [d] }
  | _ => none }
def fnExactBagSizeRow : OpenClaim := { program := "ytijbngdafgmpaaa", sum := "817ebb1032dc66a242db7a91d28d758743252f3bea9cde7b3ed032fc5a8e26aa", func := "loop.example/g00250/laws.FnExactBagSize", spec := "fnExactBagSize", plainKeys := false, apart := false }
def FnExactBagSizeSaid : Prop := fnExactBagSizeRow.holds Try.pinned (OpenSpec.ofChange fnExactBagSizeSpec)

/-- ITS FALSE NEIGHBOUR: 'it returns false'. Refute it at one input. -/
def fnExactBagSizeWrong : ChangeSpec := { name := "fnExactBagSize", fn := fun _ => fun
  | [d] => { results := [.lit (.bool false)], args := [d] }
  | _ => none }
def FnExactBagSizeWrongFalsely : Prop := fnExactBagSizeRow.holds Try.pinned (OpenSpec.ofChange fnExactBagSizeWrong)

/-- 'laws.FnExactBagText': WHATEVER THE INPUT: true; the input reads as it did. -/
def fnExactBagTextSpec : ChangeSpec := { name := "fnExactBagText", fn := fun _ => fun
  | [d] => { results := [.lit (.bool true)], args := [d] }
  | _ => none }
def fnExactBagTextRow : OpenClaim := { program := "ytijbngdafgmpaaa", sum := "817ebb1032dc66a242db7a91d28d758743252f3bea9cde7b3ed032fc5a8e26aa", func := "loop.example/g00250/laws.FnExactBagText", spec := "fnExactBagText", inPlace := ["internal/abi.NoEscape"], plainKeys := false, apart := false }
def FnExactBagTextSaid : Prop := fnExactBagTextRow.holds Try.pinned (OpenSpec.ofChange fnExactBagTextSpec)

/-- ITS FALSE NEIGHBOUR: 'it returns false'. Refute it at one input. -/
def fnExactBagTextWrong : ChangeSpec := { name := "fnExactBagText", fn := fun _ => fun
  | [d] => { results := [.lit (.bool false)], args := [d] }
  | _ => none }
def FnExactBagTextWrongFalsely : Prop := fnExactBagTextRow.holds Try.pinned (OpenSpec.ofChange fnExactBagTextWrong)

/-- 'laws.FnExactReadBag': WHATEVER THE INPUT: true; the input reads as it did. -/
def fnExactReadBagSpec : ChangeSpec := { name := "fnExactReadBag", fn := fun _ => fun
  | [d] => { results := [.lit (.bool true)], args := [d] }
  | _ => none }
def fnExactReadBagRow : OpenClaim := { program := "ytijbngdafgmpaaa", sum := "817ebb1032dc66a242db7a91d28d758743252f3bea9cde7b3ed032fc5a8e26aa", func := "loop.example/g00250/laws.FnExactReadBag", spec := "fnExactReadBag", plainKeys := false, apart := false }
def FnExactReadBagSaid : Prop := fnExactReadBagRow.holds Try.pinned (OpenSpec.ofChange fnExactReadBagSpec)

/-- ITS FALSE NEIGHBOUR: 'it returns false'. Refute it at one input. -/
def fnExactReadBagWrong : ChangeSpec := { name := "fnExactReadBag", fn := fun _ => fun
  | [d] => { results := [.lit (.bool false)], args := [d] }
  | _ => none }
def FnExactReadBagWrongFalsely : Prop := fnExactReadBagRow.holds Try.pinned (OpenSpec.ofChange fnExactReadBagWrong)

/- THE SECOND FORM. 'bulk': how many values and letters a reading holds, each counted each time it is reached (what is shared counts as often as it is met; a slice's spare places count too). A statement '..UptoSaid' is the law's where the arguments, and the package variables that the reading takes, are together of bulk at most 1048576: NARROWER than '..Said'. Prove '..Said' where nothing that the law and all that it calls make is longer than what came in: it says more and counts as full. Else prove '..UptoSaid'. A law counts once. -/
mutual
def uptoBulk {H : Type} : DataW H → Nat
  | .lit (.string bytes) => bytes.length + 1
  | .lit _ => 1
  | .nil => 1
  | .ptr d => uptoBulk d + 1
  | .slice elems spare => uptoBulkAll elems + uptoBulkAll spare + 1
  | .agg parts => uptoBulkAll parts + 1
  | .iface _ d => uptoBulk d + 1
  | .map entries => uptoBulkEntries entries + 1
  | .held _ => 1
def uptoBulkAll {H : Type} : List (DataW H) → Nat
  | [] => 0
  | d :: r => uptoBulk d + uptoBulkAll r
def uptoBulkEntries {H : Type} : List (Lit × DataW H) → Nat
  | [] => 0
  | x :: r => uptoBulkEntry x + uptoBulkEntries r
def uptoBulkEntry {H : Type} : Lit × DataW H → Nat
  | (.string bytes, d) => bytes.length + uptoBulk d + 1
  | (_, d) => uptoBulk d + 1
 end
def uptoSmall : (H : Type) → List (DataW H) → Bool := fun _ ds => decide (uptoBulkAll ds ≤ 1048576)
def OpenSpec.upto (s : _root_.Go.ChangeSpec) : _root_.Go.OpenSpec := { _root_.Go.OpenSpec.ofChange s with cond := some uptoSmall }

/-- 'laws.FnBags', WHERE WHAT IT READS IS OF BULK AT MOST 1048576: true; the input reads as it did. -/
def fnBagsUptoRow : OpenClaim := { program := "ytijbngdafgmpaaa", sum := "817ebb1032dc66a242db7a91d28d758743252f3bea9cde7b3ed032fc5a8e26aa", func := "loop.example/g00250/laws.FnBags", spec := "fnBags", unfollowed := true, recurses := true, plainKeys := false, apart := false, narrowed := true }
def FnBagsUptoSaid : Prop := fnBagsUptoRow.holds Try.pinned (OpenSpec.upto fnBagsSpec)

/-- 'laws.FnBagsJoined', WHERE WHAT IT READS IS OF BULK AT MOST 1048576: true; the input reads as it did. -/
def fnBagsJoinedUptoRow : OpenClaim := { program := "ytijbngdafgmpaaa", sum := "817ebb1032dc66a242db7a91d28d758743252f3bea9cde7b3ed032fc5a8e26aa", func := "loop.example/g00250/laws.FnBagsJoined", spec := "fnBagsJoined", unfollowed := true, recurses := true, plainKeys := false, apart := false, narrowed := true }
def FnBagsJoinedUptoSaid : Prop := fnBagsJoinedUptoRow.holds Try.pinned (OpenSpec.upto fnBagsJoinedSpec)

/-- 'laws.FnBagTexts', WHERE WHAT IT READS IS OF BULK AT MOST 1048576: true; the input reads as it did. -/
def fnBagTextsUptoRow : OpenClaim := { program := "ytijbngdafgmpaaa", sum := "817ebb1032dc66a242db7a91d28d758743252f3bea9cde7b3ed032fc5a8e26aa", func := "loop.example/g00250/laws.FnBagTexts", spec := "fnBagTexts", inPlace := ["internal/abi.NoEscape"], plainKeys := false, apart := false, narrowed := true }
def FnBagTextsUptoSaid : Prop := fnBagTextsUptoRow.holds Try.pinned (OpenSpec.upto fnBagTextsSpec)

/-- 'laws.FnRowsLess', WHERE WHAT IT READS IS OF BULK AT MOST 1048576: true; the input reads as it did. -/
def fnRowsLessUptoRow : OpenClaim := { program := "ytijbngdafgmpaaa", sum := "817ebb1032dc66a242db7a91d28d758743252f3bea9cde7b3ed032fc5a8e26aa", func := "loop.example/g00250/laws.FnRowsLess", spec := "fnRowsLess", plainKeys := false, apart := false, narrowed := true }
def FnRowsLessUptoSaid : Prop := fnRowsLessUptoRow.holds Try.pinned (OpenSpec.upto fnRowsLessSpec)

/-- 'laws.FnExactRowLess', WHERE WHAT IT READS IS OF BULK AT MOST 1048576: true; the input reads as it did. -/
def fnExactRowLessUptoRow : OpenClaim := { program := "ytijbngdafgmpaaa", sum := "817ebb1032dc66a242db7a91d28d758743252f3bea9cde7b3ed032fc5a8e26aa", func := "loop.example/g00250/laws.FnExactRowLess", spec := "fnExactRowLess", plainKeys := false, apart := false, narrowed := true }
def FnExactRowLessUptoSaid : Prop := fnExactRowLessUptoRow.holds Try.pinned (OpenSpec.upto fnExactRowLessSpec)

/-- 'laws.FnExactBagOk', WHERE WHAT IT READS IS OF BULK AT MOST 1048576: true; the input reads as it did. -/
def fnExactBagOkUptoRow : OpenClaim := { program := "ytijbngdafgmpaaa", sum := "817ebb1032dc66a242db7a91d28d758743252f3bea9cde7b3ed032fc5a8e26aa", func := "loop.example/g00250/laws.FnExactBagOk", spec := "fnExactBagOk", plainKeys := false, apart := false, narrowed := true }
def FnExactBagOkUptoSaid : Prop := fnExactBagOkUptoRow.holds Try.pinned (OpenSpec.upto fnExactBagOkSpec)

/-- 'laws.FnExactBagAdd', WHERE WHAT IT READS IS OF BULK AT MOST 1048576: true; the input reads as it did. -/
def fnExactBagAddUptoRow : OpenClaim := { program := "ytijbngdafgmpaaa", sum := "817ebb1032dc66a242db7a91d28d758743252f3bea9cde7b3ed032fc5a8e26aa", func := "loop.example/g00250/laws.FnExactBagAdd", spec := "fnExactBagAdd", unfollowed := true, recurses := true, plainKeys := false, apart := false, narrowed := true }
def FnExactBagAddUptoSaid : Prop := fnExactBagAddUptoRow.holds Try.pinned (OpenSpec.upto fnExactBagAddSpec)

/-- 'laws.FnExactBagJoin', WHERE WHAT IT READS IS OF BULK AT MOST 1048576: true; the input reads as it did. -/
def fnExactBagJoinUptoRow : OpenClaim := { program := "ytijbngdafgmpaaa", sum := "817ebb1032dc66a242db7a91d28d758743252f3bea9cde7b3ed032fc5a8e26aa", func := "loop.example/g00250/laws.FnExactBagJoin", spec := "fnExactBagJoin", unfollowed := true, recurses := true, plainKeys := false, apart := false, narrowed := true }
def FnExactBagJoinUptoSaid : Prop := fnExactBagJoinUptoRow.holds Try.pinned (OpenSpec.upto fnExactBagJoinSpec)

/-- 'laws.FnExactBagTimes', WHERE WHAT IT READS IS OF BULK AT MOST 1048576: true; the input reads as it did. -/
def fnExactBagTimesUptoRow : OpenClaim := { program := "ytijbngdafgmpaaa", sum := "817ebb1032dc66a242db7a91d28d758743252f3bea9cde7b3ed032fc5a8e26aa", func := "loop.example/g00250/laws.FnExactBagTimes", spec := "fnExactBagTimes", plainKeys := false, apart := false, narrowed := true }
def FnExactBagTimesUptoSaid : Prop := fnExactBagTimesUptoRow.holds Try.pinned (OpenSpec.upto fnExactBagTimesSpec)

/-- 'laws.FnExactBagEach', WHERE WHAT IT READS IS OF BULK AT MOST 1048576: true; the input reads as it did. -/
def fnExactBagEachUptoRow : OpenClaim := { program := "ytijbngdafgmpaaa", sum := "817ebb1032dc66a242db7a91d28d758743252f3bea9cde7b3ed032fc5a8e26aa", func := "loop.example/g00250/laws.FnExactBagEach", spec := "fnExactBagEach", plainKeys := false, apart := false, narrowed := true }
def FnExactBagEachUptoSaid : Prop := fnExactBagEachUptoRow.holds Try.pinned (OpenSpec.upto fnExactBagEachSpec)

/-- 'laws.FnExactBagSize', WHERE WHAT IT READS IS OF BULK AT MOST 1048576: true; the input reads as it did. -/
def fnExactBagSizeUptoRow : OpenClaim := { program := "ytijbngdafgmpaaa", sum := "817ebb1032dc66a242db7a91d28d758743252f3bea9cde7b3ed032fc5a8e26aa", func := "loop.example/g00250/laws.FnExactBagSize", spec := "fnExactBagSize", plainKeys := false, apart := false, narrowed := true }
def FnExactBagSizeUptoSaid : Prop := fnExactBagSizeUptoRow.holds Try.pinned (OpenSpec.upto fnExactBagSizeSpec)

/-- 'laws.FnExactBagText', WHERE WHAT IT READS IS OF BULK AT MOST 1048576: true; the input reads as it did. -/
def fnExactBagTextUptoRow : OpenClaim := { program := "ytijbngdafgmpaaa", sum := "817ebb1032dc66a242db7a91d28d758743252f3bea9cde7b3ed032fc5a8e26aa", func := "loop.example/g00250/laws.FnExactBagText", spec := "fnExactBagText", inPlace := ["internal/abi.NoEscape"], plainKeys := false, apart := false, narrowed := true }
def FnExactBagTextUptoSaid : Prop := fnExactBagTextUptoRow.holds Try.pinned (OpenSpec.upto fnExactBagTextSpec)

/-- 'laws.FnExactReadBag', WHERE WHAT IT READS IS OF BULK AT MOST 1048576: true; the input reads as it did. -/
def fnExactReadBagUptoRow : OpenClaim := { program := "ytijbngdafgmpaaa", sum := "817ebb1032dc66a242db7a91d28d758743252f3bea9cde7b3ed032fc5a8e26aa", func := "loop.example/g00250/laws.FnExactReadBag", spec := "fnExactReadBag", plainKeys := false, apart := false, narrowed := true }
def FnExactReadBagUptoSaid : Prop := fnExactReadBagUptoRow.holds Try.pinned (OpenSpec.upto fnExactReadBagSpec)

end Rows
end Go.Proofs.Ytijbngdafgmpaaa
