/-
  No cell of these rows narrows 'for every input' (looked for: loops, veiled, ifaces, maps, wideKeys, modest, calm, conditions, laid).
  DERIVED. THE GIVEN ROWS OF THIS SEAT. 5 by the template 'for every input the law returns true; each argument reads behind the call as it read before'; 0 by the template 'total and deterministic' (their statements: YtkcflhlipdnbnaaTotals.lean).
  GIVEN WITH THE SEED: the statements are not yours to turn. If you find one false, say at which input.
  Laid BY PROGRAM, IN A SANDBOX (cutbox-rows.mjs): the forced cells as the released guide's own fill.sh prints them over the translation 71527f4f253d6c18… (all of the seat's roots in one cut). By AI agents, Wed Nov 11 2026. No macro, syntax, notation, axiom, sorry.
-/
import Derived.Test.YtkcflhlipdnbnaaChecked
import GoSem.Claim
import GoSem.ClaimJoined
import GoSem.ClaimMapViews
import Derived.JoinedTies
import Derived.KernelRfl
namespace Go.Proofs.Ytkcflhlipdnbnaa
/- THE CELL 'sum', in the pinned program and in every row, IS THE sha256 OF THE DUMP (.gsa) THAT YtkcflhlipdnbnaaProg.lean LOADS. Nothing in Lean hashes anything: it is a label: what it is worth is what the hold of that sum in a sandbox is worth. -/
noncomputable def Try.pinned : Pinned := { name := "ytkcflhlipdnbnaa", sum := "71527f4f253d6c181949dc209ae4e233f002fca1d1ba125d80e19834316639a5", checked := Try.checked }
namespace Rows
def none {H : Type} : Left H := { results := [], args := [] }

/-- 'laws.FnExactNfaOf': WHATEVER THE INPUT: true; the input reads as it did. -/
def fnExactNfaOfSpec : ChangeSpec := { name := "fnExactNfaOf", fn := fun _ => fun
  | [d] => { results := [.lit (.bool true)], args := [d] }
  | _ => none }
def fnExactNfaOfRow : OpenClaim := { program := "ytkcflhlipdnbnaa", sum := "71527f4f253d6c181949dc209ae4e233f002fca1d1ba125d80e19834316639a5", func := "loop.example/g00250/laws.FnExactNfaOf", spec := "fnExactNfaOf", unfollowed := true, recurses := true, apart := false }
def FnExactNfaOfSaid : Prop := fnExactNfaOfRow.holds Try.pinned (OpenSpec.ofChange fnExactNfaOfSpec)

/-- ITS FALSE NEIGHBOUR: 'it returns false'. Refute it at one input. -/
def fnExactNfaOfWrong : ChangeSpec := { name := "fnExactNfaOf", fn := fun _ => fun
  | [d] => { results := [.lit (.bool false)], args := [d] }
  | _ => none }
def FnExactNfaOfWrongFalsely : Prop := fnExactNfaOfRow.holds Try.pinned (OpenSpec.ofChange fnExactNfaOfWrong)

/-- 'laws.FnExactQueryName': WHATEVER THE INPUT: true; the input reads as it did. -/
def fnExactQueryNameSpec : ChangeSpec := { name := "fnExactQueryName", fn := fun _ => fun
  | [d] => { results := [.lit (.bool true)], args := [d] }
  | _ => none }
def fnExactQueryNameRow : OpenClaim := { program := "ytkcflhlipdnbnaa", sum := "71527f4f253d6c181949dc209ae4e233f002fca1d1ba125d80e19834316639a5", func := "loop.example/g00250/laws.FnExactQueryName", spec := "fnExactQueryName", apart := false }
def FnExactQueryNameSaid : Prop := fnExactQueryNameRow.holds Try.pinned (OpenSpec.ofChange fnExactQueryNameSpec)

/-- ITS FALSE NEIGHBOUR: 'it returns false'. Refute it at one input. -/
def fnExactQueryNameWrong : ChangeSpec := { name := "fnExactQueryName", fn := fun _ => fun
  | [d] => { results := [.lit (.bool false)], args := [d] }
  | _ => none }
def FnExactQueryNameWrongFalsely : Prop := fnExactQueryNameRow.holds Try.pinned (OpenSpec.ofChange fnExactQueryNameWrong)

/-- 'laws.FnExactNamesOf': WHATEVER THE INPUT: true; the input reads as it did. -/
def fnExactNamesOfSpec : ChangeSpec := { name := "fnExactNamesOf", fn := fun _ => fun
  | [d] => { results := [.lit (.bool true)], args := [d] }
  | _ => none }
def fnExactNamesOfRow : OpenClaim := { program := "ytkcflhlipdnbnaa", sum := "71527f4f253d6c181949dc209ae4e233f002fca1d1ba125d80e19834316639a5", func := "loop.example/g00250/laws.FnExactNamesOf", spec := "fnExactNamesOf", apart := false }
def FnExactNamesOfSaid : Prop := fnExactNamesOfRow.holds Try.pinned (OpenSpec.ofChange fnExactNamesOfSpec)

/-- ITS FALSE NEIGHBOUR: 'it returns false'. Refute it at one input. -/
def fnExactNamesOfWrong : ChangeSpec := { name := "fnExactNamesOf", fn := fun _ => fun
  | [d] => { results := [.lit (.bool false)], args := [d] }
  | _ => none }
def FnExactNamesOfWrongFalsely : Prop := fnExactNamesOfRow.holds Try.pinned (OpenSpec.ofChange fnExactNamesOfWrong)

/-- 'laws.FnExactSameQuery': WHATEVER THE INPUT: true; the input reads as it did. -/
def fnExactSameQuerySpec : ChangeSpec := { name := "fnExactSameQuery", fn := fun _ => fun
  | [d1, d2] => { results := [.lit (.bool true)], args := [d1, d2] }
  | _ => none }
def fnExactSameQueryRow : OpenClaim := { program := "ytkcflhlipdnbnaa", sum := "71527f4f253d6c181949dc209ae4e233f002fca1d1ba125d80e19834316639a5", func := "loop.example/g00250/laws.FnExactSameQuery", spec := "fnExactSameQuery", apart := false }
def FnExactSameQuerySaid : Prop := fnExactSameQueryRow.holds Try.pinned (OpenSpec.ofChange fnExactSameQuerySpec)

/-- ITS FALSE NEIGHBOUR: 'it returns false'. Refute it at one input. -/
def fnExactSameQueryWrong : ChangeSpec := { name := "fnExactSameQuery", fn := fun _ => fun
  | [d1, d2] => { results := [.lit (.bool false)], args := [d1, d2] }
  | _ => none }
def FnExactSameQueryWrongFalsely : Prop := fnExactSameQueryRow.holds Try.pinned (OpenSpec.ofChange fnExactSameQueryWrong)

/-- 'laws.FnExactShowPath': WHATEVER THE INPUT: true; the input reads as it did. -/
def fnExactShowPathSpec : ChangeSpec := { name := "fnExactShowPath", fn := fun _ => fun
  | [d] => { results := [.lit (.bool true)], args := [d] }
  | _ => none }
def fnExactShowPathRow : OpenClaim := { program := "ytkcflhlipdnbnaa", sum := "71527f4f253d6c181949dc209ae4e233f002fca1d1ba125d80e19834316639a5", func := "loop.example/g00250/laws.FnExactShowPath", spec := "fnExactShowPath", unfollowed := true, recurses := true, apart := false }
def FnExactShowPathSaid : Prop := fnExactShowPathRow.holds Try.pinned (OpenSpec.ofChange fnExactShowPathSpec)

/-- ITS FALSE NEIGHBOUR: 'it returns false'. Refute it at one input. -/
def fnExactShowPathWrong : ChangeSpec := { name := "fnExactShowPath", fn := fun _ => fun
  | [d] => { results := [.lit (.bool false)], args := [d] }
  | _ => none }
def FnExactShowPathWrongFalsely : Prop := fnExactShowPathRow.holds Try.pinned (OpenSpec.ofChange fnExactShowPathWrong)

/- THE SECOND FORM. 'bulk': how many values and letters a reading holds, each counted each time it is reached (what is shared counts as often as it is met; a slice's spare places count too). A statement '..UptoSaid' is the law's where the arguments, and the package variables that the reading takes, are together of bulk at most 1048576: NARROWER than '..Said'. Prove '..Said' where nothing that the law and all that it calls make is longer than what came in: it says more and counts as full. Else prove '..UptoSaid'. A law counts once. -/
mutual
def uptoBulk {H : Type} : DataW H → Nat
  | .lit (.string bytes) => bytes.length + 1
  | .lit _ => 1
  | .nil => 1
  | .ptr d => uptoBulk d + 1
  | .slice elems spare => uptoBulkAll elems + uptoBulkAll spare + 1
  | .agg parts => uptoBulkAll parts + 1
  | .iface _ d => uptoBulk d + 1
  | .map entries => uptoBulkEntries entries + 1
  | .held _ => 1
def uptoBulkAll {H : Type} : List (DataW H) → Nat
  | [] => 0
  | d :: r => uptoBulk d + uptoBulkAll r
def uptoBulkEntries {H : Type} : List (Lit × DataW H) → Nat
  | [] => 0
  | x :: r => uptoBulkEntry x + uptoBulkEntries r
def uptoBulkEntry {H : Type} : Lit × DataW H → Nat
  | (.string bytes, d) => bytes.length + uptoBulk d + 1
  | (_, d) => uptoBulk d + 1
 end
def uptoSmall : (H : Type) → List (DataW H) → Bool := fun _ ds => decide (uptoBulkAll ds ≤ 1048576)
def OpenSpec.upto (s : _root_.Go.ChangeSpec) : _root_.Go.OpenSpec := { _root_.Go.OpenSpec.ofChange s with cond := some uptoSmall }

/-- 'laws.FnExactNfaOf', WHERE WHAT IT READS IS OF BULK AT MOST 1048576: true; the input reads as it did. -/
def fnExactNfaOfUptoRow : OpenClaim := { program := "ytkcflhlipdnbnaa", sum := "71527f4f253d6c181949dc209ae4e233f002fca1d1ba125d80e19834316639a5", func := "loop.example/g00250/laws.FnExactNfaOf", spec := "fnExactNfaOf", unfollowed := true, recurses := true, apart := false, narrowed := true }
def FnExactNfaOfUptoSaid : Prop := fnExactNfaOfUptoRow.holds Try.pinned (OpenSpec.upto fnExactNfaOfSpec)

/-- 'laws.FnExactQueryName', WHERE WHAT IT READS IS OF BULK AT MOST 1048576: true; the input reads as it did. -/
def fnExactQueryNameUptoRow : OpenClaim := { program := "ytkcflhlipdnbnaa", sum := "71527f4f253d6c181949dc209ae4e233f002fca1d1ba125d80e19834316639a5", func := "loop.example/g00250/laws.FnExactQueryName", spec := "fnExactQueryName", apart := false, narrowed := true }
def FnExactQueryNameUptoSaid : Prop := fnExactQueryNameUptoRow.holds Try.pinned (OpenSpec.upto fnExactQueryNameSpec)

/-- 'laws.FnExactNamesOf', WHERE WHAT IT READS IS OF BULK AT MOST 1048576: true; the input reads as it did. -/
def fnExactNamesOfUptoRow : OpenClaim := { program := "ytkcflhlipdnbnaa", sum := "71527f4f253d6c181949dc209ae4e233f002fca1d1ba125d80e19834316639a5", func := "loop.example/g00250/laws.FnExactNamesOf", spec := "fnExactNamesOf", apart := false, narrowed := true }
def FnExactNamesOfUptoSaid : Prop := fnExactNamesOfUptoRow.holds Try.pinned (OpenSpec.upto fnExactNamesOfSpec)

/-- 'laws.FnExactSameQuery', WHERE WHAT IT READS IS OF BULK AT MOST 1048576: true; the input reads as it did. -/
def fnExactSameQueryUptoRow : OpenClaim := { program := "ytkcflhlipdnbnaa", sum := "71527f4f253d6c181949dc209ae4e233f002fca1d1ba125d80e19834316639a5", func := "loop.example/g00250/laws.FnExactSameQuery", spec := "fnExactSameQuery", apart := false, narrowed := true }
def FnExactSameQueryUptoSaid : Prop := fnExactSameQueryUptoRow.holds Try.pinned (OpenSpec.upto fnExactSameQuerySpec)

/-- 'laws.FnExactShowPath', WHERE WHAT IT READS IS OF BULK AT MOST 1048576: true; the input reads as it did. -/
def fnExactShowPathUptoRow : OpenClaim := { program := "ytkcflhlipdnbnaa", sum := "71527f4f253d6c181949dc209ae4e233f002fca1d1ba125d80e19834316639a5", func := "loop.example/g00250/laws.FnExactShowPath", spec := "fnExactShowPath", unfollowed := true, recurses := true, apart := false, narrowed := true }
def FnExactShowPathUptoSaid : Prop := fnExactShowPathUptoRow.holds Try.pinned (OpenSpec.upto fnExactShowPathSpec)

end Rows
end Go.Proofs.Ytkcflhlipdnbnaa
