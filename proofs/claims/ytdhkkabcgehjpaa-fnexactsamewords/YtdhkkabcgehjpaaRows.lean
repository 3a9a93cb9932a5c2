/-
  No cell of these rows narrows 'for every input' (looked for: loops, veiled, ifaces, maps, wideKeys, modest, calm, conditions, laid).
  DERIVED. THE GIVEN ROWS OF THIS SEAT. 4 by the template 'for every input the law returns true; each argument reads behind the call as it read before'; 0 by the template 'total and deterministic' (their statements: YtdhkkabcgehjpaaTotals.lean).
  GIVEN WITH THE SEED: the statements are not yours to turn. If you find one false, say at which input.
  Laid BY PROGRAM, IN A SANDBOX (cutbox-rows.mjs): the forced cells as the released guide's own fill.sh prints them over the translation a8c373eb940486c2… (all of the seat's roots in one cut). By AI agents, Wed Nov 11 2026. No macro, syntax, notation, axiom, sorry.
-/
import Derived.Test.YtdhkkabcgehjpaaChecked
import GoSem.Claim
import GoSem.ClaimJoined
import GoSem.ClaimMapViews
import Derived.JoinedTies
import Derived.KernelRfl
namespace Go.Proofs.Ytdhkkabcgehjpaa
/- THE CELL 'sum', in the pinned program and in every row, IS THE sha256 OF THE DUMP (.gsa) THAT YtdhkkabcgehjpaaProg.lean LOADS. Nothing in Lean hashes anything: it is a label: what it is worth is what the hold of that sum in a sandbox is worth. -/
noncomputable def Try.pinned : Pinned := { name := "ytdhkkabcgehjpaa", sum := "a8c373eb940486c24f42dc5c77a4e98b9b45476e0d7da518a9cdf6c1156016a1", checked := Try.checked }
namespace Rows
def none {H : Type} : Left H := { results := [], args := [] }

/-- 'laws.FnExactNfaTakes': WHATEVER THE INPUT: true; the input reads as it did. -/
def fnExactNfaTakesSpec : ChangeSpec := { name := "fnExactNfaTakes", fn := fun _ => fun
  | [d1, d2] => { results := [.lit (.bool true)], args := [d1, d2] }
  | _ => none }
def fnExactNfaTakesRow : OpenClaim := { program := "ytdhkkabcgehjpaa", sum := "a8c373eb940486c24f42dc5c77a4e98b9b45476e0d7da518a9cdf6c1156016a1", func := "loop.example/g00250/laws.FnExactNfaTakes", spec := "fnExactNfaTakes", unfollowed := true, recurses := true, plainKeys := false, apart := false }
def FnExactNfaTakesSaid : Prop := fnExactNfaTakesRow.holds Try.pinned (OpenSpec.ofChange fnExactNfaTakesSpec)

/-- ITS FALSE NEIGHBOUR: 'it returns false'. Refute it at one input. -/
def fnExactNfaTakesWrong : ChangeSpec := { name := "fnExactNfaTakes", fn := fun _ => fun
  | [d1, d2] => { results := [.lit (.bool false)], args := [d1, d2] }
  | _ => none }
def FnExactNfaTakesWrongFalsely : Prop := fnExactNfaTakesRow.holds Try.pinned (OpenSpec.ofChange fnExactNfaTakesWrong)

/-- 'laws.FnExactNfaPairs': WHATEVER THE INPUT: true; the input reads as it did. -/
def fnExactNfaPairsSpec : ChangeSpec := { name := "fnExactNfaPairs", fn := fun _ => fun
  | [d1, d2] => { results := [.lit (.bool true)], args := [d1, d2] }
  | _ => none }
def fnExactNfaPairsRow : OpenClaim := { program := "ytdhkkabcgehjpaa", sum := "a8c373eb940486c24f42dc5c77a4e98b9b45476e0d7da518a9cdf6c1156016a1", func := "loop.example/g00250/laws.FnExactNfaPairs", spec := "fnExactNfaPairs", unfollowed := true, recurses := true, plainKeys := false, apart := false }
def FnExactNfaPairsSaid : Prop := fnExactNfaPairsRow.holds Try.pinned (OpenSpec.ofChange fnExactNfaPairsSpec)

/-- ITS FALSE NEIGHBOUR: 'it returns false'. Refute it at one input. -/
def fnExactNfaPairsWrong : ChangeSpec := { name := "fnExactNfaPairs", fn := fun _ => fun
  | [d1, d2] => { results := [.lit (.bool false)], args := [d1, d2] }
  | _ => none }
def FnExactNfaPairsWrongFalsely : Prop := fnExactNfaPairsRow.holds Try.pinned (OpenSpec.ofChange fnExactNfaPairsWrong)

/-- 'laws.FnExactDfaOf': WHATEVER THE INPUT: true; the input reads as it did. -/
def fnExactDfaOfSpec : ChangeSpec := { name := "fnExactDfaOf", fn := fun _ => fun
  | [d] => { results := [.lit (.bool true)], args := [d] }
  | _ => none }
def fnExactDfaOfRow : OpenClaim := { program := "ytdhkkabcgehjpaa", sum := "a8c373eb940486c24f42dc5c77a4e98b9b45476e0d7da518a9cdf6c1156016a1", func := "loop.example/g00250/laws.FnExactDfaOf", spec := "fnExactDfaOf", unfollowed := true, recurses := true, plainKeys := false, apart := false }
def FnExactDfaOfSaid : Prop := fnExactDfaOfRow.holds Try.pinned (OpenSpec.ofChange fnExactDfaOfSpec)

/-- ITS FALSE NEIGHBOUR: 'it returns false'. Refute it at one input. -/
def fnExactDfaOfWrong : ChangeSpec := { name := "fnExactDfaOf", fn := fun _ => fun
  | [d] => { results := [.lit (.bool false)], args := [d] }
  | _ => none }
def FnExactDfaOfWrongFalsely : Prop := fnExactDfaOfRow.holds Try.pinned (OpenSpec.ofChange fnExactDfaOfWrong)

/-- 'laws.FnExactSameWords': WHATEVER THE INPUT: true; the input reads as it did. -/
def fnExactSameWordsSpec : ChangeSpec := { name := "fnExactSameWords", fn := fun _ => fun
  | [d1, d2] => { results := [.lit (.bool true)], args := [d1, d2] }
  | _ => none }
def fnExactSameWordsRow : OpenClaim := { program := "ytdhkkabcgehjpaa", sum := "a8c373eb940486c24f42dc5c77a4e98b9b45476e0d7da518a9cdf6c1156016a1", func := "loop.example/g00250/laws.FnExactSameWords", spec := "fnExactSameWords", unfollowed := true, recurses := true, plainKeys := false, apart := false }
def FnExactSameWordsSaid : Prop := fnExactSameWordsRow.holds Try.pinned (OpenSpec.ofChange fnExactSameWordsSpec)

/-- ITS FALSE NEIGHBOUR: 'it returns false'. Refute it at one input. -/
def fnExactSameWordsWrong : ChangeSpec := { name := "fnExactSameWords", fn := fun _ => fun
  | [d1, d2] => { results := [.lit (.bool false)], args := [d1, d2] }
  | _ => none }
def FnExactSameWordsWrongFalsely : Prop := fnExactSameWordsRow.holds Try.pinned (OpenSpec.ofChange fnExactSameWordsWrong)

/- THE SECOND FORM. 'bulk': how many values and letters a reading holds, each counted each time it is reached (what is shared counts as often as it is met; a slice's spare places count too). A statement '..UptoSaid' is the law's where the arguments, and the package variables that the reading takes, are together of bulk at most 1048576: NARROWER than '..Said'. Prove '..Said' where nothing that the law and all that it calls make is longer than what came in: it says more and counts as full. Else prove '..UptoSaid'. A law counts once. -/
mutual
def uptoBulk {H : Type} : DataW H → Nat
  | .lit (.string bytes) => bytes.length + 1
  | .lit _ => 1
  | .nil => 1
  | .ptr d => uptoBulk d + 1
  | .slice elems spare => uptoBulkAll elems + uptoBulkAll spare + 1
  | .agg parts => uptoBulkAll parts + 1
  | .iface _ d => uptoBulk d + 1
  | .map entries => uptoBulkEntries entries + 1
  | .held _ => 1
def uptoBulkAll {H : Type} : List (DataW H) → Nat
  | [] => 0
  | d :: r => uptoBulk d + uptoBulkAll r
def uptoBulkEntries {H : Type} : List (Lit × DataW H) → Nat
  | [] => 0
  | x :: r => uptoBulkEntry x + uptoBulkEntries r
def uptoBulkEntry {H : Type} : Lit × DataW H → Nat
  | (.string bytes, d) => bytes.length + uptoBulk d + 1
  | (_, d) => uptoBulk d + 1
 end
def uptoSmall : (H : Type) → List (DataW H) → Bool := fun _ ds => decide (uptoBulkAll ds ≤ 1048576)
def OpenSpec.upto (s : _root_.Go.ChangeSpec) : _root_.Go.OpenSpec := { _root_.Go.OpenSpec.ofChange s with cond := some uptoSmall }

/-- 'laws.FnExactNfaTakes', WHERE WHAT IT READS IS OF BULK AT MOST 1048576: true; the input reads as it did. -/
def fnExactNfaTakesUptoRow : OpenClaim := { program := "ytdhkkabcgehjpaa", sum := "a8c373eb940486c24f42dc5c77a4e98b9b45476e0d7da518a9cdf6c1156016a1", func := "loop.example/g00250/laws.FnExactNfaTakes", spec := "fnExactNfaTakes", unfollowed := true, recurses := true, plainKeys := false, apart := false, narrowed := true }
def FnExactNfaTakesUptoSaid : Prop := fnExactNfaTakesUptoRow.holds Try.pinned (OpenSpec.upto fnExactNfaTakesSpec)

/-- 'laws.FnExactNfaPairs', WHERE WHAT IT READS IS OF BULK AT MOST 1048576: true; the input reads as it did. -/
def fnExactNfaPairsUptoRow : OpenClaim := { program := "ytdhkkabcgehjpaa", sum := "a8c373eb940486c24f42dc5c77a4e98b9b45476e0d7da518a9cdf6c1156016a1", func := "loop.example/g00250/laws.FnExactNfaPairs", spec := "fnExactNfaPairs", unfollowed := true, recurses := true, plainKeys := false, apart := false, narrowed := true }
def FnExactNfaPairsUptoSaid : Prop := fnExactNfaPairsUptoRow.holds Try.pinned (OpenSpec.upto fnExactNfaPairsSpec)

/-- 'laws.FnExactDfaOf', WHERE WHAT IT READS IS OF BULK AT MOST 1048576: true; the input reads as it did. -/
def fnExactDfaOfUptoRow : OpenClaim := { program := "ytdhkkabcgehjpaa", sum := "a8c373eb940486c24f42dc5c77a4e98b9b45476e0d7da518a9cdf6c1156016a1", func := "loop.example/g00250/laws.FnExactDfaOf", spec := "fnExactDfaOf", unfollowed := true, recurses := true, plainKeys := false, apart := false, narrowed := true }
def FnExactDfaOfUptoSaid : Prop := fnExactDfaOfUptoRow.holds Try.pinned (OpenSpec.upto fnExactDfaOfSpec)

/-- 'laws.FnExactSameWords', WHERE WHAT IT READS IS OF BULK AT MOST 1048576: true; the input reads as it did. -/
def fnExactSameWordsUptoRow : OpenClaim := { program := "ytdhkkabcgehjpaa", sum := "a8c373eb940486c24f42dc5c77a4e98b9b45476e0d7da518a9cdf6c1156016a1", func := "loop.example/g00250/laws.FnExactSameWords", spec := "fnExactSameWords", unfollowed := true, recurses := true, plainKeys := false, apart := false, narrowed := true }
def FnExactSameWordsUptoSaid : Prop := fnExactSameWordsUptoRow.holds Try.pinned (OpenSpec.upto fnExactSameWordsSpec)

end Rows
end Go.Proofs.Ytdhkkabcgehjpaa
