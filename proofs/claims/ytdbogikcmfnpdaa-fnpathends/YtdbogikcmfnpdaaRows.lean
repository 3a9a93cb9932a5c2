/-
  No cell of these rows narrows 'for every input' (looked for: loops, veiled, ifaces, maps, wideKeys, modest, calm, conditions, laid).
  DERIVED. THE GIVEN ROWS OF THIS SEAT. 4 by the template 'for every input the law returns true; each argument reads behind the call as it read before'; 0 by the template 'total and deterministic' (their statements: YtdbogikcmfnpdaaTotals.lean).
  GIVEN WITH THE SEED: the statements are not yours to turn. If you find one false, say at which input.
  Laid BY PROGRAM, IN A SANDBOX (cutbox-rows.mjs): the forced cells as the released guide's own fill.sh prints them over the translation fd81fda82ecccc02… (all of the seat's roots in one cut). By AI agents, Wed Nov 11 2026. No macro, syntax, notation, axiom, sorry.
-/
import Derived.Test.YtdbogikcmfnpdaaChecked
import GoSem.Claim
import GoSem.ClaimJoined
import GoSem.ClaimMapViews
import Derived.JoinedTies
import Derived.KernelRfl
namespace Go.Proofs.Ytdbogikcmfnpdaa
/- THE CELL 'sum', in the pinned program and in every row, IS THE sha256 OF THE DUMP (.gsa) THAT YtdbogikcmfnpdaaProg.lean LOADS. Nothing in Lean hashes anything: it is a label: what it is worth is what the hold of that sum in a sandbox is worth. -/
noncomputable def Try.pinned : Pinned := { name := "ytdbogikcmfnpdaa", sum := "fd81fda82ecccc020f218e81016a4c3da5ef61b05f9956105ae5b228c70e3a55", checked := Try.checked }
namespace Rows
def none {H : Type} : Left H := { results := [], args := [] }

/-- 'laws.FnPathEnds': WHATEVER THE INPUT: true; the input reads as it did. -/
def fnPathEndsSpec : ChangeSpec := { name := "fnPathEnds", fn := fun _ => fun
  | [d] => { results := [.lit (.bool true)], args := [d] }
  | _ => none }
def fnPathEndsRow : OpenClaim := { program := "ytdbogikcmfnpdaa", sum := "fd81fda82ecccc020f218e81016a4c3da5ef61b05f9956105ae5b228c70e3a55", func := "loop.example/g00250/laws.FnPathEnds", spec := "fnPathEnds", inPlace := ["internal/bytealg.IndexByteString"], unfollowed := true, recurses := true, apart := false }
def FnPathEndsSaid : Prop := fnPathEndsRow.holds Try.pinned (OpenSpec.ofChange fnPathEndsSpec)

/-- ITS FALSE NEIGHBOUR: 'it returns false'. Refute it at one input. -/
def fnPathEndsWrong : ChangeSpec := { name := "fnPathEnds", fn := fun _ => fun
  | [d] => { results := [.lit (.bool false)], args := [d] }
  | _ => none }
def FnPathEndsWrongFalsely : Prop := fnPathEndsRow.holds Try.pinned (OpenSpec.ofChange fnPathEndsWrong)

/-- 'laws.FnPathStars': WHATEVER THE INPUT: true; the input reads as it did. -/
def fnPathStarsSpec : ChangeSpec := { name := "fnPathStars", fn := fun _ => fun
  | [d] => { results := [.lit (.bool true)], args := [d] }
  | _ => none }
def fnPathStarsRow : OpenClaim := { program := "ytdbogikcmfnpdaa", sum := "fd81fda82ecccc020f218e81016a4c3da5ef61b05f9956105ae5b228c70e3a55", func := "loop.example/g00250/laws.FnPathStars", spec := "fnPathStars", inPlace := ["internal/bytealg.IndexByteString"], unfollowed := true, recurses := true, apart := false }
def FnPathStarsSaid : Prop := fnPathStarsRow.holds Try.pinned (OpenSpec.ofChange fnPathStarsSpec)

/-- ITS FALSE NEIGHBOUR: 'it returns false'. Refute it at one input. -/
def fnPathStarsWrong : ChangeSpec := { name := "fnPathStars", fn := fun _ => fun
  | [d] => { results := [.lit (.bool false)], args := [d] }
  | _ => none }
def FnPathStarsWrongFalsely : Prop := fnPathStarsRow.holds Try.pinned (OpenSpec.ofChange fnPathStarsWrong)

/-- 'laws.FnExactPathEnds': WHATEVER THE INPUT: true; the input reads as it did. -/
def fnExactPathEndsSpec : ChangeSpec := { name := "fnExactPathEnds", fn := fun _ => fun
  | [d1, d2, d3] => { results := [.lit (.bool true)], args := [d1, d2, d3] }
  | _ => none }
def fnExactPathEndsRow : OpenClaim := { program := "ytdbogikcmfnpdaa", sum := "fd81fda82ecccc020f218e81016a4c3da5ef61b05f9956105ae5b228c70e3a55", func := "loop.example/g00250/laws.FnExactPathEnds", spec := "fnExactPathEnds", unfollowed := true, recurses := true, apart := false }
def FnExactPathEndsSaid : Prop := fnExactPathEndsRow.holds Try.pinned (OpenSpec.ofChange fnExactPathEndsSpec)

/-- ITS FALSE NEIGHBOUR: 'it returns false'. Refute it at one input. -/
def fnExactPathEndsWrong : ChangeSpec := { name := "fnExactPathEnds", fn := fun _ => fun
  | [d1, d2, d3] => { results := [.lit (.bool false)], args := [d1, d2, d3] }
  | _ => none }
def FnExactPathEndsWrongFalsely : Prop := fnExactPathEndsRow.holds Try.pinned (OpenSpec.ofChange fnExactPathEndsWrong)

/-- 'laws.FnExactPathPairs': WHATEVER THE INPUT: true; the input reads as it did. -/
def fnExactPathPairsSpec : ChangeSpec := { name := "fnExactPathPairs", fn := fun _ => fun
  | [d1, d2] => { results := [.lit (.bool true)], args := [d1, d2] }
  | _ => none }
def fnExactPathPairsRow : OpenClaim := { program := "ytdbogikcmfnpdaa", sum := "fd81fda82ecccc020f218e81016a4c3da5ef61b05f9956105ae5b228c70e3a55", func := "loop.example/g00250/laws.FnExactPathPairs", spec := "fnExactPathPairs", unfollowed := true, recurses := true, apart := false }
def FnExactPathPairsSaid : Prop := fnExactPathPairsRow.holds Try.pinned (OpenSpec.ofChange fnExactPathPairsSpec)

/-- ITS FALSE NEIGHBOUR: 'it returns false'. Refute it at one input. -/
def fnExactPathPairsWrong : ChangeSpec := { name := "fnExactPathPairs", fn := fun _ => fun
  | [d1, d2] => { results := [.lit (.bool false)], args := [d1, d2] }
  | _ => none }
def FnExactPathPairsWrongFalsely : Prop := fnExactPathPairsRow.holds Try.pinned (OpenSpec.ofChange fnExactPathPairsWrong)

/- THE SECOND FORM. 'bulk': how many values and letters a reading holds, each counted each time it is reached (what is shared counts as often as it is met; a slice's spare places count too). A statement '..UptoSaid' is the law's where the arguments, and the package variables that the reading takes, are together of bulk at most 1048576: NARROWER than '..Said'. Prove '..Said' where nothing that the law and all that it calls make is longer than what came in: it says more and counts as full. Else prove '..UptoSaid'. A law counts once. -/
mutual
def uptoBulk {H : Type} : DataW H → Nat
  | .lit (.string bytes) => bytes.length + 1
  | .lit _ => 1
  | .nil => 1
  | .ptr d => uptoBulk d + 1
  | .slice elems spare => uptoBulkAll elems + uptoBulkAll spare + 1
  | .agg parts => uptoBulkAll parts + 1
  | .iface _ d => uptoBulk d + 1
  | .map entries => uptoBulkEntries entries + 1
  | .held _ => 1
def uptoBulkAll {H : Type} : List (DataW H) → Nat
  | [] => 0
  | d :: r => uptoBulk d + uptoBulkAll r
def uptoBulkEntries {H : Type} : List (Lit × DataW H) → Nat
  | [] => 0
  | x :: r => uptoBulkEntry x + uptoBulkEntries r
def uptoBulkEntry {H : Type} : Lit × DataW H → Nat
  | (.string bytes, d) => bytes.length + uptoBulk d + 1
  | (_, d) => uptoBulk d + 1
 end
def uptoSmall : (H : Type) → List (DataW H) → Bool := fun _ ds => decide (uptoBulkAll ds ≤ 1048576)
def OpenSpec.upto (s : _root_.Go.ChangeSpec) : _root_.Go.OpenSpec := { _root_.Go.OpenSpec.ofChange s with cond := some uptoSmall }

/-- 'laws.FnPathEnds', WHERE WHAT IT READS IS OF BULK AT MOST 1048576: true; the input reads as it did. -/
def fnPathEndsUptoRow : OpenClaim := { program := "ytdbogikcmfnpdaa", sum := "fd81fda82ecccc020f218e81016a4c3da5ef61b05f9956105ae5b228c70e3a55", func := "loop.example/g00250/laws.FnPathEnds", spec := "fnPathEnds", inPlace := ["internal/bytealg.IndexByteString"], unfollowed := true, recurses := true, apart := false, narrowed := true }
def FnPathEndsUptoSaid : Prop := fnPathEndsUptoRow.holds Try.pinned (OpenSpec.upto fnPathEndsSpec)

/-- 'laws.FnPathStars', WHERE WHAT IT READS IS OF BULK AT MOST 1048576: true; the input reads as it did. -/
def fnPathStarsUptoRow : OpenClaim := { program := "ytdbogikcmfnpdaa", sum := "fd81fda82ecccc020f218e81016a4c3da5ef61b05f9956105ae5b228c70e3a55", func := "loop.example/g00250/laws.FnPathStars", spec := "fnPathStars", inPlace := ["internal/bytealg.IndexByteString"], unfollowed := true, recurses := true, apart := false, narrowed := true }
def FnPathStarsUptoSaid : Prop := fnPathStarsUptoRow.holds Try.pinned (OpenSpec.upto fnPathStarsSpec)

/-- 'laws.FnExactPathEnds', WHERE WHAT IT READS IS OF BULK AT MOST 1048576: true; the input reads as it did. -/
def fnExactPathEndsUptoRow : OpenClaim := { program := "ytdbogikcmfnpdaa", sum := "fd81fda82ecccc020f218e81016a4c3da5ef61b05f9956105ae5b228c70e3a55", func := "loop.example/g00250/laws.FnExactPathEnds", spec := "fnExactPathEnds", unfollowed := true, recurses := true, apart := false, narrowed := true }
def FnExactPathEndsUptoSaid : Prop := fnExactPathEndsUptoRow.holds Try.pinned (OpenSpec.upto fnExactPathEndsSpec)

/-- 'laws.FnExactPathPairs', WHERE WHAT IT READS IS OF BULK AT MOST 1048576: true; the input reads as it did. -/
def fnExactPathPairsUptoRow : OpenClaim := { program := "ytdbogikcmfnpdaa", sum := "fd81fda82ecccc020f218e81016a4c3da5ef61b05f9956105ae5b228c70e3a55", func := "loop.example/g00250/laws.FnExactPathPairs", spec := "fnExactPathPairs", unfollowed := true, recurses := true, apart := false, narrowed := true }
def FnExactPathPairsUptoSaid : Prop := fnExactPathPairsUptoRow.holds Try.pinned (OpenSpec.upto fnExactPathPairsSpec)

end Rows
end Go.Proofs.Ytdbogikcmfnpdaa
