/-
  Proved: at every two bags, FnExactBagJoin answers true: impl.BagJoin answers as spec.BagJoin does, item by item, and whether the two could be joined; it writes into no argument and keeps nothing of one; its answer owns its memory, behind another call too (of bags that hold more than the law's own bound the law asks nothing); nothing that was in memory is changed. No condition.
-/
import Derived.Test.YtijbngdafgmpaaaLJoin
import Derived.WalkKit
import Derived.ProofKit
import Derived.OpenShut
import Derived.ShutString
import Derived.ChangeOld
import Derived.Below
namespace Go.Proofs.Ytijbngdafgmpaaa.fnExactBagJoin
open Go.ChangeShapes Go.WideShapes Go.ChangeAt Go.RowKit
open Go.ChangeMaps (open_string shut_string)
set_option linter.unusedVariables false

theorem own : ownKnob Try.prog.godebug = none := by kernel_rfl
theorem laidOut : laidOutB Try.prog = true := by kernel_rfl

theorem walk (a0 : Option Addr) (n0 cap0 : Nat) (l0 : List It) (a1 : Option Addr) (n1 cap1 : Nat) (l1 : List It) (w : World) (hl0 : l0.length = n0 ∧ ∀ i, i < n0 → (l0.getD i ([], 0)).1.length ≤ maxLen) (hm0 : n0 ≤ maxLen) (hr0 : BagIn 0 w.heap.size w a0 l0) (hl1 : l1.length = n1 ∧ ∀ i, i < n1 → (l1.getD i ([], 0)).1.length ≤ maxLen) (hm1 : n1 ≤ maxLen) (hr1 : BagIn 0 w.heap.size w a1 l1) :
    Calls Try.prog 10 #[.agg #[.slice a0 n0 cap0], .agg #[.slice a1 n1 cap1]] w fun e w' => e = .returned (.bool true) ∧ Below w.heap.size w w' := by
  exact law_10 a0 n0 cap0 l0 a1 n1 cap1 l1 w hl0 hm0 hr0 hl1 hm1 hr1

set_option maxRecDepth 100000 in
theorem lifted (os : Os) (started : os.Started) (H : Type) (enc : TypeId × Value → H) :
    ReturnsInHanded {} Try.checked os 10 .any (Rows.fnExactBagJoinSpec.pre6 enc Try.prog Try.f10 Rows.fnExactBagJoinRow.domain false) (Rows.fnExactBagJoinSpec.post enc Try.prog Try.f10 false true false false) := by
  refine returnsInHanded_of_change (C := Try.checked) own started (by kernel_rfl) Try.func10
    (ChangeSpec.witness6 (enc := enc) (C := Try.checked) false ⟨#[], #[.agg #[.slice none 0 0], .agg #[.slice none 0 0]], []⟩ 8 (by kernel_rfl) (by kernel_rfl) (by kernel_rfl) (by kernel_rfl)) ?_
  intro W base args ds gs before hval0 hW hcnd _
  have hval : ∀ (j : Nat) t v, Try.f10.params[j]? = some t → args[j]? = some v → Value.okWide Try.prog W .any base t v := hval0
  have hW' := hW
  obtain ⟨p, q, hA0, hV, rfl, hfz, hnd⟩ := hW
  have hA : DataW.TrodAll enc Try.prog W 0 (fun _ => true) true Try.f10.params.toList args.toList ds p := hA0
  rw [Try.params10] at hA hval
  obtain ⟨v0, vs0, d0, ds0, p0, q0, hargs, rfl, rfl, h0, r0⟩ := trodAll_cons hA
  obtain ⟨v1, vs1, d1, ds1, p1, q1, rfl, rfl, rfl, h1, r1⟩ := trodAll_cons r0
  obtain ⟨rfl, rfl, rfl⟩ := trodAll_nil r1
  obtain rfl : args = #[v0, v1] := by cases args; simp_all
  obtain ⟨rfl, rfl⟩ := trodVars_none hV
  have k0 := h0
  have lt0 : ∀ x ∈ p0, x.block < W.heap.size := by obtain ⟨m, hm⟩ := k0; exact DataW.trod_lt m _ _ _ hm
  have k1 := h1
  have lt1 : ∀ x ∈ p1, x.block < W.heap.size := by obtain ⟨m, hm⟩ := k1; exact DataW.trod_lt m _ _ _ hm
  obtain ⟨a0, n0, cap0, l0, rfl, hm0, hl0, hr0⟩ := bag_in (hval 0 52 v0 rfl rfl) k0
  obtain ⟨a1, n1, cap1, l1, rfl, hm1, hl1, hr1⟩ := bag_in (hval 1 52 v1 rfl rfl) k1
  clear hA0 hval0
  refine (walk a0 n0 cap0 l0 a1 n1 cap1 l1 W hl0 hm0 hr0 hl1 hm1 hr1).mono fun e W' ⟨he, bel⟩ => ?_
  subst he
  exact ⟨_, rfl, _, _, _, [], _, [], hW', trodAll_mk1 (shut_bool Try.underlying4 _), (trodAll_cons_mk (Below.trod laidOut (by kernel_rfl) (of_decide_eq_true (by kernel_rfl)) k0 bel lt0) (trodAll_cons_mk (Below.trod laidOut (by kernel_rfl) (of_decide_eq_true (by kernel_rfl)) k1 bel lt1) trodAll_mk0)), rfl, bel.frame _, fun h => by cases h⟩

theorem over : Rows.fnExactBagJoinRow.holds Try.pinned (OpenSpec.ofChange Rows.fnExactBagJoinSpec) :=
  OpenClaim.holds_of_wide 10 Try.f10 rfl rfl rfl rfl rfl rfl rfl ⟨rfl, rfl, rfl, rfl, rfl⟩ rfl rfl rfl rfl rfl (by kernel_rfl) Try.func10 (by kernel_rfl)
    (of_decide_eq_true (by kernel_rfl)) (by unfold Func.isWrapper; first | (rw [if_pos (by decide +kernel)]; kernel_rfl) | (rw [if_neg (by decide +kernel)]; exact ⟨rfl, rfl⟩))
    (fun os started H enc _ => lifted os started H enc)

end Go.Proofs.Ytijbngdafgmpaaa.fnExactBagJoin
namespace Go.Proofs.Ytijbngdafgmpaaa

theorem fnExactBagJoin_holds : Rows.FnExactBagJoinSaid := fnExactBagJoin.over
#print axioms fnExactBagJoin_holds
end Go.Proofs.Ytijbngdafgmpaaa
