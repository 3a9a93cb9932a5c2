/-
  Proved: at every two rows, FnExactRowLess answers true: impl.RowLess answers as spec.RowLess does, and both rows read afterwards as they did (for a row longer than the law's own bound the law asks nothing); nothing that was in memory is changed. No condition.
-/
import Derived.Test.YtijbngdafgmpaaaBag
import Derived.WalkKit
import Derived.ProofKit
import Derived.OpenShut
import Derived.ShutString
import Derived.ChangeOld
import Derived.Below
namespace Go.Proofs.Ytijbngdafgmpaaa.fnExactRowLess
open Go.ChangeShapes Go.WideShapes Go.ChangeAt Go.RowKit
open Go.ChangeMaps (open_string shut_string)
set_option linter.unusedVariables false

theorem own : ownKnob Try.prog.godebug = none := by kernel_rfl
theorem laidOut : laidOutB Try.prog = true := by kernel_rfl

/-- toIntS, its answer behind letters -/
theorem toI (a : Option Addr) (n cap : Nat) (l : List Int) (w0 w : World) (hr : RowIn 0 w0.heap.size w0 a l) (hb : Below w0.heap.size w0 w) (hl : l.length = n) (hm : n ≤ 1048576) :
    Calls Try.prog 39 #[.slice a n cap] w fun e w' => ∃ g : Nat, e = .returned (.slice (some ⟨g, 0, none⟩) n n) ∧ Hid (RowIn w.heap.size w'.heap.size w' (some ⟨g, 0, none⟩) l) ∧ Hid (Below w.heap.size w w') :=
  (toInts_any 0 w0.heap.size a n cap l w (hr.below hb (Nat.le_refl _)) hb.size hl hm).mono fun _ _ ⟨h1, h2, h3, _⟩ => ⟨_, h1, h2.toIn, h3⟩

set_option maxHeartbeats 1000000 in
set_option maxRecDepth 100000 in
theorem walk (a0 : Option Addr) (n0 cap0 : Nat) (l0 : List Int) (a1 : Option Addr) (n1 cap1 : Nat) (l1 : List Int) (w : World) (hl0 : l0.length = n0) (hr0 : RowIn 0 w.heap.size w a0 l0) (hl1 : l1.length = n1) (hr1 : RowIn 0 w.heap.size w a1 l1) :
    Calls Try.prog 7 #[.slice a0 n0 cap0, .slice a1 n1 cap1] w fun e w' => e = .returned (.bool true) ∧ Below w.heap.size w w' := by
  by_cases hbig : (1048576 : Int) < (n0 : Int)
  · clear hr0 hr1 hl0 hl1
    go_enter Try.func7, Try.ntmps7
    go_wp2
    go_ret
    exact ⟨rfl, Below.refl _ _⟩
  · by_cases hbig1 : (1048576 : Int) < (n1 : Int)
    · clear hr0 hr1 hl0 hl1
      go_enter Try.func7, Try.ntmps7
      go_wp2
      go_ret
      exact ⟨rfl, Below.refl _ _⟩
    · have hm0 : n0 ≤ 1048576 := by omega
      have hm1 : n1 ≤ 1048576 := by omega
      have HR0 : Hid (RowIn 0 w.heap.size w a0 l0) := hr0
      have HR1 : Hid (RowIn 0 w.heap.size w a1 l1) := hr1
      have HL0 : Hid (l0.length = n0) := hl0
      have HL1 : Hid (l1.length = n1) := hl1
      obtain ⟨r, HRR⟩ : ∃ r : Bool, Hid (r = rowLt l0 l1) := ⟨_, rfl⟩
      clear hr0 hr1 hl0 hl1
      go_enter Try.func7, Try.ntmps7
      go_wp2_with fail
      refine (toI a0 n0 cap0 l0 w w HR0.out (Below.refl _ _) HL0.out hm0).mono ?_
      rintro e w1 ⟨g1, rfl, X1, B1⟩
      go_wp2_with fail
      refine (toI a1 n1 cap1 l1 w w1 HR1.out B1.out HL1.out hm1).mono ?_
      rintro e w2 ⟨g2, rfl, X2, B2⟩
      have HB2 : Hid (Below w.heap.size w w2) := B1.out.trans (B2.out.mono B1.out.size)
      have HX1 : Hid (RowIn w.heap.size w1.heap.size w2 (some ⟨g1, 0, none⟩) l0) := X1.out.below B2.out (Nat.le_refl _)
      clear X1 B1 B2
      go_wp2_with fail
      refine (specLess_any w.heap.size w1.heap.size w1.heap.size w2.heap.size (some ⟨g1, 0, none⟩) (some ⟨g2, 0, none⟩) n0 n1 n0 n1 l0 l1 r w2 HX1.out X2.out HL0.out HL1.out hm0 hm1 HRR.out).mono ?_
      rintro e w3 ⟨rfl, hb3⟩
      have HB3 : Hid (Below w.heap.size w w3) := HB2.out.trans (hb3.mono HB2.out.size)
      clear hb3 HX1 X2 HB2
      go_wp2_with fail
      refine (toI a0 n0 cap0 l0 w w3 HR0.out HB3.out HL0.out hm0).mono ?_
      rintro e w4 ⟨g4, rfl, X4, B4⟩
      have HB4 : Hid (Below w.heap.size w w4) := HB3.out.trans (B4.out.mono HB3.out.size)
      clear B4
      go_wp2_with fail
      refine (toI a1 n1 cap1 l1 w w4 HR1.out HB4.out HL1.out hm1).mono ?_
      rintro e w5 ⟨g5, rfl, X5, B5⟩
      have HB5 : Hid (Below w.heap.size w w5) := HB4.out.trans (B5.out.mono HB4.out.size)
      have HX4 : Hid (RowIn w3.heap.size w5.heap.size w5 (some ⟨g4, 0, none⟩) l0) := (X4.out.below B5.out (Nat.le_refl _)).wide (Nat.le_refl _) B5.out.size
      have HX5 : Hid (RowIn w4.heap.size w5.heap.size w5 (some ⟨g5, 0, none⟩) l1) := X5
      clear X4 X5 B5
      go_wp2_with fail
      refine (rowLess_any w3.heap.size w5.heap.size w4.heap.size w5.heap.size (some ⟨g4, 0, none⟩) (some ⟨g5, 0, none⟩) n0 n1 n0 n1 l0 l1 w5 HX4.out HX5.out HL0.out HL1.out hm0 hm1).mono ?_
      rw [← HRR.out]
      rintro e w6 ⟨rfl, rfl⟩
      go_wp2_with fail
      refine (toI a0 n0 cap0 l0 w w5 HR0.out HB5.out HL0.out hm0).mono ?_
      rintro e w7 ⟨g7, rfl, X7, B7⟩
      have HB7 : Hid (Below w.heap.size w w7) := HB5.out.trans (B7.out.mono HB5.out.size)
      have HX4' : Hid (RowIn w3.heap.size w5.heap.size w7 (some ⟨g4, 0, none⟩) l0) := HX4.out.below B7.out (Nat.le_refl _)
      have HX5' : Hid (RowIn w4.heap.size w5.heap.size w7 (some ⟨g5, 0, none⟩) l1) := HX5.out.below B7.out (Nat.le_refl _)
      have HS7 : Hid (w5.heap.size ≤ w7.heap.size) := B7.out.size
      clear HX4 HX5 B7
      go_wp2_with fail
      refine (eqInts_any w3.heap.size w5.heap.size w5.heap.size w7.heap.size (some ⟨g4, 0, none⟩) (some ⟨g7, 0, none⟩) n0 n0 n0 n0 l0 l0 true w7 HX4'.out X7.out HL0.out HL0.out hm0 (by simp)).mono ?_
      rintro e w8 ⟨rfl, hb8⟩
      have HB8 : Hid (Below w.heap.size w w8) := HB7.out.trans (hb8.mono HB7.out.size)
      have HX5a : Hid (RowIn w4.heap.size w5.heap.size w8 (some ⟨g5, 0, none⟩) l1) := HX5'.out.below hb8 HS7.out
      have HS8 : Hid (w5.heap.size ≤ w8.heap.size) := Nat.le_trans HS7.out hb8.size
      clear hb8 HX4' HX5' X7
      go_wp2_with fail
      refine (toI a1 n1 cap1 l1 w w8 HR1.out HB8.out HL1.out hm1).mono ?_
      rintro e w9 ⟨g9, rfl, X9, B9⟩
      have HB9 : Hid (Below w.heap.size w w9) := HB8.out.trans (B9.out.mono HB8.out.size)
      have HX5b : Hid (RowIn w4.heap.size w5.heap.size w9 (some ⟨g5, 0, none⟩) l1) := HX5a.out.below B9.out HS8.out
      clear B9 HX5a
      go_wp2_with fail
      refine (eqInts_any w4.heap.size w5.heap.size w8.heap.size w9.heap.size (some ⟨g5, 0, none⟩) (some ⟨g9, 0, none⟩) n1 n1 n1 n1 l1 l1 true w9 HX5b.out X9.out HL1.out HL1.out hm1 (by simp)).mono ?_
      rintro e w10 ⟨rfl, hb10⟩
      go_wp2
      go_ret
      exact ⟨rfl, HB9.out.trans (hb10.mono HB9.out.size)⟩

set_option maxRecDepth 100000 in
theorem lifted (os : Os) (started : os.Started) (H : Type) (enc : TypeId × Value → H) :
    ReturnsInHanded {} Try.checked os 7 .any (Rows.fnExactRowLessSpec.pre6 enc Try.prog Try.f7 Rows.fnExactRowLessRow.domain false) (Rows.fnExactRowLessSpec.post enc Try.prog Try.f7 false true false false) := by
  refine returnsInHanded_of_change (C := Try.checked) own started (by kernel_rfl) Try.func7
    (ChangeSpec.witness6 (enc := enc) (C := Try.checked) false ⟨#[], #[.slice none 0 0, .slice none 0 0], []⟩ 8 (by kernel_rfl) (by kernel_rfl) (by kernel_rfl) (by kernel_rfl)) ?_
  intro W base args ds gs before hval0 hW hcnd _
  have hval : ∀ (j : Nat) t v, Try.f7.params[j]? = some t → args[j]? = some v → Value.okWide Try.prog W .any base t v := hval0
  have hW' := hW
  obtain ⟨p, q, hA0, hV, rfl, hfz, hnd⟩ := hW
  have hA : DataW.TrodAll enc Try.prog W 0 (fun _ => true) true Try.f7.params.toList args.toList ds p := hA0
  rw [Try.params7] at hA hval
  obtain ⟨v0, vs0, d0, ds0, p0, q0, hargs, rfl, rfl, h0, r0⟩ := trodAll_cons hA
  obtain ⟨v1, vs1, d1, ds1, p1, q1, rfl, rfl, rfl, h1, r1⟩ := trodAll_cons r0
  obtain ⟨rfl, rfl, rfl⟩ := trodAll_nil r1
  obtain rfl : args = #[v0, v1] := by cases args; simp_all
  obtain ⟨rfl, rfl⟩ := trodVars_none hV
  have k0 := h0
  have lt0 : ∀ x ∈ p0, x.block < W.heap.size := by obtain ⟨m, hm⟩ := k0; exact DataW.trod_lt m _ _ _ hm
  have k1 := h1
  have lt1 : ∀ x ∈ p1, x.block < W.heap.size := by obtain ⟨m, hm⟩ := k1; exact DataW.trod_lt m _ _ _ hm
  obtain ⟨a0, n0, cap0, rfl⟩ := okWide_slice Try.underlying29 (hval 0 29 v0 rfl rfl)
  obtain ⟨l0, hl0, hr0⟩ := row_in k0
  obtain ⟨a1, n1, cap1, rfl⟩ := okWide_slice Try.underlying29 (hval 1 29 v1 rfl rfl)
  obtain ⟨l1, hl1, hr1⟩ := row_in k1
  clear hA0 hval0
  refine (walk a0 n0 cap0 l0 a1 n1 cap1 l1 W hl0 hr0 hl1 hr1).mono fun e W' ⟨he, bel⟩ => ?_
  subst he
  exact ⟨_, rfl, _, _, _, [], _, [], hW', trodAll_mk1 (shut_bool Try.underlying4 _), (trodAll_cons_mk (Below.trod laidOut (by kernel_rfl) (of_decide_eq_true (by kernel_rfl)) k0 bel lt0) (trodAll_cons_mk (Below.trod laidOut (by kernel_rfl) (of_decide_eq_true (by kernel_rfl)) k1 bel lt1) trodAll_mk0)), rfl, bel.frame _, fun h => by cases h⟩

theorem over : Rows.fnExactRowLessRow.holds Try.pinned (OpenSpec.ofChange Rows.fnExactRowLessSpec) :=
  OpenClaim.holds_of_wide 7 Try.f7 rfl rfl rfl rfl rfl rfl rfl ⟨rfl, rfl, rfl, rfl, rfl⟩ rfl rfl rfl rfl rfl (by kernel_rfl) Try.func7 (by kernel_rfl)
    (of_decide_eq_true (by kernel_rfl)) (by unfold Func.isWrapper; first | (rw [if_pos (by decide +kernel)]; kernel_rfl) | (rw [if_neg (by decide +kernel)]; exact ⟨rfl, rfl⟩))
    (fun os started H enc _ => lifted os started H enc)

end Go.Proofs.Ytijbngdafgmpaaa.fnExactRowLess
namespace Go.Proofs.Ytijbngdafgmpaaa

theorem fnExactRowLess_holds : Rows.FnExactRowLessSaid := fnExactRowLess.over
#print axioms fnExactRowLess_holds
end Go.Proofs.Ytijbngdafgmpaaa
