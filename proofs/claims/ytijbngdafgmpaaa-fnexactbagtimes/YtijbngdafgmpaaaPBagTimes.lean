/-
  Proved: at every bag and row, FnExactBagTimes answers true: impl.BagTimes answers as spec.BagTimes does, and bag and row read afterwards as they did (beyond the law's own bounds the law asks nothing); nothing that was in memory is changed. No condition.
-/
import Derived.Test.YtijbngdafgmpaaaSize
import Derived.WalkKit
import Derived.ProofKit
import Derived.OpenShut
import Derived.ShutString
import Derived.ChangeOld
import Derived.Below
namespace Go.Proofs.Ytijbngdafgmpaaa.fnExactBagTimes
open Go.ChangeShapes Go.WideShapes Go.ChangeAt Go.RowKit
open Go.ChangeMaps (open_string shut_string)
set_option linter.unusedVariables false

theorem own : ownKnob Try.prog.godebug = none := by kernel_rfl
theorem laidOut : laidOutB Try.prog = true := by kernel_rfl


/-- toIntS, its answer behind letters -/
theorem toI (a : Option Addr) (n cap : Nat) (l : List Int) (w0 w : World) (hr : RowIn 0 w0.heap.size w0 a l) (hb : Below w0.heap.size w0 w) (hl : l.length = n) (hm : n ≤ 1048576) :
    Calls Try.prog 39 #[.slice a n cap] w fun e w' => ∃ g : Nat, e = .returned (.slice (some ⟨g, 0, none⟩) n n) ∧ Hid (RowIn w.heap.size w'.heap.size w' (some ⟨g, 0, none⟩) l) ∧ Hid (Below w.heap.size w w') :=
  (toInts_any 0 w0.heap.size a n cap l w (hr.below hb (Nat.le_refl _)) hb.size hl hm).mono fun _ _ ⟨h1, h2, h3, _⟩ => ⟨_, h1, h2.toIn, h3⟩

/-- toBag, of the bag that came in -/
theorem toB (a : Option Addr) (n cap : Nat) (l : List It) (w0 w : World) (hr : BagIn 0 w0.heap.size w0 a l) (hb : Below w0.heap.size w0 w) (hl : l.length = n) (hm : n ≤ 1048576) (hq : ∀ i, i < n → (at' l i).1.length ≤ 1048576) :
    Calls Try.prog 42 #[.agg #[.slice a n cap]] w fun e w' => ∃ g : Nat, e = .returned (.agg #[.slice (some ⟨g, 0, none⟩) n n]) ∧ Hid (BagIn w.heap.size w'.heap.size w' (some ⟨g, 0, none⟩) l) ∧ Hid (Below w.heap.size w w') :=
  (toBag_any 0 w0.heap.size a n cap l w (hr.below hb (Nat.le_refl _)) hb.size hl hm hq).mono fun _ _ ⟨g, h1, h2, h3⟩ => ⟨g, h1, h2.out.toIn, h3⟩

theorem box_below {w w1 : World} {b : Nat} {v : Value} {T : TypeId} (hb : b = w.heap.size) (h : Below (w.alloc (.cells #[v] T)).heap.size (w.alloc (.cells #[v] T)) w1) : w1.cell? ⟨b, 0, none⟩ = some v ∧ Below w.heap.size w w1 ∧ b < w1.heap.size := by
  have hk := (blk_one w b hb v T).of_block (h.block b (by rw [hb]; simp))
  exact ⟨hk.cell (i := 0) (by omega), (below1 w _).trans (h.mono (by simp)), hk.lt⟩

set_option maxHeartbeats 4000000 in
set_option maxRecDepth 100000 in
theorem walk (a0 : Option Addr) (n0 cap0 : Nat) (l0 : List It) (a1 : Option Addr) (n1 cap1 : Nat) (l1 : List Int) (w : World) (hl0 : l0.length = n0 ∧ ∀ i, i < n0 → (l0.getD i ([], 0)).1.length ≤ maxLen) (hm0 : n0 ≤ maxLen) (hr0 : BagIn 0 w.heap.size w a0 l0) (hl1 : l1.length = n1) (hr1 : RowIn 0 w.heap.size w a1 l1) :
    Calls Try.prog 11 #[.agg #[.slice a0 n0 cap0], .slice a1 n1 cap1] w fun e w' => e = .returned (.bool true) ∧ Below w.heap.size w w' := by
  have HR0 : Hid (BagIn 0 w.heap.size w a0 l0) := hr0
  have HL0 : Hid (l0.length = n0) := hl0.1
  have HLM : Hid (∀ i, i < n0 → (l0.getD i ([], 0)).1.length ≤ maxLen) := hl0.2
  have HMX : Hid (n0 ≤ maxLen) := hm0
  obtain ⟨r, HRR⟩ : ∃ r : Int, Hid (r = timesOf l0 l1) := ⟨_, rfl⟩
  have HR1 : Hid (RowIn 0 w.heap.size w a1 l1) := hr1
  have HL1 : Hid (l1.length = n1) := hl1
  clear hr0 hl0 hm0 hr1 hl1
  by_cases hbig : (1048576 : Int) < (n1 : Int)
  · go_enter Try.func11, Try.ntmps11
    go_wp2
    go_ret
    exact ⟨rfl, below1 _ _⟩
  have hm1 : n1 ≤ 1048576 := by omega
  go_enter Try.func11, Try.ntmps11
  go_wp2_with fail
  refine (szBag_any 0 w.heap.size a0 n0 cap0 1048576 l0 _ (HR0.out.below (below1 w _) (Nat.le_refl _)) (by simp) HL0.out HMX.out HLM.out (by omega)).mono ?_
  rintro e w1 ⟨x, rfl, HX, hb1⟩
  obtain ⟨c1, B1, S1⟩ := box_below rfl hb1.out
  have HB1 : Hid (Below w.heap.size w w1) := B1
  have HS1 : Hid (w.heap.size < w1.heap.size) := S1
  clear B1 S1 hb1
  by_cases hx : x < 0
  · go_wp2
    go_ret
    exact ⟨rfl, HB1.out⟩
  · have HM : Hid (n0 ≤ 1048576 ∧ ∀ i, i < n0 → (at' l0 i).1.length ≤ 1048576) := by
      rcases HX.out with h | ⟨h1, h2⟩
      · omega
      · refine ⟨by omega, fun i hi => ?_⟩
        have := row_le l0 hi
        omega
    clear HX
    go_wp2_with fail
    refine (toB a0 n0 cap0 l0 w w1 HR0.out HB1.out HL0.out HM.out.1 HM.out.2).mono ?_
    rintro e w2 ⟨g2, rfl, X2, B2⟩
    have c2 := cell_below c1 B2.out HS1.out
    have HB2 : Hid (Below w.heap.size w w2) := HB1.out.trans (B2.out.mono HB1.out.size)
    have HS2 : Hid (w.heap.size < w2.heap.size) := Nat.lt_of_lt_of_le HS1.out B2.out.size
    clear c1 B2 HB1
    go_wp2_with fail
    refine (toI a1 n1 cap1 l1 w w2 HR1.out HB2.out HL1.out hm1).mono ?_
    rintro e w2a ⟨g2a, rfl, X2a, B2a⟩
    have X2' : Hid (BagIn w1.heap.size w2.heap.size w2a (some ⟨g2, 0, none⟩) l0) := X2.out.below B2a.out (Nat.le_refl _)
    have c2a := cell_below c2 B2a.out HS2.out
    have HB2a : Hid (Below w.heap.size w w2a) := HB2.out.trans (B2a.out.mono HB2.out.size)
    have HS2a : Hid (w.heap.size < w2a.heap.size) := Nat.lt_of_lt_of_le HS2.out B2a.out.size
    have HS2b : Hid (w2.heap.size ≤ w2a.heap.size) := B2a.out.size
    clear c2 B2a HB2 X2
    go_wp2_with fail
    refine (specTimes_any w1.heap.size w2.heap.size w2.heap.size w2a.heap.size (some ⟨g2, 0, none⟩) (some ⟨g2a, 0, none⟩) n0 n0 n1 n1 l0 l1 r w2a X2'.out X2a.out HS2b.out (Nat.le_refl _) HL0.out HL1.out HM.out.1 HM.out.2 HRR.out).mono ?_
    rintro e w3 ⟨rfl, hb3⟩
    have c3 := cell_below c2a hb3 HS2a.out
    have HB3 : Hid (Below w.heap.size w w3) := HB2a.out.trans (hb3.mono HB2a.out.size)
    have HS3 : Hid (w.heap.size < w3.heap.size) := Nat.lt_of_lt_of_le HS2a.out hb3.size
    clear c2a hb3 HB2a HS2a HS2b HS2 HS1 X2' X2a
    go_wp2_with fail
    refine (toB a0 n0 cap0 l0 w w3 HR0.out HB3.out HL0.out HM.out.1 HM.out.2).mono ?_
    rintro e w4 ⟨g4, rfl, X4, B4⟩
    have c4 := cell_below c3 B4.out HS3.out
    have HB4 : Hid (Below w.heap.size w w4) := HB3.out.trans (B4.out.mono HB3.out.size)
    have HS4 : Hid (w.heap.size < w4.heap.size) := Nat.lt_of_lt_of_le HS3.out B4.out.size
    clear c3 B4 HB3 HS3
    go_wp2_with fail
    refine (toI a1 n1 cap1 l1 w _ HR1.out (HB4.out.alloc HB4.out.size _) HL1.out hm1).mono ?_
    rintro e w4a ⟨g4a, rfl, X4a, B4a⟩
    obtain ⟨d4, B4b, S4a⟩ := box_below rfl B4a.out
    have X4a' : Hid (RowIn w4.heap.size w4a.heap.size w4a (some ⟨g4a, 0, none⟩) l1) := X4a.out.wide (by simp) (Nat.le_refl _)
    have c4a := cell_below c4 B4b HS4.out
    have X4' : Hid (BagIn w3.heap.size w4.heap.size w4a (some ⟨g4, 0, none⟩) l0) := X4.out.below B4b (Nat.le_refl _)
    have HB4a : Hid (Below w.heap.size w w4a) := HB4.out.trans (B4b.mono HB4.out.size)
    have HS4a : Hid (w4.heap.size < w4a.heap.size) := S4a
    clear c4 B4a B4b S4a X4 HB4 X4a
    go_wp2_with fail
    refine (bagTimes_any w3.heap.size w4.heap.size w4.heap.size w4a.heap.size (some ⟨g4, 0, none⟩) (some ⟨g4a, 0, none⟩) n0 n0 n1 n1 l0 l1 r w4a X4'.out X4a'.out (Nat.le_of_lt HS4a.out) (Nat.le_refl _) HL0.out HL1.out HM.out.1 HM.out.2 HRR.out).mono ?_
    rintro e w5 ⟨rfl, hb5⟩
    have d5 := cell_below d4 hb5 HS4a.out
    have c5 := cell_below c4a hb5 (Nat.lt_trans HS4.out HS4a.out)
    have HB5 : Hid (Below w.heap.size w w5) := HB4a.out.trans (hb5.mono HB4a.out.size)
    have X5 : Hid (BagIn w3.heap.size w4.heap.size w5 (some ⟨g4, 0, none⟩) l0) := X4'.out.below hb5 (Nat.le_of_lt HS4a.out)
    have X5a : Hid (RowIn w4.heap.size w4a.heap.size w5 (some ⟨g4a, 0, none⟩) l1) := X4a'.out.below hb5 (Nat.le_refl _)
    have HS5a : Hid (w4a.heap.size ≤ w5.heap.size) := hb5.size
    have HS5 : Hid (w4.heap.size < w5.heap.size) := Nat.lt_of_lt_of_le HS4a.out hb5.size
    clear d4 c4a hb5 HB4a X4' X4a' HS4a
    have HC1 : Hid (∀ w0, Below w5.heap.size w5 w0 → Calls Try.prog 42 #[.agg #[.slice a0 n0 cap0]] w0 fun e w' => ∃ g : Nat, e = .returned (.agg #[.slice (some ⟨g, 0, none⟩) n0 n0]) ∧ Hid (BagIn w5.heap.size w'.heap.size w' (some ⟨g, 0, none⟩) l0) ∧ Hid (Below w5.heap.size w5 w') ∧ (w'.cell? ⟨w4.heap.size, 0, none⟩ = some (.slice (some ⟨g4, 0, none⟩) n0 n0) ∧ w'.cell? ⟨w.heap.size, 0, none⟩ = some (.slice a0 n0 cap0))) := fun w0 h =>
      (toB a0 n0 cap0 l0 w w0 HR0.out (HB5.out.trans (h.mono HB5.out.size)) HL0.out HM.out.1 HM.out.2).mono fun _ _ ⟨g, h1, h2, h3⟩ =>
        have hk := h.trans (h3.out.mono h.size)
        ⟨g, h1, h2.out.wide h.size (Nat.le_refl _), hk, cell_below d5 hk HS5.out, cell_below c5 hk (Nat.lt_trans HS4.out HS5.out)⟩
    have HC2 : Hid (∀ (g : Nat) w0, Below w5.heap.size w5 w0 → BagIn w5.heap.size w0.heap.size w0 (some ⟨g, 0, none⟩) l0 → Calls Try.prog 43 #[.agg #[.slice (some ⟨g4, 0, none⟩) n0 n0], .agg #[.slice (some ⟨g, 0, none⟩) n0 n0]] w0 fun e w' => e = .returned (.bool true) ∧ Hid (Below w5.heap.size w5 w') ∧ (w'.cell? ⟨w4.heap.size, 0, none⟩ = some (.slice (some ⟨g4, 0, none⟩) n0 n0) ∧ w'.cell? ⟨w.heap.size, 0, none⟩ = some (.slice a0 n0 cap0))) := fun g w0 h hx =>
      (eqBag_any w3.heap.size w4.heap.size w5.heap.size w0.heap.size (some ⟨g4, 0, none⟩) (some ⟨g, 0, none⟩) n0 n0 n0 n0 l0 l0 true w0 (X5.out.below h (Nat.le_of_lt HS5.out)) hx (Nat.le_trans (Nat.le_of_lt HS5.out) h.size) (Nat.le_refl _) HL0.out HL0.out HM.out.1 HM.out.2 (by simp)).mono fun _ _ ⟨h1, h2⟩ =>
        have hk := h.trans (h2.mono h.size)
        ⟨h1, hk, cell_below d5 hk HS5.out, cell_below c5 hk (Nat.lt_trans HS4.out HS5.out)⟩
    go_wp2_with fail
    go_region_held (fun w' => w'.cell? ⟨w4.heap.size, 0, none⟩ = some (.slice (some ⟨g4, 0, none⟩) n0 n0) ∧ w'.cell? ⟨w.heap.size, 0, none⟩ = some (.slice a0 n0 cap0)) (first | exact ⟨d5, c5⟩ | exact hk6 | exact hk7) (first | (go_at_call 42; refine (HC1.out _ ((Below.refl _ _).drew)).mono ?_; rintro e w6 ⟨g6, rfl, X6, B6, hk6⟩) | (go_at_call 43; refine (HC2.out _ _ B6.out X6.out).mono ?_; rintro e w7 ⟨rfl, B7, hk7⟩))
    have HB7 : Hid (Below w.heap.size w w7) := HB5.out.trans (B7.out.mono HB5.out.size)
    have X7 : Hid (RowIn w4.heap.size w4a.heap.size w7 (some ⟨g4a, 0, none⟩) l1) := X5a.out.below B7.out HS5a.out
    have HS7 : Hid (w4a.heap.size ≤ w7.heap.size) := Nat.le_trans HS5a.out B7.out.size
    clear hk7 hk6 B7 B6 X6 X5 X5a HC1 HC2 HB5 d5 c5
    go_wp2_with fail
    refine (toI a1 n1 cap1 l1 w w7 HR1.out HB7.out HL1.out hm1).mono ?_
    rintro e w8 ⟨g8, rfl, X8, B8⟩
    have X8a : Hid (RowIn w4.heap.size w4a.heap.size w8 (some ⟨g4a, 0, none⟩) l1) := X7.out.below B8.out HS7.out
    have HB8 : Hid (Below w.heap.size w w8) := HB7.out.trans (B8.out.mono HB7.out.size)
    clear B8 X7
    go_wp2_with fail
    refine (eqInts_any w4.heap.size w4a.heap.size w7.heap.size w8.heap.size (some ⟨g4a, 0, none⟩) (some ⟨g8, 0, none⟩) n1 n1 n1 n1 l1 l1 true w8 X8a.out X8.out HL1.out HL1.out hm1 (by simp)).mono ?_
    rintro e w9 ⟨rfl, hb9⟩
    go_wp2
    go_ret
    exact ⟨rfl, HB8.out.trans (hb9.mono HB8.out.size)⟩

set_option maxRecDepth 100000 in
theorem lifted (os : Os) (started : os.Started) (H : Type) (enc : TypeId × Value → H) :
    ReturnsInHanded {} Try.checked os 11 .any (Rows.fnExactBagTimesSpec.pre6 enc Try.prog Try.f11 Rows.fnExactBagTimesRow.domain false) (Rows.fnExactBagTimesSpec.post enc Try.prog Try.f11 false true false false) := by
  refine returnsInHanded_of_change (C := Try.checked) own started (by kernel_rfl) Try.func11
    (ChangeSpec.witness6 (enc := enc) (C := Try.checked) false ⟨#[], #[.agg #[.slice none 0 0], .slice none 0 0], []⟩ 8 (by kernel_rfl) (by kernel_rfl) (by kernel_rfl) (by kernel_rfl)) ?_
  intro W base args ds gs before hval0 hW hcnd _
  have hval : ∀ (j : Nat) t v, Try.f11.params[j]? = some t → args[j]? = some v → Value.okWide Try.prog W .any base t v := hval0
  have hW' := hW
  obtain ⟨p, q, hA0, hV, rfl, hfz, hnd⟩ := hW
  have hA : DataW.TrodAll enc Try.prog W 0 (fun _ => true) true Try.f11.params.toList args.toList ds p := hA0
  rw [Try.params11] at hA hval
  obtain ⟨v0, vs0, d0, ds0, p0, q0, hargs, rfl, rfl, h0, r0⟩ := trodAll_cons hA
  obtain ⟨v1, vs1, d1, ds1, p1, q1, rfl, rfl, rfl, h1, r1⟩ := trodAll_cons r0
  obtain ⟨rfl, rfl, rfl⟩ := trodAll_nil r1
  obtain rfl : args = #[v0, v1] := by cases args; simp_all
  obtain ⟨rfl, rfl⟩ := trodVars_none hV
  have k0 := h0
  have lt0 : ∀ x ∈ p0, x.block < W.heap.size := by obtain ⟨m, hm⟩ := k0; exact DataW.trod_lt m _ _ _ hm
  have k1 := h1
  have lt1 : ∀ x ∈ p1, x.block < W.heap.size := by obtain ⟨m, hm⟩ := k1; exact DataW.trod_lt m _ _ _ hm
  obtain ⟨a0, n0, cap0, l0, rfl, hm0, hl0, hr0⟩ := bag_in (hval 0 52 v0 rfl rfl) k0
  obtain ⟨a1, n1, cap1, rfl⟩ := okWide_slice Try.underlying29 (hval 1 29 v1 rfl rfl)
  obtain ⟨l1, hl1, hr1⟩ := row_in k1
  clear hA0 hval0
  refine (walk a0 n0 cap0 l0 a1 n1 cap1 l1 W hl0 hm0 hr0 hl1 hr1).mono fun e W' ⟨he, bel⟩ => ?_
  subst he
  exact ⟨_, rfl, _, _, _, [], _, [], hW', trodAll_mk1 (shut_bool Try.underlying4 _), (trodAll_cons_mk (Below.trod laidOut (by kernel_rfl) (of_decide_eq_true (by kernel_rfl)) k0 bel lt0) (trodAll_cons_mk (Below.trod laidOut (by kernel_rfl) (of_decide_eq_true (by kernel_rfl)) k1 bel lt1) trodAll_mk0)), rfl, bel.frame _, fun h => by cases h⟩

theorem over : Rows.fnExactBagTimesRow.holds Try.pinned (OpenSpec.ofChange Rows.fnExactBagTimesSpec) :=
  OpenClaim.holds_of_wide 11 Try.f11 rfl rfl rfl rfl rfl rfl rfl ⟨rfl, rfl, rfl, rfl, rfl⟩ rfl rfl rfl rfl rfl (by kernel_rfl) Try.func11 (by kernel_rfl)
    (of_decide_eq_true (by kernel_rfl)) (by unfold Func.isWrapper; first | (rw [if_pos (by decide +kernel)]; kernel_rfl) | (rw [if_neg (by decide +kernel)]; exact ⟨rfl, rfl⟩))
    (fun os started H enc _ => lifted os started H enc)

end Go.Proofs.Ytijbngdafgmpaaa.fnExactBagTimes
namespace Go.Proofs.Ytijbngdafgmpaaa

theorem fnExactBagTimes_holds : Rows.FnExactBagTimesSaid := fnExactBagTimes.over
#print axioms fnExactBagTimes_holds
end Go.Proofs.Ytijbngdafgmpaaa
