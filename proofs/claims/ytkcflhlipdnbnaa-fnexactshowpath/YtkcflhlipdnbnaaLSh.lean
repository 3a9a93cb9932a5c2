/-
  The walk of FnExactShowPath.
-/
import Derived.Test.YtkcflhlipdnbnaaShW
import Derived.Test.YtkcflhlipdnbnaaPtA
import Derived.Test.YtkcflhlipdnbnaaPtB
import Derived.Test.YtkcflhlipdnbnaaPtC
import Derived.Test.YtkcflhlipdnbnaaHld
import Derived.Deep.RegionHeld3
namespace Go.Proofs.Ytkcflhlipdnbnaa
open Go.RowKit

set_option maxHeartbeats 16000000 in
set_option maxRecDepth 100000 in
theorem law_7 (a1 : Option Addr) (n1 cap1 : Nat) (l1 : List Pc) (w : World) (hm1 : n1 ≤ maxLen) (hl1 : l1.length = n1 ∧ ∀ i, i < n1 → (pat l1 i).2.2.length ≤ maxLen) (hr1 : PathIn 0 w.heap.size w a1 l1) :
    Calls Try.prog 7 #[pv a1 n1 cap1] w fun e w' => e = .returned (.bool true) ∧ Below w.heap.size w w' := by
  have HR1 : Hid (PathIn 0 w.heap.size w a1 l1) := hr1
  have HL1 : Hid (l1.length = n1) := hl1.1
  have HLM1 : Hid (∀ i, i < n1 → (pat l1 i).2.2.length ≤ maxLen) := hl1.2
  have HMX1 : Hid (n1 ≤ maxLen) := hm1
  clear hr1 hl1 hm1
  obtain ⟨t, HTT⟩ : ∃ t, Hid (t = showT l1) := ⟨_, rfl⟩
  obtain ⟨r, HRR⟩ : ∃ r, Hid (r = decide (¬ t = emT)) := ⟨_, rfl⟩
  unfold pv
  go_enter Try.func7, Try.ntmps7
  go_wp2_with fail
  refine (szPath_any 0 w.heap.size a1 n1 cap1 1048576 l1 _ (HR1.out.below (below1 w _) (Nat.le_refl _)) (by simp) HL1.out HMX1.out HLM1.out (by omega)).mono ?_
  rintro e w1 ⟨x, rfl, HX1, hb1⟩
  have HD_1 : Hid (Hold w w1 [(w.heap.size, [.slice a1 n1 cap1])]) := ((Hold.none w).more [.slice a1 n1 cap1] 24).below hb1.out
  clear hb1
  by_cases hx : x < 0
  · go_wp2
    go_ret
    exact ⟨rfl, HD_1.out.bel⟩
  have HM1 : Hid (n1 ≤ 1048576 ∧ (∀ i, i < n1 → (pat l1 i).2.2.length ≤ 1048576) ∧ kidsLen l1 n1 ≤ 1048576) := by
    rcases HX1.out with h | ⟨h1, h2⟩
    · omega
    · refine ⟨by omega, fun i hi => ?_, by omega⟩
      have := kids_le l1 hi
      omega
  clear HX1 HMX1 HLM1
  have ZZ2 : Hid (w.heap.size < w1.heap.size) := HD_1.out.lt (vs := [.slice a1 n1 cap1]) (by simp)
  have q_4 : w1.cell? ⟨w.heap.size, 0, none⟩ = some (.slice a1 n1 cap1) := HD_1.out.cell (b := w.heap.size) (vs := [.slice a1 n1 cap1]) (i := 0) (by simp) (by simp)
  go_wp2_with fail
  refine (toPath_any 0 w.heap.size a1 n1 cap1 l1 _ (HR1.out.below HD_1.out.bel (Nat.le_refl _)) HD_1.out.bel.size HL1.out HM1.out.1 HM1.out.2.1).mono ?_
  rintro e w2 ⟨g2, rfl, X_3, B_5⟩
  clear q_4
  have HD_6 : Hid (Hold w w2 [(w.heap.size, [.slice a1 n1 cap1])]) := HD_1.out.below B_5.out
  clear HD_1
  have ZZ7 : Hid (w1.heap.size ≤ w2.heap.size) := B_5.out.size
  clear B_5
  have T1_8 : Hid (PathOwn w1.heap.size w2.heap.size w2 (some ⟨g2, 0, none⟩) l1) := X_3.out
  clear X_3
  go_wp2_with fail
  refine (specShowPath_any w1.heap.size w2.heap.size (some ⟨g2, 0, none⟩) n1 n1 l1 t r _ T1_8.out.toIn (by have y0 := ZZ2.out; have y1 := ZZ7.out; omega) HL1.out HM1.out.1 HM1.out.2.1 HTT.out HRR.out).mono ?_
  rintro e w3 ⟨rfl, B_9⟩
  have HD_10 : Hid (Hold w w3 [(w.heap.size, [.slice a1 n1 cap1])]) := HD_6.out.below B_9.out
  clear HD_6
  have ZZ11 : Hid (w2.heap.size ≤ w3.heap.size) := B_9.out.size
  have T1_11 : Hid (PathOwn w1.heap.size w2.heap.size w3 (some ⟨g2, 0, none⟩) l1) := T1_8.out.below B_9.out (by have y0 := ZZ2.out; have y1 := ZZ7.out; have y2 := ZZ11.out; omega)
  clear T1_8
  clear B_9
  clear T1_11
  have q_13 : w3.cell? ⟨w.heap.size, 0, none⟩ = some (.slice a1 n1 cap1) := HD_10.out.cell (b := w.heap.size) (vs := [.slice a1 n1 cap1]) (i := 0) (by simp) (by simp)
  go_wp2_with fail
  refine (toPath_any 0 w.heap.size a1 n1 cap1 l1 _ (HR1.out.below HD_10.out.bel (Nat.le_refl _)) HD_10.out.bel.size HL1.out HM1.out.1 HM1.out.2.1).mono ?_
  rintro e w4 ⟨g4, rfl, X_12, B_14⟩
  clear q_13
  have HD_15 : Hid (Hold w w4 [(w.heap.size, [.slice a1 n1 cap1])]) := HD_10.out.below B_14.out
  clear HD_10
  have ZZ16 : Hid (w3.heap.size ≤ w4.heap.size) := B_14.out.size
  clear B_14
  have X0_17 : Hid (PathOwn w3.heap.size w4.heap.size w4 (some ⟨g4, 0, none⟩) l1) := X_12.out
  clear X_12
  have BA_18 : Hid (Below w4.heap.size w4 (w4.alloc (.cells #[.slice (some ⟨g4, 0, none⟩) n1 n1] 34))) := below1' w4 _
  have HD_19 : Hid (Hold w (w4.alloc (.cells #[.slice (some ⟨g4, 0, none⟩) n1 n1] 34)) [(w4.heap.size, [.slice (some ⟨g4, 0, none⟩) n1 n1]), (w.heap.size, [.slice a1 n1 cap1])]) := HD_15.out.more [.slice (some ⟨g4, 0, none⟩) n1 n1] 34
  clear HD_15
  have ZZ20 : Hid ((w4.alloc (.cells #[.slice (some ⟨g4, 0, none⟩) n1 n1] 34)).heap.size = w4.heap.size + 1) := by show _ = _; simp
  have ZZ21 : Hid (w4.heap.size ≤ (w4.alloc (.cells #[.slice (some ⟨g4, 0, none⟩) n1 n1] 34)).heap.size) := BA_18.out.size
  have X0_21 : Hid (PathOwn w3.heap.size w4.heap.size (w4.alloc (.cells #[.slice (some ⟨g4, 0, none⟩) n1 n1] 34)) (some ⟨g4, 0, none⟩) l1) := X0_17.out.below BA_18.out (by have y0 := ZZ2.out; have y1 := ZZ7.out; have y2 := ZZ11.out; have y3 := ZZ16.out; have y4 := ZZ20.out; have y5 := ZZ21.out; omega)
  clear X0_17
  clear BA_18
  have q_22 : (w4.alloc (.cells #[.slice (some ⟨g4, 0, none⟩) n1 n1] 34)).cell? ⟨w4.heap.size, 0, none⟩ = some (.slice (some ⟨g4, 0, none⟩) n1 n1) := HD_19.out.cell (b := w4.heap.size) (vs := [.slice (some ⟨g4, 0, none⟩) n1 n1]) (i := 0) (by simp) (by simp)
  go_wp2_with fail
  refine (showPath_any w3.heap.size w4.heap.size (some ⟨g4, 0, none⟩) n1 n1 l1 t r _ X0_21.out.toIn (by have y0 := ZZ2.out; have y1 := ZZ7.out; have y2 := ZZ11.out; have y3 := ZZ16.out; have y4 := ZZ20.out; have y5 := ZZ21.out; omega) HL1.out HM1.out.1 HM1.out.2.1 HTT.out HRR.out).mono ?_
  rintro e w5 ⟨rfl, B_23⟩
  clear q_22
  have HD_24 : Hid (Hold w w5 [(w4.heap.size, [.slice (some ⟨g4, 0, none⟩) n1 n1]), (w.heap.size, [.slice a1 n1 cap1])]) := HD_19.out.below B_23.out
  clear HD_19
  have ZZ25 : Hid ((w4.alloc (.cells #[.slice (some ⟨g4, 0, none⟩) n1 n1] 34)).heap.size ≤ w5.heap.size) := B_23.out.size
  have X0_25 : Hid (PathOwn w3.heap.size w4.heap.size w5 (some ⟨g4, 0, none⟩) l1) := X0_21.out.below B_23.out (by have y0 := ZZ2.out; have y1 := ZZ7.out; have y2 := ZZ11.out; have y3 := ZZ16.out; have y4 := ZZ20.out; have y5 := ZZ21.out; have y6 := ZZ25.out; omega)
  clear X0_21
  clear B_23
  have q_26 : w5.cell? ⟨w4.heap.size, 0, none⟩ = some (.slice (some ⟨g4, 0, none⟩) n1 n1) := HD_24.out.cell (b := w4.heap.size) (vs := [.slice (some ⟨g4, 0, none⟩) n1 n1]) (i := 0) (by simp) (by simp)
  have q_27 : w5.cell? ⟨w.heap.size, 0, none⟩ = some (.slice a1 n1 cap1) := HD_24.out.cell (b := w.heap.size) (vs := [.slice a1 n1 cap1]) (i := 0) (by simp) (by simp)
  have HC1 : Hid (∀ w0, Below w5.heap.size w5 w0 → Calls Try.prog 10 #[.agg #[.slice a1 n1 cap1]] w0 fun e w' => ∃ g : Nat, e = .returned (.agg #[.slice (some ⟨g, 0, none⟩) n1 n1]) ∧ Hid (PathIn w5.heap.size w'.heap.size w' (some ⟨g, 0, none⟩) l1) ∧ Hid (Below w5.heap.size w5 w') ∧ (w'.cell? ⟨w4.heap.size, 0, none⟩ = some (.slice (some ⟨g4, 0, none⟩) n1 n1) ∧ w'.cell? ⟨w.heap.size, 0, none⟩ = some (.slice a1 n1 cap1))) := fun w0 h =>
    (toPath_any 0 w.heap.size a1 n1 cap1 l1 w0 (HR1.out.below (HD_24.out.below h).bel (Nat.le_refl _)) (HD_24.out.below h).bel.size HL1.out HM1.out.1 HM1.out.2.1).mono fun _ w' ⟨g, h1, h2, h4⟩ =>
      have h3 : Hid (Hold w w' [(w4.heap.size, [.slice (some ⟨g4, 0, none⟩) n1 n1]), (w.heap.size, [.slice a1 n1 cap1])]) := (HD_24.out.below h).below h4.out
      ⟨g, h1, h2.out.toIn.wide h.size (Nat.le_refl _), h.trans (h4.out.mono h.size), h3.out.cell (b := w4.heap.size) (vs := [.slice (some ⟨g4, 0, none⟩) n1 n1]) (i := 0) (by simp) (by simp), h3.out.cell (b := w.heap.size) (vs := [.slice a1 n1 cap1]) (i := 0) (by simp) (by simp)⟩
  have HC2 : Hid (∀ (g : Nat) w0, Below w5.heap.size w5 w0 → PathIn w5.heap.size w0.heap.size w0 (some ⟨g, 0, none⟩) l1 → Calls Try.prog 13 #[.agg #[.slice (some ⟨g4, 0, none⟩) n1 n1], .agg #[.slice (some ⟨g, 0, none⟩) n1 n1]] w0 fun e w' => e = .returned (.bool true) ∧ Hid (Below w5.heap.size w5 w') ∧ (w'.cell? ⟨w4.heap.size, 0, none⟩ = some (.slice (some ⟨g4, 0, none⟩) n1 n1) ∧ w'.cell? ⟨w.heap.size, 0, none⟩ = some (.slice a1 n1 cap1))) := fun g w0 h hx =>
    (eqPath_any w3.heap.size w4.heap.size w5.heap.size w0.heap.size (some ⟨g4, 0, none⟩) (some ⟨g, 0, none⟩) n1 n1 n1 n1 l1 l1 true w0 (X0_25.out.toIn.below h (by have y0 := ZZ2.out; have y1 := ZZ7.out; have y2 := ZZ11.out; have y3 := ZZ16.out; have y4 := ZZ20.out; have y5 := ZZ21.out; have y6 := ZZ25.out; omega)) hx (by have yy := h.size; have y0 := ZZ2.out; have y1 := ZZ7.out; have y2 := ZZ11.out; have y3 := ZZ16.out; have y4 := ZZ20.out; have y5 := ZZ21.out; have y6 := ZZ25.out; omega) (Nat.le_refl _) HL1.out HL1.out HM1.out.1 HM1.out.2.1 (by simp)).mono fun _ w' ⟨h1, h4⟩ =>
      have h3 : Hid (Hold w w' [(w4.heap.size, [.slice (some ⟨g4, 0, none⟩) n1 n1]), (w.heap.size, [.slice a1 n1 cap1])]) := (HD_24.out.below h).below h4.out
      ⟨h1, h.trans (h4.out.mono h.size), h3.out.cell (b := w4.heap.size) (vs := [.slice (some ⟨g4, 0, none⟩) n1 n1]) (i := 0) (by simp) (by simp), h3.out.cell (b := w.heap.size) (vs := [.slice a1 n1 cap1]) (i := 0) (by simp) (by simp)⟩
  go_wp2_with fail
  go_region_held3 (fun w' => w'.cell? ⟨w4.heap.size, 0, none⟩ = some (.slice (some ⟨g4, 0, none⟩) n1 n1) ∧ w'.cell? ⟨w.heap.size, 0, none⟩ = some (.slice a1 n1 cap1)) (first | exact ⟨q_26, q_27⟩ | exact hk9 | exact hk10) (first | (go_at_call 10; refine (HC1.out _ ((Below.refl _ _).drew)).mono ?_; rintro e w6 ⟨g9, rfl, X9, B9, hk9⟩) | (go_at_call 13; refine (HC2.out _ _ B9.out X9.out).mono ?_; rintro e w7 ⟨rfl, B10, hk10⟩))
  clear q_26 q_27
  clear hk9 hk10 B9 X9 HC1 HC2
  have HD_28 : Hid (Hold w w7 [(w4.heap.size, [.slice (some ⟨g4, 0, none⟩) n1 n1]), (w.heap.size, [.slice a1 n1 cap1])]) := HD_24.out.below B10.out
  clear HD_24
  have ZZ29 : Hid (w5.heap.size ≤ w7.heap.size) := B10.out.size
  have X0_29 : Hid (PathOwn w3.heap.size w4.heap.size w7 (some ⟨g4, 0, none⟩) l1) := X0_25.out.below B10.out (by have y0 := ZZ2.out; have y1 := ZZ7.out; have y2 := ZZ11.out; have y3 := ZZ16.out; have y4 := ZZ20.out; have y5 := ZZ21.out; have y6 := ZZ25.out; have y7 := ZZ29.out; omega)
  clear X0_25
  clear B10
  go_wp2
  go_ret
  exact ⟨rfl, HD_28.out.bel⟩
end Go.Proofs.Ytkcflhlipdnbnaa
