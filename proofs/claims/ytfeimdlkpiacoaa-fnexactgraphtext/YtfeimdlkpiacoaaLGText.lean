/-
  The walk of FnExactGraphText.
-/
import Derived.Deep.DeepCutAuto
import Derived.Test.YtfeimdlkpiacoaaGTxtS
import Derived.Test.YtfeimdlkpiacoaaHld
namespace Go.Proofs.Ytfeimdlkpiacoaa
open Go.RowKit

set_option maxHeartbeats 8000000 in
set_option maxRecDepth 100000 in
theorem law_7 (s0 : Int) (a0 : Option Addr) (n0 cap0 : Nat) (l0 : List Ed) (w : World) (hm0 : n0 ≤ maxLen) (hl0 : l0.length = n0) (hr0 : EdgesIn 0 w.heap.size w a0 l0) :
    Calls Try.prog 7 #[gv s0 a0 n0 cap0] w fun e w' => e = .returned (.bool true) ∧ Below w.heap.size w w' := by
  have HR0 : Hid (EdgesIn 0 w.heap.size w a0 l0) := hr0
  have HL0 : Hid (l0.length = n0) := hl0
  have HMX : Hid (n0 ≤ 9223372036854775807) := by unfold maxLen at hm0; show _ ≤ _; omega
  clear hr0 hl0 hm0
  go_enter Try.func7, Try.ntmps7
  go_wp2_with fail
  refine (szGraph_any a0 n0 cap0 1048576 s0 _ HMX.out (by omega)).mono ?_
  rintro e w1 ⟨x, rfl, HX, hb1⟩
  have HD_1 : Hid (Hold w w1 [(w.heap.size, [.int .i64 s0, .slice a0 n0 cap0])]) := ((Hold.none w).more [.int .i64 s0, .slice a0 n0 cap0] 24).below hb1.out
  clear hb1
  by_cases hx : x < 0
  · go_wp2
    go_ret
    exact ⟨rfl, HD_1.out.bel⟩
  have HM : Hid (n0 ≤ 1048576) := by
    rcases HX.out with h | h
    · omega
    · exact h
  clear HX
  have ZZ2 : Hid (w.heap.size < w1.heap.size) := HD_1.out.lt (vs := [.int .i64 s0, .slice a0 n0 cap0]) (by simp)
  have q_4 : w1.cell? ⟨w.heap.size, 0, none⟩ = some (.int .i64 s0) := HD_1.out.cell (b := w.heap.size) (vs := [.int .i64 s0, .slice a0 n0 cap0]) (i := 0) (by simp) (by simp)
  have q_5 : w1.cell? ⟨w.heap.size, 1, none⟩ = some (.slice a0 n0 cap0) := HD_1.out.cell (b := w.heap.size) (vs := [.int .i64 s0, .slice a0 n0 cap0]) (i := 1) (by simp) (by simp)
  go_wp2_with fail
  refine (toGraph_any 0 w.heap.size s0 a0 n0 cap0 l0 _ (HR0.out.below HD_1.out.bel (Nat.le_refl _)) HD_1.out.bel.size HL0.out HM.out).mono ?_
  rintro e w2 ⟨g2, rfl, X_3, B_6⟩
  clear q_4 q_5
  have HD_7 : Hid (Hold w w2 [(w.heap.size, [.int .i64 s0, .slice a0 n0 cap0])]) := HD_1.out.below B_6.out
  clear HD_1
  have ZZ8 : Hid (w1.heap.size ≤ w2.heap.size) := B_6.out.size
  clear B_6
  have T1_9 : Hid (EdgesOwn w1.heap.size w2.heap.size w2 (some ⟨g2, 0, none⟩) l0) := X_3.out
  clear X_3
  go_wp2_with fail
  refine (specGText_any w1.heap.size w2.heap.size s0 (some ⟨g2, 0, none⟩) n0 n0 l0 _ T1_9.out.toIn (by have y0 := ZZ2.out; have y1 := ZZ8.out; omega) HL0.out HM.out).mono ?_
  rintro e w3 ⟨t3, ok3, rfl, HE3, B_10⟩
  have HD_11 : Hid (Hold w w3 [(w.heap.size, [.int .i64 s0, .slice a0 n0 cap0])]) := HD_7.out.below B_10.out
  clear HD_7
  have ZZ12 : Hid (w2.heap.size ≤ w3.heap.size) := B_10.out.size
  have T1_12 : Hid (EdgesOwn w1.heap.size w2.heap.size w3 (some ⟨g2, 0, none⟩) l0) := T1_9.out.below B_10.out (by have y0 := ZZ2.out; have y1 := ZZ8.out; have y2 := ZZ12.out; omega)
  clear T1_9
  clear B_10
  clear T1_12
  have q_14 : w3.cell? ⟨w.heap.size, 0, none⟩ = some (.int .i64 s0) := HD_11.out.cell (b := w.heap.size) (vs := [.int .i64 s0, .slice a0 n0 cap0]) (i := 0) (by simp) (by simp)
  have q_15 : w3.cell? ⟨w.heap.size, 1, none⟩ = some (.slice a0 n0 cap0) := HD_11.out.cell (b := w.heap.size) (vs := [.int .i64 s0, .slice a0 n0 cap0]) (i := 1) (by simp) (by simp)
  go_wp2_with fail
  refine (toGraph_any 0 w.heap.size s0 a0 n0 cap0 l0 _ (HR0.out.below HD_11.out.bel (Nat.le_refl _)) HD_11.out.bel.size HL0.out HM.out).mono ?_
  rintro e w4 ⟨g4, rfl, X_13, B_16⟩
  clear q_14 q_15
  have HD_17 : Hid (Hold w w4 [(w.heap.size, [.int .i64 s0, .slice a0 n0 cap0])]) := HD_11.out.below B_16.out
  clear HD_11
  have ZZ18 : Hid (w3.heap.size ≤ w4.heap.size) := B_16.out.size
  clear B_16
  have X0_19 : Hid (EdgesOwn w3.heap.size w4.heap.size w4 (some ⟨g4, 0, none⟩) l0) := X_13.out
  clear X_13
  have BA_20 : Hid (Below w4.heap.size w4 (w4.alloc (.cells #[.int .i64 s0, .slice (some ⟨g4, 0, none⟩) n0 n0] 29))) := below1' w4 _
  have HD_21 : Hid (Hold w (w4.alloc (.cells #[.int .i64 s0, .slice (some ⟨g4, 0, none⟩) n0 n0] 29)) [(w4.heap.size, [.int .i64 s0, .slice (some ⟨g4, 0, none⟩) n0 n0]), (w.heap.size, [.int .i64 s0, .slice a0 n0 cap0])]) := HD_17.out.more [.int .i64 s0, .slice (some ⟨g4, 0, none⟩) n0 n0] 29
  clear HD_17
  have ZZ22 : Hid ((w4.alloc (.cells #[.int .i64 s0, .slice (some ⟨g4, 0, none⟩) n0 n0] 29)).heap.size = w4.heap.size + 1) := by show _ = _; simp
  have ZZ23 : Hid (w4.heap.size ≤ (w4.alloc (.cells #[.int .i64 s0, .slice (some ⟨g4, 0, none⟩) n0 n0] 29)).heap.size) := BA_20.out.size
  have X0_23 : Hid (EdgesOwn w3.heap.size w4.heap.size (w4.alloc (.cells #[.int .i64 s0, .slice (some ⟨g4, 0, none⟩) n0 n0] 29)) (some ⟨g4, 0, none⟩) l0) := X0_19.out.below BA_20.out (by have y0 := ZZ2.out; have y1 := ZZ8.out; have y2 := ZZ12.out; have y3 := ZZ18.out; have y4 := ZZ22.out; have y5 := ZZ23.out; omega)
  clear X0_19
  clear BA_20
  go_wp2_with fail
  refine (graphText_any w3.heap.size w4.heap.size s0 (some ⟨g4, 0, none⟩) n0 n0 l0 _ X0_23.out.toIn (by have y0 := ZZ2.out; have y1 := ZZ8.out; have y2 := ZZ12.out; have y3 := ZZ18.out; have y4 := ZZ22.out; have y5 := ZZ23.out; omega) HL0.out HM.out).mono ?_
  rintro e w5 ⟨t5, ok5, rfl, HE5, B_24⟩
  have HD_25 : Hid (Hold w w5 [(w4.heap.size, [.int .i64 s0, .slice (some ⟨g4, 0, none⟩) n0 n0]), (w.heap.size, [.int .i64 s0, .slice a0 n0 cap0])]) := HD_21.out.below B_24.out
  clear HD_21
  have ZZ26 : Hid ((w4.alloc (.cells #[.int .i64 s0, .slice (some ⟨g4, 0, none⟩) n0 n0] 29)).heap.size ≤ w5.heap.size) := B_24.out.size
  have X0_26 : Hid (EdgesOwn w3.heap.size w4.heap.size w5 (some ⟨g4, 0, none⟩) l0) := X0_23.out.below B_24.out (by have y0 := ZZ2.out; have y1 := ZZ8.out; have y2 := ZZ12.out; have y3 := ZZ18.out; have y4 := ZZ22.out; have y5 := ZZ23.out; have y6 := ZZ26.out; omega)
  clear X0_23
  clear B_24
  obtain rfl : t5 = t3 := by rw [HE5.out.2, HE3.out.2]
  obtain rfl : ok5 = ok3 := by rw [HE5.out.1, HE3.out.1]
  have q_27 : w5.cell? ⟨w4.heap.size, 0, none⟩ = some (.int .i64 s0) := HD_25.out.cell (b := w4.heap.size) (vs := [.int .i64 s0, .slice (some ⟨g4, 0, none⟩) n0 n0]) (i := 0) (by simp) (by simp)
  have q_28 : w5.cell? ⟨w4.heap.size, 1, none⟩ = some (.slice (some ⟨g4, 0, none⟩) n0 n0) := HD_25.out.cell (b := w4.heap.size) (vs := [.int .i64 s0, .slice (some ⟨g4, 0, none⟩) n0 n0]) (i := 1) (by simp) (by simp)
  have q_29 : w5.cell? ⟨w.heap.size, 0, none⟩ = some (.int .i64 s0) := HD_25.out.cell (b := w.heap.size) (vs := [.int .i64 s0, .slice a0 n0 cap0]) (i := 0) (by simp) (by simp)
  have q_30 : w5.cell? ⟨w.heap.size, 1, none⟩ = some (.slice a0 n0 cap0) := HD_25.out.cell (b := w.heap.size) (vs := [.int .i64 s0, .slice a0 n0 cap0]) (i := 1) (by simp) (by simp)
  have HC1 : Hid (∀ w0, Below w5.heap.size w5 w0 → Calls Try.prog 11 #[gv s0 a0 n0 cap0] w0 fun e w' => ∃ g : Nat, e = .returned (gv s0 (some ⟨g, 0, none⟩) n0 n0) ∧ Hid (EdgesIn w5.heap.size w'.heap.size w' (some ⟨g, 0, none⟩) l0) ∧ Hid (Below w5.heap.size w5 w') ∧ (w'.cell? ⟨w4.heap.size, 0, none⟩ = some (.int .i64 s0) ∧ w'.cell? ⟨w4.heap.size, 1, none⟩ = some (.slice (some ⟨g4, 0, none⟩) n0 n0) ∧ w'.cell? ⟨w.heap.size, 0, none⟩ = some (.int .i64 s0) ∧ w'.cell? ⟨w.heap.size, 1, none⟩ = some (.slice a0 n0 cap0))) := fun w0 h =>
    (toGraph_any 0 w.heap.size s0 a0 n0 cap0 l0 w0 (HR0.out.below (HD_25.out.below h).bel (Nat.le_refl _)) (HD_25.out.below h).bel.size HL0.out HM.out).mono fun _ w' ⟨g, h1, h2, h4⟩ =>
      have h3 : Hid (Hold w w' [(w4.heap.size, [.int .i64 s0, .slice (some ⟨g4, 0, none⟩) n0 n0]), (w.heap.size, [.int .i64 s0, .slice a0 n0 cap0])]) := (HD_25.out.below h).below h4.out
      ⟨g, h1, h2.out.toIn.wide h.size (Nat.le_refl _), h.trans (h4.out.mono h.size), h3.out.cell (b := w4.heap.size) (vs := [.int .i64 s0, .slice (some ⟨g4, 0, none⟩) n0 n0]) (i := 0) (by simp) (by simp), h3.out.cell (b := w4.heap.size) (vs := [.int .i64 s0, .slice (some ⟨g4, 0, none⟩) n0 n0]) (i := 1) (by simp) (by simp), h3.out.cell (b := w.heap.size) (vs := [.int .i64 s0, .slice a0 n0 cap0]) (i := 0) (by simp) (by simp), h3.out.cell (b := w.heap.size) (vs := [.int .i64 s0, .slice a0 n0 cap0]) (i := 1) (by simp) (by simp)⟩
  have HC2 : Hid (∀ (g : Nat) w0, Below w5.heap.size w5 w0 → EdgesIn w5.heap.size w0.heap.size w0 (some ⟨g, 0, none⟩) l0 → Calls Try.prog 13 #[gv s0 (some ⟨g4, 0, none⟩) n0 n0, gv s0 (some ⟨g, 0, none⟩) n0 n0] w0 fun e w' => e = .returned (.bool true) ∧ Hid (Below w5.heap.size w5 w') ∧ (w'.cell? ⟨w4.heap.size, 0, none⟩ = some (.int .i64 s0) ∧ w'.cell? ⟨w4.heap.size, 1, none⟩ = some (.slice (some ⟨g4, 0, none⟩) n0 n0) ∧ w'.cell? ⟨w.heap.size, 0, none⟩ = some (.int .i64 s0) ∧ w'.cell? ⟨w.heap.size, 1, none⟩ = some (.slice a0 n0 cap0))) := fun g w0 h hx =>
    (eqGraph_any w3.heap.size w4.heap.size w5.heap.size w0.heap.size s0 s0 (some ⟨g4, 0, none⟩) (some ⟨g, 0, none⟩) n0 n0 n0 n0 l0 l0 true w0 (X0_26.out.toIn.below h (by have y0 := ZZ2.out; have y1 := ZZ8.out; have y2 := ZZ12.out; have y3 := ZZ18.out; have y4 := ZZ22.out; have y5 := ZZ23.out; have y6 := ZZ26.out; omega)) hx (by have yy := h.size; have y0 := ZZ2.out; have y1 := ZZ8.out; have y2 := ZZ12.out; have y3 := ZZ18.out; have y4 := ZZ22.out; have y5 := ZZ23.out; have y6 := ZZ26.out; omega) (Nat.le_refl _) HL0.out HL0.out HM.out (by simp)).mono fun _ w' ⟨h1, h4⟩ =>
      have h3 : Hid (Hold w w' [(w4.heap.size, [.int .i64 s0, .slice (some ⟨g4, 0, none⟩) n0 n0]), (w.heap.size, [.int .i64 s0, .slice a0 n0 cap0])]) := (HD_25.out.below h).below h4.out
      ⟨h1, h.trans (h4.out.mono h.size), h3.out.cell (b := w4.heap.size) (vs := [.int .i64 s0, .slice (some ⟨g4, 0, none⟩) n0 n0]) (i := 0) (by simp) (by simp), h3.out.cell (b := w4.heap.size) (vs := [.int .i64 s0, .slice (some ⟨g4, 0, none⟩) n0 n0]) (i := 1) (by simp) (by simp), h3.out.cell (b := w.heap.size) (vs := [.int .i64 s0, .slice a0 n0 cap0]) (i := 0) (by simp) (by simp), h3.out.cell (b := w.heap.size) (vs := [.int .i64 s0, .slice a0 n0 cap0]) (i := 1) (by simp) (by simp)⟩
  go_wp2_with fail
  go_region_held3 (fun w' => w'.cell? ⟨w4.heap.size, 0, none⟩ = some (.int .i64 s0) ∧ w'.cell? ⟨w4.heap.size, 1, none⟩ = some (.slice (some ⟨g4, 0, none⟩) n0 n0) ∧ w'.cell? ⟨w.heap.size, 0, none⟩ = some (.int .i64 s0) ∧ w'.cell? ⟨w.heap.size, 1, none⟩ = some (.slice a0 n0 cap0)) (first | exact ⟨q_27, q_28, q_29, q_30⟩ | exact hk9 | exact hk10) (first | (go_at_call 11; refine (HC1.out _ ((Below.refl _ _).drew)).mono ?_; rintro e w6 ⟨g9, rfl, X9, B9, hk9⟩) | (go_at_call 13; refine (HC2.out _ _ B9.out X9.out).mono ?_; rintro e w7 ⟨rfl, B10, hk10⟩))
  clear q_27 q_28 q_29 q_30
  clear hk9 hk10 B9 X9 HC1 HC2
  have HD_31 : Hid (Hold w w7 [(w4.heap.size, [.int .i64 s0, .slice (some ⟨g4, 0, none⟩) n0 n0]), (w.heap.size, [.int .i64 s0, .slice a0 n0 cap0])]) := HD_25.out.below B10.out
  clear HD_25
  have ZZ32 : Hid (w5.heap.size ≤ w7.heap.size) := B10.out.size
  have X0_32 : Hid (EdgesOwn w3.heap.size w4.heap.size w7 (some ⟨g4, 0, none⟩) l0) := X0_26.out.below B10.out (by have y0 := ZZ2.out; have y1 := ZZ8.out; have y2 := ZZ12.out; have y3 := ZZ18.out; have y4 := ZZ22.out; have y5 := ZZ23.out; have y6 := ZZ26.out; have y7 := ZZ32.out; omega)
  clear X0_26
  clear B10
  go_wp2
  go_ret
  exact ⟨rfl, HD_31.out.bel⟩
end Go.Proofs.Ytfeimdlkpiacoaa
