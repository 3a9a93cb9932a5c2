/-
  The walk of FnExactNextOf.
-/
import Derived.Test.YtfeimdlkpiacoaaNxI
import Derived.Test.YtfeimdlkpiacoaaHld
import Derived.Test.YtfeimdlkpiacoaaEdH
namespace Go.Proofs.Ytfeimdlkpiacoaa
open Go.RowKit

set_option maxHeartbeats 8000000 in
set_option maxRecDepth 100000 in
theorem law_5 (s0 : Int) (a0 : Option Addr) (n0 cap0 : Nat) (l0 : List Ed) (z1 z2 : Int) (w : World) (hm0 : n0 ≤ maxLen) (hl0 : l0.length = n0) (hr0 : EdgesIn 0 w.heap.size w a0 l0) (_hz1 : -9223372036854775808 ≤ z1 ∧ z1 ≤ 9223372036854775807) (_hz2 : 0 ≤ z2 ∧ z2 ≤ 255) :
    Calls Try.prog 5 #[gv s0 a0 n0 cap0, .int .i64 z1, .int .u8 z2] w fun e w' => e = .returned (.bool true) ∧ Below w.heap.size w w' := by
  have HR0 : Hid (EdgesIn 0 w.heap.size w a0 l0) := hr0
  have HL0 : Hid (l0.length = n0) := hl0
  have HMX : Hid (n0 ≤ 9223372036854775807) := by unfold maxLen at hm0; show _ ≤ _; omega
  clear hr0 hl0 hm0
  clear _hz1 _hz2
  obtain ⟨LL, HLL⟩ : ∃ LL, Hid (LL = nextE l0 z1 z2) := ⟨_, rfl⟩
  have HLN : Hid (LL.length ≤ n0) := by rw [HLL.out, ← HL0.out]; exact nextE_len l0 z1 z2
  go_enter Try.func5, Try.ntmps5
  go_wp2_with fail
  refine (szGraph_any a0 n0 cap0 1048576 s0 _ HMX.out (by omega)).mono ?_
  rintro e w1 ⟨x, rfl, HX, hb1⟩
  have HD_1 : Hid (Hold w w1 [(w.heap.size, [.int .i64 s0, .slice a0 n0 cap0])]) := ((Hold.none w).more [.int .i64 s0, .slice a0 n0 cap0] 24).below hb1.out
  clear hb1
  by_cases hx : x < 0
  · go_wp2
    go_ret
    exact ⟨rfl, HD_1.out.bel⟩
  have HM : Hid (n0 ≤ 1048576) := by
    rcases HX.out with h | h
    · omega
    · exact h
  clear HX
  have ZZ2 : Hid (w.heap.size < w1.heap.size) := HD_1.out.lt (vs := [.int .i64 s0, .slice a0 n0 cap0]) (by simp)
  have q_4 : w1.cell? ⟨w.heap.size, 0, none⟩ = some (.int .i64 s0) := HD_1.out.cell (b := w.heap.size) (vs := [.int .i64 s0, .slice a0 n0 cap0]) (i := 0) (by simp) (by simp)
  have q_5 : w1.cell? ⟨w.heap.size, 1, none⟩ = some (.slice a0 n0 cap0) := HD_1.out.cell (b := w.heap.size) (vs := [.int .i64 s0, .slice a0 n0 cap0]) (i := 1) (by simp) (by simp)
  go_wp2_with fail
  refine (toGraph_any 0 w.heap.size s0 a0 n0 cap0 l0 _ (HR0.out.below HD_1.out.bel (Nat.le_refl _)) HD_1.out.bel.size HL0.out HM.out).mono ?_
  rintro e w2 ⟨g2, rfl, X_3, B_6⟩
  clear q_4 q_5
  have HD_7 : Hid (Hold w w2 [(w.heap.size, [.int .i64 s0, .slice a0 n0 cap0])]) := HD_1.out.below B_6.out
  clear HD_1
  have ZZ8 : Hid (w1.heap.size ≤ w2.heap.size) := B_6.out.size
  clear B_6
  have T1_9 : Hid (EdgesOwn w1.heap.size w2.heap.size w2 (some ⟨g2, 0, none⟩) l0) := X_3.out
  clear X_3
  go_wp2_with fail
  refine (specNext_any w1.heap.size w2.heap.size s0 (some ⟨g2, 0, none⟩) n0 n0 l0 z1 z2 _ T1_9.out.toIn (by have y0 := ZZ2.out; have y1 := ZZ8.out; omega) HL0.out HM.out).mono ?_
  rintro e w3 ⟨a3, n3, cap3, rfl, HN_10, X_10, B_11⟩
  have HD_12 : Hid (Hold w w3 [(w.heap.size, [.int .i64 s0, .slice a0 n0 cap0])]) := HD_7.out.below B_11.out
  clear HD_7
  have ZZ13 : Hid (w2.heap.size ≤ w3.heap.size) := B_11.out.size
  have T1_13 : Hid (EdgesOwn w1.heap.size w2.heap.size w3 (some ⟨g2, 0, none⟩) l0) := T1_9.out.below B_11.out (by have y0 := ZZ2.out; have y1 := ZZ8.out; have y2 := ZZ13.out; omega)
  clear T1_9
  clear B_11
  rw [← HLL.out] at HN_10 X_10
  have W0_14 : Hid (RowOwn w2.heap.size w3.heap.size w3 a3 LL) := X_10.out
  clear X_10
  have HN3 : Hid (LL.length = n3) := HN_10.out
  clear HN_10
  clear T1_13
  have HM3 : Hid (n3 ≤ 1048576) := by have := HLN.out; have := HN3.out; have := HM.out; show _ ≤ _; omega
  have q_16 : w3.cell? ⟨w.heap.size, 0, none⟩ = some (.int .i64 s0) := HD_12.out.cell (b := w.heap.size) (vs := [.int .i64 s0, .slice a0 n0 cap0]) (i := 0) (by simp) (by simp)
  have q_17 : w3.cell? ⟨w.heap.size, 1, none⟩ = some (.slice a0 n0 cap0) := HD_12.out.cell (b := w.heap.size) (vs := [.int .i64 s0, .slice a0 n0 cap0]) (i := 1) (by simp) (by simp)
  go_wp2_with fail
  refine (toGraph_any 0 w.heap.size s0 a0 n0 cap0 l0 _ (HR0.out.below HD_12.out.bel (Nat.le_refl _)) HD_12.out.bel.size HL0.out HM.out).mono ?_
  rintro e w4 ⟨g4, rfl, X_15, B_18⟩
  clear q_16 q_17
  have HD_19 : Hid (Hold w w4 [(w.heap.size, [.int .i64 s0, .slice a0 n0 cap0])]) := HD_12.out.below B_18.out
  clear HD_12
  have ZZ20 : Hid (w3.heap.size ≤ w4.heap.size) := B_18.out.size
  have W0_20 : Hid (RowOwn w2.heap.size w3.heap.size w4 a3 LL) := W0_14.out.below B_18.out (by have y0 := ZZ2.out; have y1 := ZZ8.out; have y2 := ZZ13.out; have y3 := ZZ20.out; omega)
  clear W0_14
  clear B_18
  have X0_21 : Hid (EdgesOwn w3.heap.size w4.heap.size w4 (some ⟨g4, 0, none⟩) l0) := X_15.out
  clear X_15
  have BA_22 : Hid (Below w4.heap.size w4 (w4.alloc (.cells #[.int .i64 s0, .slice (some ⟨g4, 0, none⟩) n0 n0] 29))) := below1' w4 _
  have HD_23 : Hid (Hold w (w4.alloc (.cells #[.int .i64 s0, .slice (some ⟨g4, 0, none⟩) n0 n0] 29)) [(w4.heap.size, [.int .i64 s0, .slice (some ⟨g4, 0, none⟩) n0 n0]), (w.heap.size, [.int .i64 s0, .slice a0 n0 cap0])]) := HD_19.out.more [.int .i64 s0, .slice (some ⟨g4, 0, none⟩) n0 n0] 29
  clear HD_19
  have ZZ24 : Hid ((w4.alloc (.cells #[.int .i64 s0, .slice (some ⟨g4, 0, none⟩) n0 n0] 29)).heap.size = w4.heap.size + 1) := by show _ = _; simp
  have ZZ25 : Hid (w4.heap.size ≤ (w4.alloc (.cells #[.int .i64 s0, .slice (some ⟨g4, 0, none⟩) n0 n0] 29)).heap.size) := BA_22.out.size
  have W0_25 : Hid (RowOwn w2.heap.size w3.heap.size (w4.alloc (.cells #[.int .i64 s0, .slice (some ⟨g4, 0, none⟩) n0 n0] 29)) a3 LL) := W0_20.out.below BA_22.out (by have y0 := ZZ2.out; have y1 := ZZ8.out; have y2 := ZZ13.out; have y3 := ZZ20.out; have y4 := ZZ24.out; have y5 := ZZ25.out; omega)
  have X0_25 : Hid (EdgesOwn w3.heap.size w4.heap.size (w4.alloc (.cells #[.int .i64 s0, .slice (some ⟨g4, 0, none⟩) n0 n0] 29)) (some ⟨g4, 0, none⟩) l0) := X0_21.out.below BA_22.out (by have y0 := ZZ2.out; have y1 := ZZ8.out; have y2 := ZZ13.out; have y3 := ZZ20.out; have y4 := ZZ24.out; have y5 := ZZ25.out; omega)
  clear W0_20 X0_21
  clear BA_22
  have q_27 : (w4.alloc (.cells #[.int .i64 s0, .slice (some ⟨g4, 0, none⟩) n0 n0] 29)).cell? ⟨w4.heap.size, 0, none⟩ = some (.int .i64 s0) := HD_23.out.cell (b := w4.heap.size) (vs := [.int .i64 s0, .slice (some ⟨g4, 0, none⟩) n0 n0]) (i := 0) (by simp) (by simp)
  have q_28 : (w4.alloc (.cells #[.int .i64 s0, .slice (some ⟨g4, 0, none⟩) n0 n0] 29)).cell? ⟨w4.heap.size, 1, none⟩ = some (.slice (some ⟨g4, 0, none⟩) n0 n0) := HD_23.out.cell (b := w4.heap.size) (vs := [.int .i64 s0, .slice (some ⟨g4, 0, none⟩) n0 n0]) (i := 1) (by simp) (by simp)
  go_wp2_with fail
  refine (nextOf_any w3.heap.size w4.heap.size s0 (some ⟨g4, 0, none⟩) n0 n0 l0 z1 z2 _ X0_25.out.toIn (by have y0 := ZZ2.out; have y1 := ZZ8.out; have y2 := ZZ13.out; have y3 := ZZ20.out; have y4 := ZZ24.out; have y5 := ZZ25.out; omega) HL0.out HM.out).mono ?_
  rintro e w5 ⟨a5, n5, cap5, rfl, HN_26, X_26, B_29⟩
  clear q_27 q_28
  have HD_30 : Hid (Hold w w5 [(w4.heap.size, [.int .i64 s0, .slice (some ⟨g4, 0, none⟩) n0 n0]), (w.heap.size, [.int .i64 s0, .slice a0 n0 cap0])]) := HD_23.out.below B_29.out
  clear HD_23
  have ZZ31 : Hid ((w4.alloc (.cells #[.int .i64 s0, .slice (some ⟨g4, 0, none⟩) n0 n0] 29)).heap.size ≤ w5.heap.size) := B_29.out.size
  have W0_31 : Hid (RowOwn w2.heap.size w3.heap.size w5 a3 LL) := W0_25.out.below B_29.out (by have y0 := ZZ2.out; have y1 := ZZ8.out; have y2 := ZZ13.out; have y3 := ZZ20.out; have y4 := ZZ24.out; have y5 := ZZ25.out; have y6 := ZZ31.out; omega)
  have X0_31 : Hid (EdgesOwn w3.heap.size w4.heap.size w5 (some ⟨g4, 0, none⟩) l0) := X0_25.out.below B_29.out (by have y0 := ZZ2.out; have y1 := ZZ8.out; have y2 := ZZ13.out; have y3 := ZZ20.out; have y4 := ZZ24.out; have y5 := ZZ25.out; have y6 := ZZ31.out; omega)
  clear W0_25 X0_25
  clear B_29
  rw [← HLL.out] at HN_26 X_26
  have G0_32 : Hid (RowOwn (w4.alloc (.cells #[.int .i64 s0, .slice (some ⟨g4, 0, none⟩) n0 n0] 29)).heap.size w5.heap.size w5 a5 LL) := X_26.out
  clear X_26
  obtain rfl : n3 = n5 := by rw [← HN3.out, HN_26.out]
  clear HN_26
  go_wp2_with fail
  refine (eqInts_any (w4.alloc (.cells #[.int .i64 s0, .slice (some ⟨g4, 0, none⟩) n0 n0] 29)).heap.size w5.heap.size w2.heap.size w3.heap.size a5 a3 n3 n3 cap5 cap3 LL LL true _ G0_32.out.toIn W0_31.out.toIn HN3.out HN3.out HM3.out (by simp)).mono ?_
  rintro e w6 ⟨rfl, b_33⟩
  have B_33 : Hid (Below w5.heap.size w5 w6) := b_33
  clear b_33
  have HD_34 : Hid (Hold w w6 [(w4.heap.size, [.int .i64 s0, .slice (some ⟨g4, 0, none⟩) n0 n0]), (w.heap.size, [.int .i64 s0, .slice a0 n0 cap0])]) := HD_30.out.below B_33.out
  clear HD_30
  have ZZ35 : Hid (w5.heap.size ≤ w6.heap.size) := B_33.out.size
  have W0_35 : Hid (RowOwn w2.heap.size w3.heap.size w6 a3 LL) := W0_31.out.below B_33.out (by have y0 := ZZ2.out; have y1 := ZZ8.out; have y2 := ZZ13.out; have y3 := ZZ20.out; have y4 := ZZ24.out; have y5 := ZZ25.out; have y6 := ZZ31.out; have y7 := ZZ35.out; omega)
  have X0_35 : Hid (EdgesOwn w3.heap.size w4.heap.size w6 (some ⟨g4, 0, none⟩) l0) := X0_31.out.below B_33.out (by have y0 := ZZ2.out; have y1 := ZZ8.out; have y2 := ZZ13.out; have y3 := ZZ20.out; have y4 := ZZ24.out; have y5 := ZZ25.out; have y6 := ZZ31.out; have y7 := ZZ35.out; omega)
  have G0_35 : Hid (RowOwn (w4.alloc (.cells #[.int .i64 s0, .slice (some ⟨g4, 0, none⟩) n0 n0] 29)).heap.size w5.heap.size w6 a5 LL) := G0_32.out.below B_33.out (by have y0 := ZZ2.out; have y1 := ZZ8.out; have y2 := ZZ13.out; have y3 := ZZ20.out; have y4 := ZZ24.out; have y5 := ZZ25.out; have y6 := ZZ31.out; have y7 := ZZ35.out; omega)
  clear W0_31 X0_31 G0_32
  clear B_33
  have q_36 : w6.cell? ⟨w4.heap.size, 0, none⟩ = some (.int .i64 s0) := HD_34.out.cell (b := w4.heap.size) (vs := [.int .i64 s0, .slice (some ⟨g4, 0, none⟩) n0 n0]) (i := 0) (by simp) (by simp)
  have q_37 : w6.cell? ⟨w4.heap.size, 1, none⟩ = some (.slice (some ⟨g4, 0, none⟩) n0 n0) := HD_34.out.cell (b := w4.heap.size) (vs := [.int .i64 s0, .slice (some ⟨g4, 0, none⟩) n0 n0]) (i := 1) (by simp) (by simp)
  have q_38 : w6.cell? ⟨w.heap.size, 0, none⟩ = some (.int .i64 s0) := HD_34.out.cell (b := w.heap.size) (vs := [.int .i64 s0, .slice a0 n0 cap0]) (i := 0) (by simp) (by simp)
  have q_39 : w6.cell? ⟨w.heap.size, 1, none⟩ = some (.slice a0 n0 cap0) := HD_34.out.cell (b := w.heap.size) (vs := [.int .i64 s0, .slice a0 n0 cap0]) (i := 1) (by simp) (by simp)
  have HC1 : Hid (∀ w0, Below w6.heap.size w6 w0 → Calls Try.prog 11 #[gv s0 a0 n0 cap0] w0 fun e w' => ∃ g : Nat, e = .returned (gv s0 (some ⟨g, 0, none⟩) n0 n0) ∧ Hid (EdgesIn w6.heap.size w'.heap.size w' (some ⟨g, 0, none⟩) l0) ∧ Hid (Below w6.heap.size w6 w') ∧ (w'.cell? ⟨w4.heap.size, 0, none⟩ = some (.int .i64 s0) ∧ w'.cell? ⟨w4.heap.size, 1, none⟩ = some (.slice (some ⟨g4, 0, none⟩) n0 n0) ∧ w'.cell? ⟨w.heap.size, 0, none⟩ = some (.int .i64 s0) ∧ w'.cell? ⟨w.heap.size, 1, none⟩ = some (.slice a0 n0 cap0))) := fun w0 h =>
    (toGraph_any 0 w.heap.size s0 a0 n0 cap0 l0 w0 (HR0.out.below (HD_34.out.below h).bel (Nat.le_refl _)) (HD_34.out.below h).bel.size HL0.out HM.out).mono fun _ w' ⟨g, h1, h2, h4⟩ =>
      have h3 : Hid (Hold w w' [(w4.heap.size, [.int .i64 s0, .slice (some ⟨g4, 0, none⟩) n0 n0]), (w.heap.size, [.int .i64 s0, .slice a0 n0 cap0])]) := (HD_34.out.below h).below h4.out
      ⟨g, h1, h2.out.toIn.wide h.size (Nat.le_refl _), h.trans (h4.out.mono h.size), h3.out.cell (b := w4.heap.size) (vs := [.int .i64 s0, .slice (some ⟨g4, 0, none⟩) n0 n0]) (i := 0) (by simp) (by simp), h3.out.cell (b := w4.heap.size) (vs := [.int .i64 s0, .slice (some ⟨g4, 0, none⟩) n0 n0]) (i := 1) (by simp) (by simp), h3.out.cell (b := w.heap.size) (vs := [.int .i64 s0, .slice a0 n0 cap0]) (i := 0) (by simp) (by simp), h3.out.cell (b := w.heap.size) (vs := [.int .i64 s0, .slice a0 n0 cap0]) (i := 1) (by simp) (by simp)⟩
  have HC2 : Hid (∀ (g : Nat) w0, Below w6.heap.size w6 w0 → EdgesIn w6.heap.size w0.heap.size w0 (some ⟨g, 0, none⟩) l0 → Calls Try.prog 13 #[gv s0 (some ⟨g4, 0, none⟩) n0 n0, gv s0 (some ⟨g, 0, none⟩) n0 n0] w0 fun e w' => e = .returned (.bool true) ∧ Hid (Below w6.heap.size w6 w') ∧ (w'.cell? ⟨w4.heap.size, 0, none⟩ = some (.int .i64 s0) ∧ w'.cell? ⟨w4.heap.size, 1, none⟩ = some (.slice (some ⟨g4, 0, none⟩) n0 n0) ∧ w'.cell? ⟨w.heap.size, 0, none⟩ = some (.int .i64 s0) ∧ w'.cell? ⟨w.heap.size, 1, none⟩ = some (.slice a0 n0 cap0))) := fun g w0 h hx =>
    (eqGraph_any w3.heap.size w4.heap.size w6.heap.size w0.heap.size s0 s0 (some ⟨g4, 0, none⟩) (some ⟨g, 0, none⟩) n0 n0 n0 n0 l0 l0 true w0 (X0_35.out.toIn.below h (by have y0 := ZZ2.out; have y1 := ZZ8.out; have y2 := ZZ13.out; have y3 := ZZ20.out; have y4 := ZZ24.out; have y5 := ZZ25.out; have y6 := ZZ31.out; have y7 := ZZ35.out; omega)) hx (by have yy := h.size; have y0 := ZZ2.out; have y1 := ZZ8.out; have y2 := ZZ13.out; have y3 := ZZ20.out; have y4 := ZZ24.out; have y5 := ZZ25.out; have y6 := ZZ31.out; have y7 := ZZ35.out; omega) (Nat.le_refl _) HL0.out HL0.out HM.out (by simp)).mono fun _ w' ⟨h1, h4⟩ =>
      have h3 : Hid (Hold w w' [(w4.heap.size, [.int .i64 s0, .slice (some ⟨g4, 0, none⟩) n0 n0]), (w.heap.size, [.int .i64 s0, .slice a0 n0 cap0])]) := (HD_34.out.below h).below h4.out
      ⟨h1, h.trans (h4.out.mono h.size), h3.out.cell (b := w4.heap.size) (vs := [.int .i64 s0, .slice (some ⟨g4, 0, none⟩) n0 n0]) (i := 0) (by simp) (by simp), h3.out.cell (b := w4.heap.size) (vs := [.int .i64 s0, .slice (some ⟨g4, 0, none⟩) n0 n0]) (i := 1) (by simp) (by simp), h3.out.cell (b := w.heap.size) (vs := [.int .i64 s0, .slice a0 n0 cap0]) (i := 0) (by simp) (by simp), h3.out.cell (b := w.heap.size) (vs := [.int .i64 s0, .slice a0 n0 cap0]) (i := 1) (by simp) (by simp)⟩
  go_wp2_with fail
  go_region_held3 (fun w' => w'.cell? ⟨w4.heap.size, 0, none⟩ = some (.int .i64 s0) ∧ w'.cell? ⟨w4.heap.size, 1, none⟩ = some (.slice (some ⟨g4, 0, none⟩) n0 n0) ∧ w'.cell? ⟨w.heap.size, 0, none⟩ = some (.int .i64 s0) ∧ w'.cell? ⟨w.heap.size, 1, none⟩ = some (.slice a0 n0 cap0)) (first | exact ⟨q_36, q_37, q_38, q_39⟩ | exact hk9 | exact hk10) (first | (go_at_call 11; refine (HC1.out _ ((Below.refl _ _).drew)).mono ?_; rintro e w7 ⟨g9, rfl, X9, B9, hk9⟩) | (go_at_call 13; refine (HC2.out _ _ B9.out X9.out).mono ?_; rintro e w8 ⟨rfl, B10, hk10⟩))
  clear q_36 q_37 q_38 q_39
  clear hk9 hk10 B9 X9 HC1 HC2
  have HD_40 : Hid (Hold w w8 [(w4.heap.size, [.int .i64 s0, .slice (some ⟨g4, 0, none⟩) n0 n0]), (w.heap.size, [.int .i64 s0, .slice a0 n0 cap0])]) := HD_34.out.below B10.out
  clear HD_34
  have ZZ41 : Hid (w6.heap.size ≤ w8.heap.size) := B10.out.size
  have W0_41 : Hid (RowOwn w2.heap.size w3.heap.size w8 a3 LL) := W0_35.out.below B10.out (by have y0 := ZZ2.out; have y1 := ZZ8.out; have y2 := ZZ13.out; have y3 := ZZ20.out; have y4 := ZZ24.out; have y5 := ZZ25.out; have y6 := ZZ31.out; have y7 := ZZ35.out; have y8 := ZZ41.out; omega)
  have X0_41 : Hid (EdgesOwn w3.heap.size w4.heap.size w8 (some ⟨g4, 0, none⟩) l0) := X0_35.out.below B10.out (by have y0 := ZZ2.out; have y1 := ZZ8.out; have y2 := ZZ13.out; have y3 := ZZ20.out; have y4 := ZZ24.out; have y5 := ZZ25.out; have y6 := ZZ31.out; have y7 := ZZ35.out; have y8 := ZZ41.out; omega)
  have G0_41 : Hid (RowOwn (w4.alloc (.cells #[.int .i64 s0, .slice (some ⟨g4, 0, none⟩) n0 n0] 29)).heap.size w5.heap.size w8 a5 LL) := G0_35.out.below B10.out (by have y0 := ZZ2.out; have y1 := ZZ8.out; have y2 := ZZ13.out; have y3 := ZZ20.out; have y4 := ZZ24.out; have y5 := ZZ25.out; have y6 := ZZ31.out; have y7 := ZZ35.out; have y8 := ZZ41.out; omega)
  clear W0_35 X0_35 G0_35
  clear B10
  have q_42 : w8.cell? ⟨w4.heap.size, 0, none⟩ = some (.int .i64 s0) := HD_40.out.cell (b := w4.heap.size) (vs := [.int .i64 s0, .slice (some ⟨g4, 0, none⟩) n0 n0]) (i := 0) (by simp) (by simp)
  have q_43 : w8.cell? ⟨w4.heap.size, 1, none⟩ = some (.slice (some ⟨g4, 0, none⟩) n0 n0) := HD_40.out.cell (b := w4.heap.size) (vs := [.int .i64 s0, .slice (some ⟨g4, 0, none⟩) n0 n0]) (i := 1) (by simp) (by simp)
  go_wp2_with fail
  refine (markGraph_any w3.heap.size w4.heap.size s0 (some ⟨g4, 0, none⟩) n0 n0 1 l0 _ X0_41.out (by have y0 := ZZ2.out; have y1 := ZZ8.out; have y2 := ZZ13.out; have y3 := ZZ20.out; have y4 := ZZ24.out; have y5 := ZZ25.out; have y6 := ZZ31.out; have y7 := ZZ35.out; have y8 := ZZ41.out; omega) HL0.out HM.out (by omega)).mono ?_
  rintro e w9 ⟨m9, rfl, HM_m9, X_44, K_44⟩
  clear q_42 q_43
  have HD_45 : Hid (Hold w w9 [(w4.heap.size, [.int .i64 s0, .slice (some ⟨g4, 0, none⟩) n0 n0]), (w.heap.size, [.int .i64 s0, .slice a0 n0 cap0])]) := HD_40.out.kept K_44.out (by intro x hx; simp only [List.mem_cons, List.not_mem_nil, or_false] at hx; have y0 := ZZ2.out; have y1 := ZZ8.out; have y2 := ZZ13.out; have y3 := ZZ20.out; have y4 := ZZ24.out; have y5 := ZZ25.out; have y6 := ZZ31.out; have y7 := ZZ35.out; have y8 := ZZ41.out; rcases hx with rfl | rfl <;> dsimp only <;> omega) (fun k hk => by have y0 := ZZ2.out; have y1 := ZZ8.out; have y2 := ZZ13.out; have y3 := ZZ20.out; have y4 := ZZ24.out; have y5 := ZZ25.out; have y6 := ZZ31.out; have y7 := ZZ35.out; have y8 := ZZ41.out; omega)
  clear HD_40
  have ZZ46 : Hid (w8.heap.size ≤ w9.heap.size) := K_44.out.size
  have W0_46 : Hid (RowOwn w2.heap.size w3.heap.size w9 a3 LL) := W0_41.out.kept K_44.out (fun c h1 h2 h3 => by have y0 := ZZ2.out; have y1 := ZZ8.out; have y2 := ZZ13.out; have y3 := ZZ20.out; have y4 := ZZ24.out; have y5 := ZZ25.out; have y6 := ZZ31.out; have y7 := ZZ35.out; have y8 := ZZ41.out; have y9 := ZZ46.out; omega)
  have G0_46 : Hid (RowOwn (w4.alloc (.cells #[.int .i64 s0, .slice (some ⟨g4, 0, none⟩) n0 n0] 29)).heap.size w5.heap.size w9 a5 LL) := G0_41.out.kept K_44.out (fun c h1 h2 h3 => by have y0 := ZZ2.out; have y1 := ZZ8.out; have y2 := ZZ13.out; have y3 := ZZ20.out; have y4 := ZZ24.out; have y5 := ZZ25.out; have y6 := ZZ31.out; have y7 := ZZ35.out; have y8 := ZZ41.out; have y9 := ZZ46.out; omega)
  clear W0_41 X0_41 G0_41
  clear K_44
  have hn_m9 : ¬ ((m9 : Nat) : Int) < 0 := by omega
  go_wp2_with fail
  refine (eqInts_any (w4.alloc (.cells #[.int .i64 s0, .slice (some ⟨g4, 0, none⟩) n0 n0] 29)).heap.size w5.heap.size w2.heap.size w3.heap.size a5 a3 n3 n3 cap5 cap3 LL LL true _ G0_46.out.toIn W0_46.out.toIn HN3.out HN3.out HM3.out (by simp)).mono ?_
  rintro e w10 ⟨rfl, b_47⟩
  have B_47 : Hid (Below w9.heap.size w9 w10) := b_47
  clear b_47
  have HD_48 : Hid (Hold w w10 [(w4.heap.size, [.int .i64 s0, .slice (some ⟨g4, 0, none⟩) n0 n0]), (w.heap.size, [.int .i64 s0, .slice a0 n0 cap0])]) := HD_45.out.below B_47.out
  clear HD_45
  have ZZ49 : Hid (w9.heap.size ≤ w10.heap.size) := B_47.out.size
  have W0_49 : Hid (RowOwn w2.heap.size w3.heap.size w10 a3 LL) := W0_46.out.below B_47.out (by have y0 := ZZ2.out; have y1 := ZZ8.out; have y2 := ZZ13.out; have y3 := ZZ20.out; have y4 := ZZ24.out; have y5 := ZZ25.out; have y6 := ZZ31.out; have y7 := ZZ35.out; have y8 := ZZ41.out; have y9 := ZZ46.out; have y10 := ZZ49.out; omega)
  have G0_49 : Hid (RowOwn (w4.alloc (.cells #[.int .i64 s0, .slice (some ⟨g4, 0, none⟩) n0 n0] 29)).heap.size w5.heap.size w10 a5 LL) := G0_46.out.below B_47.out (by have y0 := ZZ2.out; have y1 := ZZ8.out; have y2 := ZZ13.out; have y3 := ZZ20.out; have y4 := ZZ24.out; have y5 := ZZ25.out; have y6 := ZZ31.out; have y7 := ZZ35.out; have y8 := ZZ41.out; have y9 := ZZ46.out; have y10 := ZZ49.out; omega)
  clear W0_46 G0_46
  clear B_47
  go_wp2_with fail
  refine (markInts_any (fun c => (w4.alloc (.cells #[.int .i64 s0, .slice (some ⟨g4, 0, none⟩) n0 n0] 29)).heap.size ≤ c ∧ c < w5.heap.size) (w4.alloc (.cells #[.int .i64 s0, .slice (some ⟨g4, 0, none⟩) n0 n0] 29)).heap.size w5.heap.size a5 n3 cap5 1 LL _ G0_49.out HN3.out HM3.out (by omega) (fun b hb hne => ?_)).mono ?_
  · rcases G0_49.out with h | ⟨b', e', h1, h2, _⟩
    · exact absurd h hne
    · rw [hb] at e'
      simp only [Option.some.injEq, Addr.mk.injEq] at e'
      obtain ⟨rfl, _⟩ := e'
      exact ⟨h1, h2⟩
  rintro e w11 ⟨rfl, x11, k11, _⟩
  have K11 : Hid (KeptP (fun c => (w4.alloc (.cells #[.int .i64 s0, .slice (some ⟨g4, 0, none⟩) n0 n0] 29)).heap.size ≤ c ∧ c < w5.heap.size) w10 w11) := k11
  have X11 : Hid (RowOwn (w4.alloc (.cells #[.int .i64 s0, .slice (some ⟨g4, 0, none⟩) n0 n0] 29)).heap.size w5.heap.size w11 a5 (marks 1 n3)) := x11
  clear k11 x11
  have HD_50 : Hid (Hold w w11 [(w4.heap.size, [.int .i64 s0, .slice (some ⟨g4, 0, none⟩) n0 n0]), (w.heap.size, [.int .i64 s0, .slice a0 n0 cap0])]) := HD_48.out.kept K11.out (by intro x hx; simp only [List.mem_cons, List.not_mem_nil, or_false] at hx; have y0 := ZZ2.out; have y1 := ZZ8.out; have y2 := ZZ13.out; have y3 := ZZ20.out; have y4 := ZZ24.out; have y5 := ZZ25.out; have y6 := ZZ31.out; have y7 := ZZ35.out; have y8 := ZZ41.out; have y9 := ZZ46.out; have y10 := ZZ49.out; rcases hx with rfl | rfl <;> dsimp only <;> omega) (fun k hk => by have y0 := ZZ2.out; have y1 := ZZ8.out; have y2 := ZZ13.out; have y3 := ZZ20.out; have y4 := ZZ24.out; have y5 := ZZ25.out; have y6 := ZZ31.out; have y7 := ZZ35.out; have y8 := ZZ41.out; have y9 := ZZ46.out; have y10 := ZZ49.out; omega)
  clear HD_48
  have ZZ51 : Hid (w10.heap.size ≤ w11.heap.size) := K11.out.size
  have W0_51 : Hid (RowOwn w2.heap.size w3.heap.size w11 a3 LL) := W0_49.out.kept K11.out (fun c h1 h2 h3 => by have y0 := ZZ2.out; have y1 := ZZ8.out; have y2 := ZZ13.out; have y3 := ZZ20.out; have y4 := ZZ24.out; have y5 := ZZ25.out; have y6 := ZZ31.out; have y7 := ZZ35.out; have y8 := ZZ41.out; have y9 := ZZ46.out; have y10 := ZZ49.out; have y11 := ZZ51.out; omega)
  clear W0_49 G0_49
  clear K11
  have G0_52 : Hid (RowOwn (w4.alloc (.cells #[.int .i64 s0, .slice (some ⟨g4, 0, none⟩) n0 n0] 29)).heap.size w5.heap.size w11 a5 (marks 1 n3)) := X11.out
  clear X11
  obtain ⟨m11, HM11⟩ : ∃ m : Nat, Hid (m = 1 + n3) := ⟨_, rfl⟩
  rw [← HM11.out]
  have hn_m11 : ¬ ((m11 : Nat) : Int) < 0 := by omega
  go_wp2_with fail
  refine (heldInts_any (w4.alloc (.cells #[.int .i64 s0, .slice (some ⟨g4, 0, none⟩) n0 n0] 29)).heap.size w5.heap.size a5 n3 cap5 1 _ G0_52.out.toIn HM3.out (by omega)).mono ?_
  rintro e w_53 ⟨rfl, rfl⟩
  rw [← HM11.out]
  have q_55 : w11.cell? ⟨w.heap.size, 0, none⟩ = some (.int .i64 s0) := HD_50.out.cell (b := w.heap.size) (vs := [.int .i64 s0, .slice a0 n0 cap0]) (i := 0) (by simp) (by simp)
  have q_56 : w11.cell? ⟨w.heap.size, 1, none⟩ = some (.slice a0 n0 cap0) := HD_50.out.cell (b := w.heap.size) (vs := [.int .i64 s0, .slice a0 n0 cap0]) (i := 1) (by simp) (by simp)
  go_wp2_with fail
  refine (toGraph_any 0 w.heap.size s0 a0 n0 cap0 l0 _ (HR0.out.below HD_50.out.bel (Nat.le_refl _)) HD_50.out.bel.size HL0.out HM.out).mono ?_
  rintro e w13 ⟨g13, rfl, X_54, B_57⟩
  clear q_55 q_56
  have HD_58 : Hid (Hold w w13 [(w4.heap.size, [.int .i64 s0, .slice (some ⟨g4, 0, none⟩) n0 n0]), (w.heap.size, [.int .i64 s0, .slice a0 n0 cap0])]) := HD_50.out.below B_57.out
  clear HD_50
  have ZZ59 : Hid (w11.heap.size ≤ w13.heap.size) := B_57.out.size
  have W0_59 : Hid (RowOwn w2.heap.size w3.heap.size w13 a3 LL) := W0_51.out.below B_57.out (by have y0 := ZZ2.out; have y1 := ZZ8.out; have y2 := ZZ13.out; have y3 := ZZ20.out; have y4 := ZZ24.out; have y5 := ZZ25.out; have y6 := ZZ31.out; have y7 := ZZ35.out; have y8 := ZZ41.out; have y9 := ZZ46.out; have y10 := ZZ49.out; have y11 := ZZ51.out; have y12 := ZZ59.out; omega)
  have G0_59 : Hid (RowOwn (w4.alloc (.cells #[.int .i64 s0, .slice (some ⟨g4, 0, none⟩) n0 n0] 29)).heap.size w5.heap.size w13 a5 (marks 1 n3)) := G0_52.out.below B_57.out (by have y0 := ZZ2.out; have y1 := ZZ8.out; have y2 := ZZ13.out; have y3 := ZZ20.out; have y4 := ZZ24.out; have y5 := ZZ25.out; have y6 := ZZ31.out; have y7 := ZZ35.out; have y8 := ZZ41.out; have y9 := ZZ46.out; have y10 := ZZ49.out; have y11 := ZZ51.out; have y12 := ZZ59.out; omega)
  clear W0_51 G0_52
  clear B_57
  have T2_60 : Hid (EdgesOwn w11.heap.size w13.heap.size w13 (some ⟨g13, 0, none⟩) l0) := X_54.out
  clear X_54
  go_wp2_with fail
  refine (nextOf_any w11.heap.size w13.heap.size s0 (some ⟨g13, 0, none⟩) n0 n0 l0 z1 z2 _ T2_60.out.toIn (by have y0 := ZZ2.out; have y1 := ZZ8.out; have y2 := ZZ13.out; have y3 := ZZ20.out; have y4 := ZZ24.out; have y5 := ZZ25.out; have y6 := ZZ31.out; have y7 := ZZ35.out; have y8 := ZZ41.out; have y9 := ZZ46.out; have y10 := ZZ49.out; have y11 := ZZ51.out; have y12 := ZZ59.out; omega) HL0.out HM.out).mono ?_
  rintro e w14 ⟨a14, n14, cap14, rfl, HN_61, X_61, B_62⟩
  have HD_63 : Hid (Hold w w14 [(w4.heap.size, [.int .i64 s0, .slice (some ⟨g4, 0, none⟩) n0 n0]), (w.heap.size, [.int .i64 s0, .slice a0 n0 cap0])]) := HD_58.out.below B_62.out
  clear HD_58
  have ZZ64 : Hid (w13.heap.size ≤ w14.heap.size) := B_62.out.size
  have W0_64 : Hid (RowOwn w2.heap.size w3.heap.size w14 a3 LL) := W0_59.out.below B_62.out (by have y0 := ZZ2.out; have y1 := ZZ8.out; have y2 := ZZ13.out; have y3 := ZZ20.out; have y4 := ZZ24.out; have y5 := ZZ25.out; have y6 := ZZ31.out; have y7 := ZZ35.out; have y8 := ZZ41.out; have y9 := ZZ46.out; have y10 := ZZ49.out; have y11 := ZZ51.out; have y12 := ZZ59.out; have y13 := ZZ64.out; omega)
  have G0_64 : Hid (RowOwn (w4.alloc (.cells #[.int .i64 s0, .slice (some ⟨g4, 0, none⟩) n0 n0] 29)).heap.size w5.heap.size w14 a5 (marks 1 n3)) := G0_59.out.below B_62.out (by have y0 := ZZ2.out; have y1 := ZZ8.out; have y2 := ZZ13.out; have y3 := ZZ20.out; have y4 := ZZ24.out; have y5 := ZZ25.out; have y6 := ZZ31.out; have y7 := ZZ35.out; have y8 := ZZ41.out; have y9 := ZZ46.out; have y10 := ZZ49.out; have y11 := ZZ51.out; have y12 := ZZ59.out; have y13 := ZZ64.out; omega)
  have T2_64 : Hid (EdgesOwn w11.heap.size w13.heap.size w14 (some ⟨g13, 0, none⟩) l0) := T2_60.out.below B_62.out (by have y0 := ZZ2.out; have y1 := ZZ8.out; have y2 := ZZ13.out; have y3 := ZZ20.out; have y4 := ZZ24.out; have y5 := ZZ25.out; have y6 := ZZ31.out; have y7 := ZZ35.out; have y8 := ZZ41.out; have y9 := ZZ46.out; have y10 := ZZ49.out; have y11 := ZZ51.out; have y12 := ZZ59.out; have y13 := ZZ64.out; omega)
  clear W0_59 G0_59 T2_60
  clear B_62
  rw [← HLL.out] at HN_61 X_61
  have H0_65 : Hid (RowOwn w13.heap.size w14.heap.size w14 a14 LL) := X_61.out
  clear X_61
  clear T2_64
  obtain rfl : n3 = n14 := by rw [← HN3.out, HN_61.out]
  clear HN_61
  go_wp2_with fail
  refine (eqInts_any w13.heap.size w14.heap.size w2.heap.size w3.heap.size a14 a3 n3 n3 cap14 cap3 LL LL true _ H0_65.out.toIn W0_64.out.toIn HN3.out HN3.out HM3.out (by simp)).mono ?_
  rintro e w15 ⟨rfl, b_66⟩
  have B_66 : Hid (Below w14.heap.size w14 w15) := b_66
  clear b_66
  have HD_67 : Hid (Hold w w15 [(w4.heap.size, [.int .i64 s0, .slice (some ⟨g4, 0, none⟩) n0 n0]), (w.heap.size, [.int .i64 s0, .slice a0 n0 cap0])]) := HD_63.out.below B_66.out
  clear HD_63
  have ZZ68 : Hid (w14.heap.size ≤ w15.heap.size) := B_66.out.size
  have W0_68 : Hid (RowOwn w2.heap.size w3.heap.size w15 a3 LL) := W0_64.out.below B_66.out (by have y0 := ZZ2.out; have y1 := ZZ8.out; have y2 := ZZ13.out; have y3 := ZZ20.out; have y4 := ZZ24.out; have y5 := ZZ25.out; have y6 := ZZ31.out; have y7 := ZZ35.out; have y8 := ZZ41.out; have y9 := ZZ46.out; have y10 := ZZ49.out; have y11 := ZZ51.out; have y12 := ZZ59.out; have y13 := ZZ64.out; have y14 := ZZ68.out; omega)
  have G0_68 : Hid (RowOwn (w4.alloc (.cells #[.int .i64 s0, .slice (some ⟨g4, 0, none⟩) n0 n0] 29)).heap.size w5.heap.size w15 a5 (marks 1 n3)) := G0_64.out.below B_66.out (by have y0 := ZZ2.out; have y1 := ZZ8.out; have y2 := ZZ13.out; have y3 := ZZ20.out; have y4 := ZZ24.out; have y5 := ZZ25.out; have y6 := ZZ31.out; have y7 := ZZ35.out; have y8 := ZZ41.out; have y9 := ZZ46.out; have y10 := ZZ49.out; have y11 := ZZ51.out; have y12 := ZZ59.out; have y13 := ZZ64.out; have y14 := ZZ68.out; omega)
  have H0_68 : Hid (RowOwn w13.heap.size w14.heap.size w15 a14 LL) := H0_65.out.below B_66.out (by have y0 := ZZ2.out; have y1 := ZZ8.out; have y2 := ZZ13.out; have y3 := ZZ20.out; have y4 := ZZ24.out; have y5 := ZZ25.out; have y6 := ZZ31.out; have y7 := ZZ35.out; have y8 := ZZ41.out; have y9 := ZZ46.out; have y10 := ZZ49.out; have y11 := ZZ51.out; have y12 := ZZ59.out; have y13 := ZZ64.out; have y14 := ZZ68.out; omega)
  clear W0_64 G0_64 H0_65
  clear B_66
  go_wp2_with fail
  refine (heldInts_any (w4.alloc (.cells #[.int .i64 s0, .slice (some ⟨g4, 0, none⟩) n0 n0] 29)).heap.size w5.heap.size a5 n3 cap5 1 _ G0_68.out.toIn HM3.out (by omega)).mono ?_
  rintro e w_69 ⟨rfl, rfl⟩
  rw [← HM11.out]
  go_wp2
  go_ret
  exact ⟨rfl, HD_67.out.bel⟩
end Go.Proofs.Ytfeimdlkpiacoaa
