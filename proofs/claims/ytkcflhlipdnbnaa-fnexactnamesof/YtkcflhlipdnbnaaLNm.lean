/-
  The walk of FnExactNamesOf.
-/
import Derived.Test.YtkcflhlipdnbnaaQyI
import Derived.Test.YtkcflhlipdnbnaaQyD
import Derived.Test.YtkcflhlipdnbnaaQyE
import Derived.Test.YtkcflhlipdnbnaaHld
import Derived.Deep.RegionHeld3
namespace Go.Proofs.Ytkcflhlipdnbnaa
open Go.RowKit

set_option maxHeartbeats 16000000 in
set_option maxRecDepth 100000 in
theorem law_5 (e1 : Bool) (a1 : Option Addr) (n1 x1 : Nat) (b1 : Option Addr) (m1 y1 : Nat) (c1 : Option Addr) (k1 z1 : Nat) (o1 : List Tx) (t1 : List At) (f1 : List Fl) (w : World) (hl1 : o1.length = n1 ∧ t1.length = m1 ∧ f1.length = k1) (hz1 : QLe maxLen n1 m1 k1 o1 t1 f1) (hr1 : QIn 0 w.heap.size w a1 b1 c1 n1 m1 k1 (tC o1) (aC t1) (fC f1)) :
    Calls Try.prog 5 #[qv e1 a1 n1 x1 b1 m1 y1 c1 k1 z1] w fun e w' => e = .returned (.bool true) ∧ Below w.heap.size w w' := by
  have HR1 : Hid (QIn 0 w.heap.size w a1 b1 c1 n1 m1 k1 (tC o1) (aC t1) (fC f1)) := hr1
  have HL1 : Hid (o1.length = n1 ∧ t1.length = m1 ∧ f1.length = k1) := hl1
  have HMX1 : Hid (QLe 9223372036854775807 n1 m1 k1 o1 t1 f1) := hz1
  clear hr1 hl1 hz1
  obtain ⟨NL, HNL⟩ : ∃ l, Hid (l = nmL t1 m1) := ⟨_, rfl⟩
  have HNB : Hid (NL.length ≤ 2 * m1) := by rw [HNL.out]; exact nmL_len t1 m1
  go_enter Try.func5, Try.ntmps5
  go_wp2_with fail
  refine (szQuery_any 0 w.heap.size e1 a1 b1 c1 n1 x1 m1 y1 k1 z1 o1 t1 f1 1048576 _ (HR1.out.below (below1 w _) (Nat.le_refl _)) (below1 w _).size HMX1.out (by omega)).mono ?_
  rintro e w1 ⟨u1, rfl, HX1, hb1⟩
  have HD_1 : Hid (Hold w w1 [(w.heap.size, [.bool e1, .slice a1 n1 x1, .slice b1 m1 y1, .slice c1 k1 z1])]) := ((Hold.none w).more [.bool e1, .slice a1 n1 x1, .slice b1 m1 y1, .slice c1 k1 z1] 46).below hb1.out
  clear hb1
  by_cases hx1 : u1 < 0
  · go_wp2
    go_ret
    exact ⟨rfl, HD_1.out.bel⟩
  have HX1b := HX1.out.resolve_left hx1
  obtain ⟨v1, rfl, hv1, hq1⟩ := HX1b
  have HM1 : Hid (QLe 1048576 n1 m1 k1 o1 t1 f1) := hq1.mono (by omega)
  clear HX1 HMX1 hq1
  have ZZ2 : Hid (w.heap.size < w1.heap.size) := HD_1.out.lt (b := w.heap.size) (vs := [.bool e1, .slice a1 n1 x1, .slice b1 m1 y1, .slice c1 k1 z1]) (by simp)
  have q_4 : w1.cell? ⟨w.heap.size, 0, none⟩ = some (.bool e1) := HD_1.out.cell (b := w.heap.size) (vs := [.bool e1, .slice a1 n1 x1, .slice b1 m1 y1, .slice c1 k1 z1]) (i := 0) (by simp) (by simp)
  have q_5 : w1.cell? ⟨w.heap.size, 1, none⟩ = some (.slice a1 n1 x1) := HD_1.out.cell (b := w.heap.size) (vs := [.bool e1, .slice a1 n1 x1, .slice b1 m1 y1, .slice c1 k1 z1]) (i := 1) (by simp) (by simp)
  have q_6 : w1.cell? ⟨w.heap.size, 2, none⟩ = some (.slice b1 m1 y1) := HD_1.out.cell (b := w.heap.size) (vs := [.bool e1, .slice a1 n1 x1, .slice b1 m1 y1, .slice c1 k1 z1]) (i := 2) (by simp) (by simp)
  have q_7 : w1.cell? ⟨w.heap.size, 3, none⟩ = some (.slice c1 k1 z1) := HD_1.out.cell (b := w.heap.size) (vs := [.bool e1, .slice a1 n1 x1, .slice b1 m1 y1, .slice c1 k1 z1]) (i := 3) (by simp) (by simp)
  go_wp2_with fail
  refine (toQuery_any 0 w.heap.size e1 a1 b1 c1 n1 x1 m1 y1 k1 z1 o1 t1 f1 _ (HR1.out.below HD_1.out.bel (Nat.le_refl _)) HD_1.out.bel.size HM1.out.1).mono ?_
  rintro e w2 ⟨gpa, gpb, gpc, rfl, X_3, B_8⟩
  clear q_4 q_5 q_6 q_7
  have HD_9 : Hid (Hold w w2 [(w.heap.size, [.bool e1, .slice a1 n1 x1, .slice b1 m1 y1, .slice c1 k1 z1])]) := HD_1.out.below B_8.out
  clear HD_1
  have ZZ10 : Hid (w1.heap.size ≤ w2.heap.size) := B_8.out.size
  clear B_8
  have T1_11 : Hid (QOwn w1.heap.size w2.heap.size w2 (some ⟨gpa, 0, none⟩) (some ⟨gpb, 0, none⟩) (some ⟨gpc, 0, none⟩) n1 m1 k1 (tC o1) (aC t1) (fC f1)) := X_3.out
  clear X_3
  go_wp2_with fail
  refine (specNames_any w1.heap.size w2.heap.size e1 (some ⟨gpa, 0, none⟩) (some ⟨gpb, 0, none⟩) (some ⟨gpc, 0, none⟩) n1 n1 m1 m1 k1 k1 o1 t1 f1 _ T1_11.out.toIn (by have y0 := ZZ2.out; have y1 := ZZ10.out; omega) HM1.out.1.2.1).mono ?_
  rintro e w3 ⟨a3, q3, c3, rfl, Y_12, X_12, B_13⟩
  have HD_14 : Hid (Hold w w3 [(w.heap.size, [.bool e1, .slice a1 n1 x1, .slice b1 m1 y1, .slice c1 k1 z1])]) := HD_9.out.below B_13.out
  clear HD_9
  have ZZ15 : Hid (w2.heap.size ≤ w3.heap.size) := B_13.out.size
  have T1_15 : Hid (QOwn w1.heap.size w2.heap.size w3 (some ⟨gpa, 0, none⟩) (some ⟨gpb, 0, none⟩) (some ⟨gpc, 0, none⟩) n1 m1 k1 (tC o1) (aC t1) (fC f1)) := T1_11.out.below B_13.out (by have y0 := ZZ2.out; have y1 := ZZ10.out; have y2 := ZZ15.out; omega)
  clear T1_11
  clear B_13
  rw [← HNL.out] at X_12 Y_12
  have W0_16 : Hid (FlOwn 1 w2.heap.size w3.heap.size w3 a3 q3 (tC NL)) := X_12.out
  clear X_12
  clear T1_15
  have HQ3 : Hid (q3 ≤ 2097152) := by have h1 := HNB.out; have h2 := Y_12.out; have h3 := HM1.out.1.2.1; show _ ≤ _; omega
  have q_18 : w3.cell? ⟨w.heap.size, 0, none⟩ = some (.bool e1) := HD_14.out.cell (b := w.heap.size) (vs := [.bool e1, .slice a1 n1 x1, .slice b1 m1 y1, .slice c1 k1 z1]) (i := 0) (by simp) (by simp)
  have q_19 : w3.cell? ⟨w.heap.size, 1, none⟩ = some (.slice a1 n1 x1) := HD_14.out.cell (b := w.heap.size) (vs := [.bool e1, .slice a1 n1 x1, .slice b1 m1 y1, .slice c1 k1 z1]) (i := 1) (by simp) (by simp)
  have q_20 : w3.cell? ⟨w.heap.size, 2, none⟩ = some (.slice b1 m1 y1) := HD_14.out.cell (b := w.heap.size) (vs := [.bool e1, .slice a1 n1 x1, .slice b1 m1 y1, .slice c1 k1 z1]) (i := 2) (by simp) (by simp)
  have q_21 : w3.cell? ⟨w.heap.size, 3, none⟩ = some (.slice c1 k1 z1) := HD_14.out.cell (b := w.heap.size) (vs := [.bool e1, .slice a1 n1 x1, .slice b1 m1 y1, .slice c1 k1 z1]) (i := 3) (by simp) (by simp)
  go_wp2_with fail
  refine (toQuery_any 0 w.heap.size e1 a1 b1 c1 n1 x1 m1 y1 k1 z1 o1 t1 f1 _ (HR1.out.below HD_14.out.bel (Nat.le_refl _)) HD_14.out.bel.size HM1.out.1).mono ?_
  rintro e w4 ⟨gxa, gxb, gxc, rfl, X_17, B_22⟩
  clear q_18 q_19 q_20 q_21
  have HD_23 : Hid (Hold w w4 [(w.heap.size, [.bool e1, .slice a1 n1 x1, .slice b1 m1 y1, .slice c1 k1 z1])]) := HD_14.out.below B_22.out
  clear HD_14
  have ZZ24 : Hid (w3.heap.size ≤ w4.heap.size) := B_22.out.size
  have W0_24 : Hid (FlOwn 1 w2.heap.size w3.heap.size w4 a3 q3 (tC NL)) := W0_16.out.below B_22.out (by have y0 := ZZ2.out; have y1 := ZZ10.out; have y2 := ZZ15.out; have y3 := ZZ24.out; omega)
  clear W0_16
  clear B_22
  have X0_25 : Hid (QOwn w3.heap.size w4.heap.size w4 (some ⟨gxa, 0, none⟩) (some ⟨gxb, 0, none⟩) (some ⟨gxc, 0, none⟩) n1 m1 k1 (tC o1) (aC t1) (fC f1)) := X_17.out
  clear X_17
  have BA_26 : Hid (Below w4.heap.size w4 (w4.alloc (.cells #[.bool e1, .slice (some ⟨gxa, 0, none⟩) n1 n1, .slice (some ⟨gxb, 0, none⟩) m1 m1, .slice (some ⟨gxc, 0, none⟩) k1 k1] 52))) := below1' w4 _
  have HD_27 : Hid (Hold w (w4.alloc (.cells #[.bool e1, .slice (some ⟨gxa, 0, none⟩) n1 n1, .slice (some ⟨gxb, 0, none⟩) m1 m1, .slice (some ⟨gxc, 0, none⟩) k1 k1] 52)) [(w4.heap.size, [.bool e1, .slice (some ⟨gxa, 0, none⟩) n1 n1, .slice (some ⟨gxb, 0, none⟩) m1 m1, .slice (some ⟨gxc, 0, none⟩) k1 k1]), (w.heap.size, [.bool e1, .slice a1 n1 x1, .slice b1 m1 y1, .slice c1 k1 z1])]) := HD_23.out.more [.bool e1, .slice (some ⟨gxa, 0, none⟩) n1 n1, .slice (some ⟨gxb, 0, none⟩) m1 m1, .slice (some ⟨gxc, 0, none⟩) k1 k1] 52
  clear HD_23
  have ZZ28 : Hid ((w4.alloc (.cells #[.bool e1, .slice (some ⟨gxa, 0, none⟩) n1 n1, .slice (some ⟨gxb, 0, none⟩) m1 m1, .slice (some ⟨gxc, 0, none⟩) k1 k1] 52)).heap.size = w4.heap.size + 1) := by show _ = _; simp
  have ZZ29 : Hid (w4.heap.size ≤ (w4.alloc (.cells #[.bool e1, .slice (some ⟨gxa, 0, none⟩) n1 n1, .slice (some ⟨gxb, 0, none⟩) m1 m1, .slice (some ⟨gxc, 0, none⟩) k1 k1] 52)).heap.size) := BA_26.out.size
  have W0_29 : Hid (FlOwn 1 w2.heap.size w3.heap.size (w4.alloc (.cells #[.bool e1, .slice (some ⟨gxa, 0, none⟩) n1 n1, .slice (some ⟨gxb, 0, none⟩) m1 m1, .slice (some ⟨gxc, 0, none⟩) k1 k1] 52)) a3 q3 (tC NL)) := W0_24.out.below BA_26.out (by have y0 := ZZ2.out; have y1 := ZZ10.out; have y2 := ZZ15.out; have y3 := ZZ24.out; have y4 := ZZ28.out; have y5 := ZZ29.out; omega)
  have X0_29 : Hid (QOwn w3.heap.size w4.heap.size (w4.alloc (.cells #[.bool e1, .slice (some ⟨gxa, 0, none⟩) n1 n1, .slice (some ⟨gxb, 0, none⟩) m1 m1, .slice (some ⟨gxc, 0, none⟩) k1 k1] 52)) (some ⟨gxa, 0, none⟩) (some ⟨gxb, 0, none⟩) (some ⟨gxc, 0, none⟩) n1 m1 k1 (tC o1) (aC t1) (fC f1)) := X0_25.out.below BA_26.out (by have y0 := ZZ2.out; have y1 := ZZ10.out; have y2 := ZZ15.out; have y3 := ZZ24.out; have y4 := ZZ28.out; have y5 := ZZ29.out; omega)
  clear W0_24 X0_25
  clear BA_26
  have q_31 : (w4.alloc (.cells #[.bool e1, .slice (some ⟨gxa, 0, none⟩) n1 n1, .slice (some ⟨gxb, 0, none⟩) m1 m1, .slice (some ⟨gxc, 0, none⟩) k1 k1] 52)).cell? ⟨w4.heap.size, 0, none⟩ = some (.bool e1) := HD_27.out.cell (b := w4.heap.size) (vs := [.bool e1, .slice (some ⟨gxa, 0, none⟩) n1 n1, .slice (some ⟨gxb, 0, none⟩) m1 m1, .slice (some ⟨gxc, 0, none⟩) k1 k1]) (i := 0) (by simp) (by simp)
  have q_32 : (w4.alloc (.cells #[.bool e1, .slice (some ⟨gxa, 0, none⟩) n1 n1, .slice (some ⟨gxb, 0, none⟩) m1 m1, .slice (some ⟨gxc, 0, none⟩) k1 k1] 52)).cell? ⟨w4.heap.size, 1, none⟩ = some (.slice (some ⟨gxa, 0, none⟩) n1 n1) := HD_27.out.cell (b := w4.heap.size) (vs := [.bool e1, .slice (some ⟨gxa, 0, none⟩) n1 n1, .slice (some ⟨gxb, 0, none⟩) m1 m1, .slice (some ⟨gxc, 0, none⟩) k1 k1]) (i := 1) (by simp) (by simp)
  have q_33 : (w4.alloc (.cells #[.bool e1, .slice (some ⟨gxa, 0, none⟩) n1 n1, .slice (some ⟨gxb, 0, none⟩) m1 m1, .slice (some ⟨gxc, 0, none⟩) k1 k1] 52)).cell? ⟨w4.heap.size, 2, none⟩ = some (.slice (some ⟨gxb, 0, none⟩) m1 m1) := HD_27.out.cell (b := w4.heap.size) (vs := [.bool e1, .slice (some ⟨gxa, 0, none⟩) n1 n1, .slice (some ⟨gxb, 0, none⟩) m1 m1, .slice (some ⟨gxc, 0, none⟩) k1 k1]) (i := 2) (by simp) (by simp)
  have q_34 : (w4.alloc (.cells #[.bool e1, .slice (some ⟨gxa, 0, none⟩) n1 n1, .slice (some ⟨gxb, 0, none⟩) m1 m1, .slice (some ⟨gxc, 0, none⟩) k1 k1] 52)).cell? ⟨w4.heap.size, 3, none⟩ = some (.slice (some ⟨gxc, 0, none⟩) k1 k1) := HD_27.out.cell (b := w4.heap.size) (vs := [.bool e1, .slice (some ⟨gxa, 0, none⟩) n1 n1, .slice (some ⟨gxb, 0, none⟩) m1 m1, .slice (some ⟨gxc, 0, none⟩) k1 k1]) (i := 3) (by simp) (by simp)
  go_wp2_with fail
  refine (names_any w3.heap.size w4.heap.size e1 (some ⟨gxa, 0, none⟩) (some ⟨gxb, 0, none⟩) (some ⟨gxc, 0, none⟩) n1 n1 m1 m1 k1 k1 o1 t1 f1 _ X0_29.out.toIn (by have y0 := ZZ2.out; have y1 := ZZ10.out; have y2 := ZZ15.out; have y3 := ZZ24.out; have y4 := ZZ28.out; have y5 := ZZ29.out; omega) HM1.out.1.2.1 (fun i hi => ⟨(HM1.out.2.2.1 i hi).1, (HM1.out.2.2.1 i hi).2.2⟩)).mono ?_
  rintro e w5 ⟨a5, q5, c5, rfl, Y_30, X_30, B_35⟩
  clear q_31 q_32 q_33 q_34
  have HD_36 : Hid (Hold w w5 [(w4.heap.size, [.bool e1, .slice (some ⟨gxa, 0, none⟩) n1 n1, .slice (some ⟨gxb, 0, none⟩) m1 m1, .slice (some ⟨gxc, 0, none⟩) k1 k1]), (w.heap.size, [.bool e1, .slice a1 n1 x1, .slice b1 m1 y1, .slice c1 k1 z1])]) := HD_27.out.below B_35.out
  clear HD_27
  have ZZ37 : Hid ((w4.alloc (.cells #[.bool e1, .slice (some ⟨gxa, 0, none⟩) n1 n1, .slice (some ⟨gxb, 0, none⟩) m1 m1, .slice (some ⟨gxc, 0, none⟩) k1 k1] 52)).heap.size ≤ w5.heap.size) := B_35.out.size
  have W0_37 : Hid (FlOwn 1 w2.heap.size w3.heap.size w5 a3 q3 (tC NL)) := W0_29.out.below B_35.out (by have y0 := ZZ2.out; have y1 := ZZ10.out; have y2 := ZZ15.out; have y3 := ZZ24.out; have y4 := ZZ28.out; have y5 := ZZ29.out; have y6 := ZZ37.out; omega)
  have X0_37 : Hid (QOwn w3.heap.size w4.heap.size w5 (some ⟨gxa, 0, none⟩) (some ⟨gxb, 0, none⟩) (some ⟨gxc, 0, none⟩) n1 m1 k1 (tC o1) (aC t1) (fC f1)) := X0_29.out.below B_35.out (by have y0 := ZZ2.out; have y1 := ZZ10.out; have y2 := ZZ15.out; have y3 := ZZ24.out; have y4 := ZZ28.out; have y5 := ZZ29.out; have y6 := ZZ37.out; omega)
  clear W0_29 X0_29
  clear B_35
  rw [← HNL.out] at X_30 Y_30
  have G0_38 : Hid (FlOwn 1 (w4.alloc (.cells #[.bool e1, .slice (some ⟨gxa, 0, none⟩) n1 n1, .slice (some ⟨gxb, 0, none⟩) m1 m1, .slice (some ⟨gxc, 0, none⟩) k1 k1] 52)).heap.size w5.heap.size w5 a5 q5 (tC NL)) := X_30.out
  clear X_30
  obtain rfl : q3 = q5 := by rw [← Y_12.out, ← Y_30.out]
  go_wp2_with fail
  refine (eqStringS_any (w4.alloc (.cells #[.bool e1, .slice (some ⟨gxa, 0, none⟩) n1 n1, .slice (some ⟨gxb, 0, none⟩) m1 m1, .slice (some ⟨gxc, 0, none⟩) k1 k1] 52)).heap.size w5.heap.size w2.heap.size w3.heap.size a5 a3 q3 q3 c5 c3 NL NL true _ G0_38.out.toIn W0_37.out.toIn (by have y0 := ZZ2.out; have y1 := ZZ10.out; have y2 := ZZ15.out; have y3 := ZZ24.out; have y4 := ZZ28.out; have y5 := ZZ29.out; have y6 := ZZ37.out; omega) (by have y0 := ZZ2.out; have y1 := ZZ10.out; have y2 := ZZ15.out; have y3 := ZZ24.out; have y4 := ZZ28.out; have y5 := ZZ29.out; have y6 := ZZ37.out; omega) Y_12.out Y_12.out (by have := HQ3.out; omega) (by simp)).mono ?_
  rintro e w6 ⟨rfl, B_39⟩
  have HD_40 : Hid (Hold w w6 [(w4.heap.size, [.bool e1, .slice (some ⟨gxa, 0, none⟩) n1 n1, .slice (some ⟨gxb, 0, none⟩) m1 m1, .slice (some ⟨gxc, 0, none⟩) k1 k1]), (w.heap.size, [.bool e1, .slice a1 n1 x1, .slice b1 m1 y1, .slice c1 k1 z1])]) := HD_36.out.below B_39.out
  clear HD_36
  have ZZ41 : Hid (w5.heap.size ≤ w6.heap.size) := B_39.out.size
  have W0_41 : Hid (FlOwn 1 w2.heap.size w3.heap.size w6 a3 q3 (tC NL)) := W0_37.out.below B_39.out (by have y0 := ZZ2.out; have y1 := ZZ10.out; have y2 := ZZ15.out; have y3 := ZZ24.out; have y4 := ZZ28.out; have y5 := ZZ29.out; have y6 := ZZ37.out; have y7 := ZZ41.out; omega)
  have X0_41 : Hid (QOwn w3.heap.size w4.heap.size w6 (some ⟨gxa, 0, none⟩) (some ⟨gxb, 0, none⟩) (some ⟨gxc, 0, none⟩) n1 m1 k1 (tC o1) (aC t1) (fC f1)) := X0_37.out.below B_39.out (by have y0 := ZZ2.out; have y1 := ZZ10.out; have y2 := ZZ15.out; have y3 := ZZ24.out; have y4 := ZZ28.out; have y5 := ZZ29.out; have y6 := ZZ37.out; have y7 := ZZ41.out; omega)
  have G0_41 : Hid (FlOwn 1 (w4.alloc (.cells #[.bool e1, .slice (some ⟨gxa, 0, none⟩) n1 n1, .slice (some ⟨gxb, 0, none⟩) m1 m1, .slice (some ⟨gxc, 0, none⟩) k1 k1] 52)).heap.size w5.heap.size w6 a5 q3 (tC NL)) := G0_38.out.below B_39.out (by have y0 := ZZ2.out; have y1 := ZZ10.out; have y2 := ZZ15.out; have y3 := ZZ24.out; have y4 := ZZ28.out; have y5 := ZZ29.out; have y6 := ZZ37.out; have y7 := ZZ41.out; omega)
  clear W0_37 X0_37 G0_38
  clear B_39
  have q_42 : w6.cell? ⟨w4.heap.size, 0, none⟩ = some (.bool e1) := HD_40.out.cell (b := w4.heap.size) (vs := [.bool e1, .slice (some ⟨gxa, 0, none⟩) n1 n1, .slice (some ⟨gxb, 0, none⟩) m1 m1, .slice (some ⟨gxc, 0, none⟩) k1 k1]) (i := 0) (by simp) (by simp)
  have q_43 : w6.cell? ⟨w4.heap.size, 1, none⟩ = some (.slice (some ⟨gxa, 0, none⟩) n1 n1) := HD_40.out.cell (b := w4.heap.size) (vs := [.bool e1, .slice (some ⟨gxa, 0, none⟩) n1 n1, .slice (some ⟨gxb, 0, none⟩) m1 m1, .slice (some ⟨gxc, 0, none⟩) k1 k1]) (i := 1) (by simp) (by simp)
  have q_44 : w6.cell? ⟨w4.heap.size, 2, none⟩ = some (.slice (some ⟨gxb, 0, none⟩) m1 m1) := HD_40.out.cell (b := w4.heap.size) (vs := [.bool e1, .slice (some ⟨gxa, 0, none⟩) n1 n1, .slice (some ⟨gxb, 0, none⟩) m1 m1, .slice (some ⟨gxc, 0, none⟩) k1 k1]) (i := 2) (by simp) (by simp)
  have q_45 : w6.cell? ⟨w4.heap.size, 3, none⟩ = some (.slice (some ⟨gxc, 0, none⟩) k1 k1) := HD_40.out.cell (b := w4.heap.size) (vs := [.bool e1, .slice (some ⟨gxa, 0, none⟩) n1 n1, .slice (some ⟨gxb, 0, none⟩) m1 m1, .slice (some ⟨gxc, 0, none⟩) k1 k1]) (i := 3) (by simp) (by simp)
  have q_46 : w6.cell? ⟨w.heap.size, 0, none⟩ = some (.bool e1) := HD_40.out.cell (b := w.heap.size) (vs := [.bool e1, .slice a1 n1 x1, .slice b1 m1 y1, .slice c1 k1 z1]) (i := 0) (by simp) (by simp)
  have q_47 : w6.cell? ⟨w.heap.size, 1, none⟩ = some (.slice a1 n1 x1) := HD_40.out.cell (b := w.heap.size) (vs := [.bool e1, .slice a1 n1 x1, .slice b1 m1 y1, .slice c1 k1 z1]) (i := 1) (by simp) (by simp)
  have q_48 : w6.cell? ⟨w.heap.size, 2, none⟩ = some (.slice b1 m1 y1) := HD_40.out.cell (b := w.heap.size) (vs := [.bool e1, .slice a1 n1 x1, .slice b1 m1 y1, .slice c1 k1 z1]) (i := 2) (by simp) (by simp)
  have q_49 : w6.cell? ⟨w.heap.size, 3, none⟩ = some (.slice c1 k1 z1) := HD_40.out.cell (b := w.heap.size) (vs := [.bool e1, .slice a1 n1 x1, .slice b1 m1 y1, .slice c1 k1 z1]) (i := 3) (by simp) (by simp)
  have HC1 : Hid (∀ w0, Below w6.heap.size w6 w0 → Calls Try.prog 21 #[qv e1 a1 n1 x1 b1 m1 y1 c1 k1 z1] w0 fun e w' => ∃ g1 g2 g3 : Nat, e = .returned (.agg #[.bool e1, .slice (some ⟨g1, 0, none⟩) n1 n1, .slice (some ⟨g2, 0, none⟩) m1 m1, .slice (some ⟨g3, 0, none⟩) k1 k1]) ∧ Hid (QIn w6.heap.size w'.heap.size w' (some ⟨g1, 0, none⟩) (some ⟨g2, 0, none⟩) (some ⟨g3, 0, none⟩) n1 m1 k1 (tC o1) (aC t1) (fC f1)) ∧ Hid (Below w6.heap.size w6 w') ∧ (w'.cell? ⟨w4.heap.size, 0, none⟩ = some (.bool e1) ∧ w'.cell? ⟨w4.heap.size, 1, none⟩ = some (.slice (some ⟨gxa, 0, none⟩) n1 n1) ∧ w'.cell? ⟨w4.heap.size, 2, none⟩ = some (.slice (some ⟨gxb, 0, none⟩) m1 m1) ∧ w'.cell? ⟨w4.heap.size, 3, none⟩ = some (.slice (some ⟨gxc, 0, none⟩) k1 k1) ∧ w'.cell? ⟨w.heap.size, 0, none⟩ = some (.bool e1) ∧ w'.cell? ⟨w.heap.size, 1, none⟩ = some (.slice a1 n1 x1) ∧ w'.cell? ⟨w.heap.size, 2, none⟩ = some (.slice b1 m1 y1) ∧ w'.cell? ⟨w.heap.size, 3, none⟩ = some (.slice c1 k1 z1))) := fun w0 h =>
    (toQuery_any 0 w.heap.size e1 a1 b1 c1 n1 x1 m1 y1 k1 z1 o1 t1 f1 w0 (HR1.out.below (HD_40.out.below h).bel (Nat.le_refl _)) (HD_40.out.below h).bel.size HM1.out.1).mono fun _ w' ⟨g1, g2, g3, h1, h2, h4⟩ =>
      have h3 : Hid (Hold w w' [(w4.heap.size, [.bool e1, .slice (some ⟨gxa, 0, none⟩) n1 n1, .slice (some ⟨gxb, 0, none⟩) m1 m1, .slice (some ⟨gxc, 0, none⟩) k1 k1]), (w.heap.size, [.bool e1, .slice a1 n1 x1, .slice b1 m1 y1, .slice c1 k1 z1])]) := (HD_40.out.below h).below h4.out
      ⟨g1, g2, g3, h1, h2.out.toIn.wide h.size (Nat.le_refl _), h.trans (h4.out.mono h.size), h3.out.cell (b := w4.heap.size) (vs := [.bool e1, .slice (some ⟨gxa, 0, none⟩) n1 n1, .slice (some ⟨gxb, 0, none⟩) m1 m1, .slice (some ⟨gxc, 0, none⟩) k1 k1]) (i := 0) (by simp) (by simp), h3.out.cell (b := w4.heap.size) (vs := [.bool e1, .slice (some ⟨gxa, 0, none⟩) n1 n1, .slice (some ⟨gxb, 0, none⟩) m1 m1, .slice (some ⟨gxc, 0, none⟩) k1 k1]) (i := 1) (by simp) (by simp), h3.out.cell (b := w4.heap.size) (vs := [.bool e1, .slice (some ⟨gxa, 0, none⟩) n1 n1, .slice (some ⟨gxb, 0, none⟩) m1 m1, .slice (some ⟨gxc, 0, none⟩) k1 k1]) (i := 2) (by simp) (by simp), h3.out.cell (b := w4.heap.size) (vs := [.bool e1, .slice (some ⟨gxa, 0, none⟩) n1 n1, .slice (some ⟨gxb, 0, none⟩) m1 m1, .slice (some ⟨gxc, 0, none⟩) k1 k1]) (i := 3) (by simp) (by simp), h3.out.cell (b := w.heap.size) (vs := [.bool e1, .slice a1 n1 x1, .slice b1 m1 y1, .slice c1 k1 z1]) (i := 0) (by simp) (by simp), h3.out.cell (b := w.heap.size) (vs := [.bool e1, .slice a1 n1 x1, .slice b1 m1 y1, .slice c1 k1 z1]) (i := 1) (by simp) (by simp), h3.out.cell (b := w.heap.size) (vs := [.bool e1, .slice a1 n1 x1, .slice b1 m1 y1, .slice c1 k1 z1]) (i := 2) (by simp) (by simp), h3.out.cell (b := w.heap.size) (vs := [.bool e1, .slice a1 n1 x1, .slice b1 m1 y1, .slice c1 k1 z1]) (i := 3) (by simp) (by simp)⟩
  have HC2 : Hid (∀ (g1 g2 g3 : Nat) w0, Below w6.heap.size w6 w0 → QIn w6.heap.size w0.heap.size w0 (some ⟨g1, 0, none⟩) (some ⟨g2, 0, none⟩) (some ⟨g3, 0, none⟩) n1 m1 k1 (tC o1) (aC t1) (fC f1) → Calls Try.prog 24 #[.agg #[.bool e1, .slice (some ⟨gxa, 0, none⟩) n1 n1, .slice (some ⟨gxb, 0, none⟩) m1 m1, .slice (some ⟨gxc, 0, none⟩) k1 k1], .agg #[.bool e1, .slice (some ⟨g1, 0, none⟩) n1 n1, .slice (some ⟨g2, 0, none⟩) m1 m1, .slice (some ⟨g3, 0, none⟩) k1 k1]] w0 fun e w' => e = .returned (.bool true) ∧ Hid (Below w6.heap.size w6 w') ∧ (w'.cell? ⟨w4.heap.size, 0, none⟩ = some (.bool e1) ∧ w'.cell? ⟨w4.heap.size, 1, none⟩ = some (.slice (some ⟨gxa, 0, none⟩) n1 n1) ∧ w'.cell? ⟨w4.heap.size, 2, none⟩ = some (.slice (some ⟨gxb, 0, none⟩) m1 m1) ∧ w'.cell? ⟨w4.heap.size, 3, none⟩ = some (.slice (some ⟨gxc, 0, none⟩) k1 k1) ∧ w'.cell? ⟨w.heap.size, 0, none⟩ = some (.bool e1) ∧ w'.cell? ⟨w.heap.size, 1, none⟩ = some (.slice a1 n1 x1) ∧ w'.cell? ⟨w.heap.size, 2, none⟩ = some (.slice b1 m1 y1) ∧ w'.cell? ⟨w.heap.size, 3, none⟩ = some (.slice c1 k1 z1))) := fun g1 g2 g3 w0 h hx =>
    (eqQuery_any w3.heap.size w4.heap.size w6.heap.size w0.heap.size e1 e1 (some ⟨gxa, 0, none⟩) (some ⟨gxb, 0, none⟩) (some ⟨gxc, 0, none⟩) n1 n1 m1 m1 k1 k1 o1 t1 f1 (some ⟨g1, 0, none⟩) (some ⟨g2, 0, none⟩) (some ⟨g3, 0, none⟩) n1 n1 m1 m1 k1 k1 o1 t1 f1 true w0 (X0_41.out.below h (by have y0 := ZZ2.out; have y1 := ZZ10.out; have y2 := ZZ15.out; have y3 := ZZ24.out; have y4 := ZZ28.out; have y5 := ZZ29.out; have y6 := ZZ37.out; have y7 := ZZ41.out; omega)).toIn hx (by have yy := h.size; have y0 := ZZ2.out; have y1 := ZZ10.out; have y2 := ZZ15.out; have y3 := ZZ24.out; have y4 := ZZ28.out; have y5 := ZZ29.out; have y6 := ZZ37.out; have y7 := ZZ41.out; omega) (Nat.le_refl _) HL1.out HL1.out HM1.out.1 (by simp)).mono fun _ w' ⟨h1, h4⟩ =>
      have h3 : Hid (Hold w w' [(w4.heap.size, [.bool e1, .slice (some ⟨gxa, 0, none⟩) n1 n1, .slice (some ⟨gxb, 0, none⟩) m1 m1, .slice (some ⟨gxc, 0, none⟩) k1 k1]), (w.heap.size, [.bool e1, .slice a1 n1 x1, .slice b1 m1 y1, .slice c1 k1 z1])]) := (HD_40.out.below h).below h4.out
      ⟨h1, h.trans (h4.out.mono h.size), h3.out.cell (b := w4.heap.size) (vs := [.bool e1, .slice (some ⟨gxa, 0, none⟩) n1 n1, .slice (some ⟨gxb, 0, none⟩) m1 m1, .slice (some ⟨gxc, 0, none⟩) k1 k1]) (i := 0) (by simp) (by simp), h3.out.cell (b := w4.heap.size) (vs := [.bool e1, .slice (some ⟨gxa, 0, none⟩) n1 n1, .slice (some ⟨gxb, 0, none⟩) m1 m1, .slice (some ⟨gxc, 0, none⟩) k1 k1]) (i := 1) (by simp) (by simp), h3.out.cell (b := w4.heap.size) (vs := [.bool e1, .slice (some ⟨gxa, 0, none⟩) n1 n1, .slice (some ⟨gxb, 0, none⟩) m1 m1, .slice (some ⟨gxc, 0, none⟩) k1 k1]) (i := 2) (by simp) (by simp), h3.out.cell (b := w4.heap.size) (vs := [.bool e1, .slice (some ⟨gxa, 0, none⟩) n1 n1, .slice (some ⟨gxb, 0, none⟩) m1 m1, .slice (some ⟨gxc, 0, none⟩) k1 k1]) (i := 3) (by simp) (by simp), h3.out.cell (b := w.heap.size) (vs := [.bool e1, .slice a1 n1 x1, .slice b1 m1 y1, .slice c1 k1 z1]) (i := 0) (by simp) (by simp), h3.out.cell (b := w.heap.size) (vs := [.bool e1, .slice a1 n1 x1, .slice b1 m1 y1, .slice c1 k1 z1]) (i := 1) (by simp) (by simp), h3.out.cell (b := w.heap.size) (vs := [.bool e1, .slice a1 n1 x1, .slice b1 m1 y1, .slice c1 k1 z1]) (i := 2) (by simp) (by simp), h3.out.cell (b := w.heap.size) (vs := [.bool e1, .slice a1 n1 x1, .slice b1 m1 y1, .slice c1 k1 z1]) (i := 3) (by simp) (by simp)⟩
  go_wp2_with fail
  go_region_held3 (fun w' => w'.cell? ⟨w4.heap.size, 0, none⟩ = some (.bool e1) ∧ w'.cell? ⟨w4.heap.size, 1, none⟩ = some (.slice (some ⟨gxa, 0, none⟩) n1 n1) ∧ w'.cell? ⟨w4.heap.size, 2, none⟩ = some (.slice (some ⟨gxb, 0, none⟩) m1 m1) ∧ w'.cell? ⟨w4.heap.size, 3, none⟩ = some (.slice (some ⟨gxc, 0, none⟩) k1 k1) ∧ w'.cell? ⟨w.heap.size, 0, none⟩ = some (.bool e1) ∧ w'.cell? ⟨w.heap.size, 1, none⟩ = some (.slice a1 n1 x1) ∧ w'.cell? ⟨w.heap.size, 2, none⟩ = some (.slice b1 m1 y1) ∧ w'.cell? ⟨w.heap.size, 3, none⟩ = some (.slice c1 k1 z1)) (first | exact ⟨q_42, q_43, q_44, q_45, q_46, q_47, q_48, q_49⟩ | exact hk9 | exact hk10) (first | (go_at_call 21; refine (HC1.out _ ((Below.refl _ _).drew)).mono ?_; rintro e w7 ⟨g90, g91, g92, rfl, X9, B9, hk9⟩) | (go_at_call 24; refine (HC2.out _ _ _ _ B9.out X9.out).mono ?_; rintro e w8 ⟨rfl, B10, hk10⟩))
  clear q_42 q_43 q_44 q_45 q_46 q_47 q_48 q_49
  clear hk9 hk10 B9 X9 HC1 HC2
  have HD_50 : Hid (Hold w w8 [(w4.heap.size, [.bool e1, .slice (some ⟨gxa, 0, none⟩) n1 n1, .slice (some ⟨gxb, 0, none⟩) m1 m1, .slice (some ⟨gxc, 0, none⟩) k1 k1]), (w.heap.size, [.bool e1, .slice a1 n1 x1, .slice b1 m1 y1, .slice c1 k1 z1])]) := HD_40.out.below B10.out
  clear HD_40
  have ZZ51 : Hid (w6.heap.size ≤ w8.heap.size) := B10.out.size
  have W0_51 : Hid (FlOwn 1 w2.heap.size w3.heap.size w8 a3 q3 (tC NL)) := W0_41.out.below B10.out (by have y0 := ZZ2.out; have y1 := ZZ10.out; have y2 := ZZ15.out; have y3 := ZZ24.out; have y4 := ZZ28.out; have y5 := ZZ29.out; have y6 := ZZ37.out; have y7 := ZZ41.out; have y8 := ZZ51.out; omega)
  have X0_51 : Hid (QOwn w3.heap.size w4.heap.size w8 (some ⟨gxa, 0, none⟩) (some ⟨gxb, 0, none⟩) (some ⟨gxc, 0, none⟩) n1 m1 k1 (tC o1) (aC t1) (fC f1)) := X0_41.out.below B10.out (by have y0 := ZZ2.out; have y1 := ZZ10.out; have y2 := ZZ15.out; have y3 := ZZ24.out; have y4 := ZZ28.out; have y5 := ZZ29.out; have y6 := ZZ37.out; have y7 := ZZ41.out; have y8 := ZZ51.out; omega)
  have G0_51 : Hid (FlOwn 1 (w4.alloc (.cells #[.bool e1, .slice (some ⟨gxa, 0, none⟩) n1 n1, .slice (some ⟨gxb, 0, none⟩) m1 m1, .slice (some ⟨gxc, 0, none⟩) k1 k1] 52)).heap.size w5.heap.size w8 a5 q3 (tC NL)) := G0_41.out.below B10.out (by have y0 := ZZ2.out; have y1 := ZZ10.out; have y2 := ZZ15.out; have y3 := ZZ24.out; have y4 := ZZ28.out; have y5 := ZZ29.out; have y6 := ZZ37.out; have y7 := ZZ41.out; have y8 := ZZ51.out; omega)
  clear W0_41 X0_41 G0_41
  clear B10
  have q_52 : w8.cell? ⟨w4.heap.size, 0, none⟩ = some (.bool e1) := HD_50.out.cell (b := w4.heap.size) (vs := [.bool e1, .slice (some ⟨gxa, 0, none⟩) n1 n1, .slice (some ⟨gxb, 0, none⟩) m1 m1, .slice (some ⟨gxc, 0, none⟩) k1 k1]) (i := 0) (by simp) (by simp)
  have q_53 : w8.cell? ⟨w4.heap.size, 1, none⟩ = some (.slice (some ⟨gxa, 0, none⟩) n1 n1) := HD_50.out.cell (b := w4.heap.size) (vs := [.bool e1, .slice (some ⟨gxa, 0, none⟩) n1 n1, .slice (some ⟨gxb, 0, none⟩) m1 m1, .slice (some ⟨gxc, 0, none⟩) k1 k1]) (i := 1) (by simp) (by simp)
  have q_54 : w8.cell? ⟨w4.heap.size, 2, none⟩ = some (.slice (some ⟨gxb, 0, none⟩) m1 m1) := HD_50.out.cell (b := w4.heap.size) (vs := [.bool e1, .slice (some ⟨gxa, 0, none⟩) n1 n1, .slice (some ⟨gxb, 0, none⟩) m1 m1, .slice (some ⟨gxc, 0, none⟩) k1 k1]) (i := 2) (by simp) (by simp)
  have q_55 : w8.cell? ⟨w4.heap.size, 3, none⟩ = some (.slice (some ⟨gxc, 0, none⟩) k1 k1) := HD_50.out.cell (b := w4.heap.size) (vs := [.bool e1, .slice (some ⟨gxa, 0, none⟩) n1 n1, .slice (some ⟨gxb, 0, none⟩) m1 m1, .slice (some ⟨gxc, 0, none⟩) k1 k1]) (i := 3) (by simp) (by simp)
  go_wp2_with fail
  refine (markQuery_any w3.heap.size w4.heap.size e1 (some ⟨gxa, 0, none⟩) (some ⟨gxb, 0, none⟩) (some ⟨gxc, 0, none⟩) n1 n1 m1 m1 k1 k1 1 _ _ _ _ X0_51.out (by have y0 := ZZ2.out; have y1 := ZZ10.out; have y2 := ZZ15.out; have y3 := ZZ24.out; have y4 := ZZ28.out; have y5 := ZZ29.out; have y6 := ZZ37.out; have y7 := ZZ41.out; have y8 := ZZ51.out; omega) HM1.out.1 (by omega) (by omega)).mono ?_
  rintro e w9 ⟨m9, rfl, HM_m9, X_56, K_56⟩
  clear q_52 q_53 q_54 q_55
  have HD_57 : Hid (Hold w w9 [(w4.heap.size, [.bool e1, .slice (some ⟨gxa, 0, none⟩) n1 n1, .slice (some ⟨gxb, 0, none⟩) m1 m1, .slice (some ⟨gxc, 0, none⟩) k1 k1]), (w.heap.size, [.bool e1, .slice a1 n1 x1, .slice b1 m1 y1, .slice c1 k1 z1])]) := HD_50.out.kept K_56.out (by intro x hx; simp only [List.mem_cons, List.not_mem_nil, or_false] at hx; have y0 := ZZ2.out; have y1 := ZZ10.out; have y2 := ZZ15.out; have y3 := ZZ24.out; have y4 := ZZ28.out; have y5 := ZZ29.out; have y6 := ZZ37.out; have y7 := ZZ41.out; have y8 := ZZ51.out; rcases hx with rfl | rfl <;> dsimp only <;> omega) (fun k hk => by have y0 := ZZ2.out; have y1 := ZZ10.out; have y2 := ZZ15.out; have y3 := ZZ24.out; have y4 := ZZ28.out; have y5 := ZZ29.out; have y6 := ZZ37.out; have y7 := ZZ41.out; have y8 := ZZ51.out; omega)
  clear HD_50
  have ZZ58 : Hid (w8.heap.size ≤ w9.heap.size) := K_56.out.size
  have W0_58 : Hid (FlOwn 1 w2.heap.size w3.heap.size w9 a3 q3 (tC NL)) := W0_51.out.kept K_56.out (fun c h1 h2 h3 => by have y0 := ZZ2.out; have y1 := ZZ10.out; have y2 := ZZ15.out; have y3 := ZZ24.out; have y4 := ZZ28.out; have y5 := ZZ29.out; have y6 := ZZ37.out; have y7 := ZZ41.out; have y8 := ZZ51.out; have y9 := ZZ58.out; omega)
  have G0_58 : Hid (FlOwn 1 (w4.alloc (.cells #[.bool e1, .slice (some ⟨gxa, 0, none⟩) n1 n1, .slice (some ⟨gxb, 0, none⟩) m1 m1, .slice (some ⟨gxc, 0, none⟩) k1 k1] 52)).heap.size w5.heap.size w9 a5 q3 (tC NL)) := G0_51.out.kept K_56.out (fun c h1 h2 h3 => by have y0 := ZZ2.out; have y1 := ZZ10.out; have y2 := ZZ15.out; have y3 := ZZ24.out; have y4 := ZZ28.out; have y5 := ZZ29.out; have y6 := ZZ37.out; have y7 := ZZ41.out; have y8 := ZZ51.out; have y9 := ZZ58.out; omega)
  clear W0_51 X0_51 G0_51
  clear K_56
  have hm9 : ¬ (m9 : Int) < 0 := by omega
  go_wp2_with fail
  refine (eqStringS_any (w4.alloc (.cells #[.bool e1, .slice (some ⟨gxa, 0, none⟩) n1 n1, .slice (some ⟨gxb, 0, none⟩) m1 m1, .slice (some ⟨gxc, 0, none⟩) k1 k1] 52)).heap.size w5.heap.size w2.heap.size w3.heap.size a5 a3 q3 q3 c5 c3 NL NL true _ G0_58.out.toIn W0_58.out.toIn (by have y0 := ZZ2.out; have y1 := ZZ10.out; have y2 := ZZ15.out; have y3 := ZZ24.out; have y4 := ZZ28.out; have y5 := ZZ29.out; have y6 := ZZ37.out; have y7 := ZZ41.out; have y8 := ZZ51.out; have y9 := ZZ58.out; omega) (by have y0 := ZZ2.out; have y1 := ZZ10.out; have y2 := ZZ15.out; have y3 := ZZ24.out; have y4 := ZZ28.out; have y5 := ZZ29.out; have y6 := ZZ37.out; have y7 := ZZ41.out; have y8 := ZZ51.out; have y9 := ZZ58.out; omega) Y_12.out Y_12.out (by have := HQ3.out; omega) (by simp)).mono ?_
  rintro e w10 ⟨rfl, B_59⟩
  have HD_60 : Hid (Hold w w10 [(w4.heap.size, [.bool e1, .slice (some ⟨gxa, 0, none⟩) n1 n1, .slice (some ⟨gxb, 0, none⟩) m1 m1, .slice (some ⟨gxc, 0, none⟩) k1 k1]), (w.heap.size, [.bool e1, .slice a1 n1 x1, .slice b1 m1 y1, .slice c1 k1 z1])]) := HD_57.out.below B_59.out
  clear HD_57
  have ZZ61 : Hid (w9.heap.size ≤ w10.heap.size) := B_59.out.size
  have W0_61 : Hid (FlOwn 1 w2.heap.size w3.heap.size w10 a3 q3 (tC NL)) := W0_58.out.below B_59.out (by have y0 := ZZ2.out; have y1 := ZZ10.out; have y2 := ZZ15.out; have y3 := ZZ24.out; have y4 := ZZ28.out; have y5 := ZZ29.out; have y6 := ZZ37.out; have y7 := ZZ41.out; have y8 := ZZ51.out; have y9 := ZZ58.out; have y10 := ZZ61.out; omega)
  have G0_61 : Hid (FlOwn 1 (w4.alloc (.cells #[.bool e1, .slice (some ⟨gxa, 0, none⟩) n1 n1, .slice (some ⟨gxb, 0, none⟩) m1 m1, .slice (some ⟨gxc, 0, none⟩) k1 k1] 52)).heap.size w5.heap.size w10 a5 q3 (tC NL)) := G0_58.out.below B_59.out (by have y0 := ZZ2.out; have y1 := ZZ10.out; have y2 := ZZ15.out; have y3 := ZZ24.out; have y4 := ZZ28.out; have y5 := ZZ29.out; have y6 := ZZ37.out; have y7 := ZZ41.out; have y8 := ZZ51.out; have y9 := ZZ58.out; have y10 := ZZ61.out; omega)
  clear W0_58 G0_58
  clear B_59
  go_wp2_with fail
  refine (markStringS_any (w4.alloc (.cells #[.bool e1, .slice (some ⟨gxa, 0, none⟩) n1 n1, .slice (some ⟨gxb, 0, none⟩) m1 m1, .slice (some ⟨gxc, 0, none⟩) k1 k1] 52)).heap.size w5.heap.size a5 q3 c5 1 _ _ G0_61.out (by have := HQ3.out; omega) (by omega) (by omega)).mono ?_
  rintro e w11 ⟨rfl, X_62, K_62⟩
  have HD_63 : Hid (Hold w w11 [(w4.heap.size, [.bool e1, .slice (some ⟨gxa, 0, none⟩) n1 n1, .slice (some ⟨gxb, 0, none⟩) m1 m1, .slice (some ⟨gxc, 0, none⟩) k1 k1]), (w.heap.size, [.bool e1, .slice a1 n1 x1, .slice b1 m1 y1, .slice c1 k1 z1])]) := HD_60.out.kept K_62.out (by intro x hx; simp only [List.mem_cons, List.not_mem_nil, or_false] at hx; have y0 := ZZ2.out; have y1 := ZZ10.out; have y2 := ZZ15.out; have y3 := ZZ24.out; have y4 := ZZ28.out; have y5 := ZZ29.out; have y6 := ZZ37.out; have y7 := ZZ41.out; have y8 := ZZ51.out; have y9 := ZZ58.out; have y10 := ZZ61.out; rcases hx with rfl | rfl <;> dsimp only <;> omega) (fun k hk => by have y0 := ZZ2.out; have y1 := ZZ10.out; have y2 := ZZ15.out; have y3 := ZZ24.out; have y4 := ZZ28.out; have y5 := ZZ29.out; have y6 := ZZ37.out; have y7 := ZZ41.out; have y8 := ZZ51.out; have y9 := ZZ58.out; have y10 := ZZ61.out; omega)
  clear HD_60
  have ZZ64 : Hid (w10.heap.size ≤ w11.heap.size) := K_62.out.size
  have W0_64 : Hid (FlOwn 1 w2.heap.size w3.heap.size w11 a3 q3 (tC NL)) := W0_61.out.kept K_62.out (fun c h1 h2 h3 => by have y0 := ZZ2.out; have y1 := ZZ10.out; have y2 := ZZ15.out; have y3 := ZZ24.out; have y4 := ZZ28.out; have y5 := ZZ29.out; have y6 := ZZ37.out; have y7 := ZZ41.out; have y8 := ZZ51.out; have y9 := ZZ58.out; have y10 := ZZ61.out; have y11 := ZZ64.out; omega)
  clear W0_61 G0_61
  clear K_62
  have G0_65 : Hid (FlOwn 1 (w4.alloc (.cells #[.bool e1, .slice (some ⟨gxa, 0, none⟩) n1 n1, .slice (some ⟨gxb, 0, none⟩) m1 m1, .slice (some ⟨gxc, 0, none⟩) k1 k1] 52)).heap.size w5.heap.size w11 a5 q3 (mkT 1)) := X_62.out
  clear X_62
  obtain ⟨M, HMM⟩ : ∃ M, Hid (M = 1 + q3 * 1) := ⟨_, rfl⟩
  rw [← HMM.out]
  have hM0 : ¬ (M : Int) < 0 := by omega
  go_wp2_with fail
  refine (heldStringS_any (w4.alloc (.cells #[.bool e1, .slice (some ⟨gxa, 0, none⟩) n1 n1, .slice (some ⟨gxb, 0, none⟩) m1 m1, .slice (some ⟨gxc, 0, none⟩) k1 k1] 52)).heap.size w5.heap.size a5 q3 c5 1 _ G0_65.out.toIn (by have y0 := ZZ2.out; have y1 := ZZ10.out; have y2 := ZZ15.out; have y3 := ZZ24.out; have y4 := ZZ28.out; have y5 := ZZ29.out; have y6 := ZZ37.out; have y7 := ZZ41.out; have y8 := ZZ51.out; have y9 := ZZ58.out; have y10 := ZZ61.out; have y11 := ZZ64.out; omega) HQ3.out (by omega) (by omega)).mono ?_
  rintro e w12 ⟨rfl, B_66⟩
  have HD_67 : Hid (Hold w w12 [(w4.heap.size, [.bool e1, .slice (some ⟨gxa, 0, none⟩) n1 n1, .slice (some ⟨gxb, 0, none⟩) m1 m1, .slice (some ⟨gxc, 0, none⟩) k1 k1]), (w.heap.size, [.bool e1, .slice a1 n1 x1, .slice b1 m1 y1, .slice c1 k1 z1])]) := HD_63.out.below B_66.out
  clear HD_63
  have ZZ68 : Hid (w11.heap.size ≤ w12.heap.size) := B_66.out.size
  have W0_68 : Hid (FlOwn 1 w2.heap.size w3.heap.size w12 a3 q3 (tC NL)) := W0_64.out.below B_66.out (by have y0 := ZZ2.out; have y1 := ZZ10.out; have y2 := ZZ15.out; have y3 := ZZ24.out; have y4 := ZZ28.out; have y5 := ZZ29.out; have y6 := ZZ37.out; have y7 := ZZ41.out; have y8 := ZZ51.out; have y9 := ZZ58.out; have y10 := ZZ61.out; have y11 := ZZ64.out; have y12 := ZZ68.out; omega)
  have G0_68 : Hid (FlOwn 1 (w4.alloc (.cells #[.bool e1, .slice (some ⟨gxa, 0, none⟩) n1 n1, .slice (some ⟨gxb, 0, none⟩) m1 m1, .slice (some ⟨gxc, 0, none⟩) k1 k1] 52)).heap.size w5.heap.size w12 a5 q3 (mkT 1)) := G0_65.out.below B_66.out (by have y0 := ZZ2.out; have y1 := ZZ10.out; have y2 := ZZ15.out; have y3 := ZZ24.out; have y4 := ZZ28.out; have y5 := ZZ29.out; have y6 := ZZ37.out; have y7 := ZZ41.out; have y8 := ZZ51.out; have y9 := ZZ58.out; have y10 := ZZ61.out; have y11 := ZZ64.out; have y12 := ZZ68.out; omega)
  clear W0_64 G0_65
  clear B_66
  rw [show 1 + q3 = M by rw [HMM.out]; omega]
  have q_70 : w12.cell? ⟨w.heap.size, 0, none⟩ = some (.bool e1) := HD_67.out.cell (b := w.heap.size) (vs := [.bool e1, .slice a1 n1 x1, .slice b1 m1 y1, .slice c1 k1 z1]) (i := 0) (by simp) (by simp)
  have q_71 : w12.cell? ⟨w.heap.size, 1, none⟩ = some (.slice a1 n1 x1) := HD_67.out.cell (b := w.heap.size) (vs := [.bool e1, .slice a1 n1 x1, .slice b1 m1 y1, .slice c1 k1 z1]) (i := 1) (by simp) (by simp)
  have q_72 : w12.cell? ⟨w.heap.size, 2, none⟩ = some (.slice b1 m1 y1) := HD_67.out.cell (b := w.heap.size) (vs := [.bool e1, .slice a1 n1 x1, .slice b1 m1 y1, .slice c1 k1 z1]) (i := 2) (by simp) (by simp)
  have q_73 : w12.cell? ⟨w.heap.size, 3, none⟩ = some (.slice c1 k1 z1) := HD_67.out.cell (b := w.heap.size) (vs := [.bool e1, .slice a1 n1 x1, .slice b1 m1 y1, .slice c1 k1 z1]) (i := 3) (by simp) (by simp)
  go_wp2_with fail
  refine (toQuery_any 0 w.heap.size e1 a1 b1 c1 n1 x1 m1 y1 k1 z1 o1 t1 f1 _ (HR1.out.below HD_67.out.bel (Nat.le_refl _)) HD_67.out.bel.size HM1.out.1).mono ?_
  rintro e w13 ⟨gza, gzb, gzc, rfl, X_69, B_74⟩
  clear q_70 q_71 q_72 q_73
  have HD_75 : Hid (Hold w w13 [(w4.heap.size, [.bool e1, .slice (some ⟨gxa, 0, none⟩) n1 n1, .slice (some ⟨gxb, 0, none⟩) m1 m1, .slice (some ⟨gxc, 0, none⟩) k1 k1]), (w.heap.size, [.bool e1, .slice a1 n1 x1, .slice b1 m1 y1, .slice c1 k1 z1])]) := HD_67.out.below B_74.out
  clear HD_67
  have ZZ76 : Hid (w12.heap.size ≤ w13.heap.size) := B_74.out.size
  have W0_76 : Hid (FlOwn 1 w2.heap.size w3.heap.size w13 a3 q3 (tC NL)) := W0_68.out.below B_74.out (by have y0 := ZZ2.out; have y1 := ZZ10.out; have y2 := ZZ15.out; have y3 := ZZ24.out; have y4 := ZZ28.out; have y5 := ZZ29.out; have y6 := ZZ37.out; have y7 := ZZ41.out; have y8 := ZZ51.out; have y9 := ZZ58.out; have y10 := ZZ61.out; have y11 := ZZ64.out; have y12 := ZZ68.out; have y13 := ZZ76.out; omega)
  have G0_76 : Hid (FlOwn 1 (w4.alloc (.cells #[.bool e1, .slice (some ⟨gxa, 0, none⟩) n1 n1, .slice (some ⟨gxb, 0, none⟩) m1 m1, .slice (some ⟨gxc, 0, none⟩) k1 k1] 52)).heap.size w5.heap.size w13 a5 q3 (mkT 1)) := G0_68.out.below B_74.out (by have y0 := ZZ2.out; have y1 := ZZ10.out; have y2 := ZZ15.out; have y3 := ZZ24.out; have y4 := ZZ28.out; have y5 := ZZ29.out; have y6 := ZZ37.out; have y7 := ZZ41.out; have y8 := ZZ51.out; have y9 := ZZ58.out; have y10 := ZZ61.out; have y11 := ZZ64.out; have y12 := ZZ68.out; have y13 := ZZ76.out; omega)
  clear W0_68 G0_68
  clear B_74
  have T2_77 : Hid (QOwn w12.heap.size w13.heap.size w13 (some ⟨gza, 0, none⟩) (some ⟨gzb, 0, none⟩) (some ⟨gzc, 0, none⟩) n1 m1 k1 (tC o1) (aC t1) (fC f1)) := X_69.out
  clear X_69
  go_wp2_with fail
  refine (names_any w12.heap.size w13.heap.size e1 (some ⟨gza, 0, none⟩) (some ⟨gzb, 0, none⟩) (some ⟨gzc, 0, none⟩) n1 n1 m1 m1 k1 k1 o1 t1 f1 _ T2_77.out.toIn (by have y0 := ZZ2.out; have y1 := ZZ10.out; have y2 := ZZ15.out; have y3 := ZZ24.out; have y4 := ZZ28.out; have y5 := ZZ29.out; have y6 := ZZ37.out; have y7 := ZZ41.out; have y8 := ZZ51.out; have y9 := ZZ58.out; have y10 := ZZ61.out; have y11 := ZZ64.out; have y12 := ZZ68.out; have y13 := ZZ76.out; omega) HM1.out.1.2.1 (fun i hi => ⟨(HM1.out.2.2.1 i hi).1, (HM1.out.2.2.1 i hi).2.2⟩)).mono ?_
  rintro e w14 ⟨a14, q14, c14, rfl, Y_78, X_78, B_79⟩
  have HD_80 : Hid (Hold w w14 [(w4.heap.size, [.bool e1, .slice (some ⟨gxa, 0, none⟩) n1 n1, .slice (some ⟨gxb, 0, none⟩) m1 m1, .slice (some ⟨gxc, 0, none⟩) k1 k1]), (w.heap.size, [.bool e1, .slice a1 n1 x1, .slice b1 m1 y1, .slice c1 k1 z1])]) := HD_75.out.below B_79.out
  clear HD_75
  have ZZ81 : Hid (w13.heap.size ≤ w14.heap.size) := B_79.out.size
  have W0_81 : Hid (FlOwn 1 w2.heap.size w3.heap.size w14 a3 q3 (tC NL)) := W0_76.out.below B_79.out (by have y0 := ZZ2.out; have y1 := ZZ10.out; have y2 := ZZ15.out; have y3 := ZZ24.out; have y4 := ZZ28.out; have y5 := ZZ29.out; have y6 := ZZ37.out; have y7 := ZZ41.out; have y8 := ZZ51.out; have y9 := ZZ58.out; have y10 := ZZ61.out; have y11 := ZZ64.out; have y12 := ZZ68.out; have y13 := ZZ76.out; have y14 := ZZ81.out; omega)
  have G0_81 : Hid (FlOwn 1 (w4.alloc (.cells #[.bool e1, .slice (some ⟨gxa, 0, none⟩) n1 n1, .slice (some ⟨gxb, 0, none⟩) m1 m1, .slice (some ⟨gxc, 0, none⟩) k1 k1] 52)).heap.size w5.heap.size w14 a5 q3 (mkT 1)) := G0_76.out.below B_79.out (by have y0 := ZZ2.out; have y1 := ZZ10.out; have y2 := ZZ15.out; have y3 := ZZ24.out; have y4 := ZZ28.out; have y5 := ZZ29.out; have y6 := ZZ37.out; have y7 := ZZ41.out; have y8 := ZZ51.out; have y9 := ZZ58.out; have y10 := ZZ61.out; have y11 := ZZ64.out; have y12 := ZZ68.out; have y13 := ZZ76.out; have y14 := ZZ81.out; omega)
  have T2_81 : Hid (QOwn w12.heap.size w13.heap.size w14 (some ⟨gza, 0, none⟩) (some ⟨gzb, 0, none⟩) (some ⟨gzc, 0, none⟩) n1 m1 k1 (tC o1) (aC t1) (fC f1)) := T2_77.out.below B_79.out (by have y0 := ZZ2.out; have y1 := ZZ10.out; have y2 := ZZ15.out; have y3 := ZZ24.out; have y4 := ZZ28.out; have y5 := ZZ29.out; have y6 := ZZ37.out; have y7 := ZZ41.out; have y8 := ZZ51.out; have y9 := ZZ58.out; have y10 := ZZ61.out; have y11 := ZZ64.out; have y12 := ZZ68.out; have y13 := ZZ76.out; have y14 := ZZ81.out; omega)
  clear W0_76 G0_76 T2_77
  clear B_79
  rw [← HNL.out] at X_78 Y_78
  have H0_82 : Hid (FlOwn 1 w13.heap.size w14.heap.size w14 a14 q14 (tC NL)) := X_78.out
  clear X_78
  obtain rfl : q3 = q14 := by rw [← Y_12.out, ← Y_78.out]
  clear T2_81
  go_wp2_with fail
  refine (eqStringS_any w13.heap.size w14.heap.size w2.heap.size w3.heap.size a14 a3 q3 q3 c14 c3 NL NL true _ H0_82.out.toIn W0_81.out.toIn (by have y0 := ZZ2.out; have y1 := ZZ10.out; have y2 := ZZ15.out; have y3 := ZZ24.out; have y4 := ZZ28.out; have y5 := ZZ29.out; have y6 := ZZ37.out; have y7 := ZZ41.out; have y8 := ZZ51.out; have y9 := ZZ58.out; have y10 := ZZ61.out; have y11 := ZZ64.out; have y12 := ZZ68.out; have y13 := ZZ76.out; have y14 := ZZ81.out; omega) (by have y0 := ZZ2.out; have y1 := ZZ10.out; have y2 := ZZ15.out; have y3 := ZZ24.out; have y4 := ZZ28.out; have y5 := ZZ29.out; have y6 := ZZ37.out; have y7 := ZZ41.out; have y8 := ZZ51.out; have y9 := ZZ58.out; have y10 := ZZ61.out; have y11 := ZZ64.out; have y12 := ZZ68.out; have y13 := ZZ76.out; have y14 := ZZ81.out; omega) Y_12.out Y_12.out (by have := HQ3.out; omega) (by simp)).mono ?_
  rintro e w15 ⟨rfl, B_83⟩
  have HD_84 : Hid (Hold w w15 [(w4.heap.size, [.bool e1, .slice (some ⟨gxa, 0, none⟩) n1 n1, .slice (some ⟨gxb, 0, none⟩) m1 m1, .slice (some ⟨gxc, 0, none⟩) k1 k1]), (w.heap.size, [.bool e1, .slice a1 n1 x1, .slice b1 m1 y1, .slice c1 k1 z1])]) := HD_80.out.below B_83.out
  clear HD_80
  have ZZ85 : Hid (w14.heap.size ≤ w15.heap.size) := B_83.out.size
  have W0_85 : Hid (FlOwn 1 w2.heap.size w3.heap.size w15 a3 q3 (tC NL)) := W0_81.out.below B_83.out (by have y0 := ZZ2.out; have y1 := ZZ10.out; have y2 := ZZ15.out; have y3 := ZZ24.out; have y4 := ZZ28.out; have y5 := ZZ29.out; have y6 := ZZ37.out; have y7 := ZZ41.out; have y8 := ZZ51.out; have y9 := ZZ58.out; have y10 := ZZ61.out; have y11 := ZZ64.out; have y12 := ZZ68.out; have y13 := ZZ76.out; have y14 := ZZ81.out; have y15 := ZZ85.out; omega)
  have G0_85 : Hid (FlOwn 1 (w4.alloc (.cells #[.bool e1, .slice (some ⟨gxa, 0, none⟩) n1 n1, .slice (some ⟨gxb, 0, none⟩) m1 m1, .slice (some ⟨gxc, 0, none⟩) k1 k1] 52)).heap.size w5.heap.size w15 a5 q3 (mkT 1)) := G0_81.out.below B_83.out (by have y0 := ZZ2.out; have y1 := ZZ10.out; have y2 := ZZ15.out; have y3 := ZZ24.out; have y4 := ZZ28.out; have y5 := ZZ29.out; have y6 := ZZ37.out; have y7 := ZZ41.out; have y8 := ZZ51.out; have y9 := ZZ58.out; have y10 := ZZ61.out; have y11 := ZZ64.out; have y12 := ZZ68.out; have y13 := ZZ76.out; have y14 := ZZ81.out; have y15 := ZZ85.out; omega)
  have H0_85 : Hid (FlOwn 1 w13.heap.size w14.heap.size w15 a14 q3 (tC NL)) := H0_82.out.below B_83.out (by have y0 := ZZ2.out; have y1 := ZZ10.out; have y2 := ZZ15.out; have y3 := ZZ24.out; have y4 := ZZ28.out; have y5 := ZZ29.out; have y6 := ZZ37.out; have y7 := ZZ41.out; have y8 := ZZ51.out; have y9 := ZZ58.out; have y10 := ZZ61.out; have y11 := ZZ64.out; have y12 := ZZ68.out; have y13 := ZZ76.out; have y14 := ZZ81.out; have y15 := ZZ85.out; omega)
  clear W0_81 G0_81 H0_82
  clear B_83
  go_wp2_with fail
  refine (heldStringS_any (w4.alloc (.cells #[.bool e1, .slice (some ⟨gxa, 0, none⟩) n1 n1, .slice (some ⟨gxb, 0, none⟩) m1 m1, .slice (some ⟨gxc, 0, none⟩) k1 k1] 52)).heap.size w5.heap.size a5 q3 c5 1 _ G0_85.out.toIn (by have y0 := ZZ2.out; have y1 := ZZ10.out; have y2 := ZZ15.out; have y3 := ZZ24.out; have y4 := ZZ28.out; have y5 := ZZ29.out; have y6 := ZZ37.out; have y7 := ZZ41.out; have y8 := ZZ51.out; have y9 := ZZ58.out; have y10 := ZZ61.out; have y11 := ZZ64.out; have y12 := ZZ68.out; have y13 := ZZ76.out; have y14 := ZZ81.out; have y15 := ZZ85.out; omega) HQ3.out (by omega) (by omega)).mono ?_
  rintro e w16 ⟨rfl, B_86⟩
  have HD_87 : Hid (Hold w w16 [(w4.heap.size, [.bool e1, .slice (some ⟨gxa, 0, none⟩) n1 n1, .slice (some ⟨gxb, 0, none⟩) m1 m1, .slice (some ⟨gxc, 0, none⟩) k1 k1]), (w.heap.size, [.bool e1, .slice a1 n1 x1, .slice b1 m1 y1, .slice c1 k1 z1])]) := HD_84.out.below B_86.out
  clear HD_84
  have ZZ88 : Hid (w15.heap.size ≤ w16.heap.size) := B_86.out.size
  have W0_88 : Hid (FlOwn 1 w2.heap.size w3.heap.size w16 a3 q3 (tC NL)) := W0_85.out.below B_86.out (by have y0 := ZZ2.out; have y1 := ZZ10.out; have y2 := ZZ15.out; have y3 := ZZ24.out; have y4 := ZZ28.out; have y5 := ZZ29.out; have y6 := ZZ37.out; have y7 := ZZ41.out; have y8 := ZZ51.out; have y9 := ZZ58.out; have y10 := ZZ61.out; have y11 := ZZ64.out; have y12 := ZZ68.out; have y13 := ZZ76.out; have y14 := ZZ81.out; have y15 := ZZ85.out; have y16 := ZZ88.out; omega)
  have G0_88 : Hid (FlOwn 1 (w4.alloc (.cells #[.bool e1, .slice (some ⟨gxa, 0, none⟩) n1 n1, .slice (some ⟨gxb, 0, none⟩) m1 m1, .slice (some ⟨gxc, 0, none⟩) k1 k1] 52)).heap.size w5.heap.size w16 a5 q3 (mkT 1)) := G0_85.out.below B_86.out (by have y0 := ZZ2.out; have y1 := ZZ10.out; have y2 := ZZ15.out; have y3 := ZZ24.out; have y4 := ZZ28.out; have y5 := ZZ29.out; have y6 := ZZ37.out; have y7 := ZZ41.out; have y8 := ZZ51.out; have y9 := ZZ58.out; have y10 := ZZ61.out; have y11 := ZZ64.out; have y12 := ZZ68.out; have y13 := ZZ76.out; have y14 := ZZ81.out; have y15 := ZZ85.out; have y16 := ZZ88.out; omega)
  have H0_88 : Hid (FlOwn 1 w13.heap.size w14.heap.size w16 a14 q3 (tC NL)) := H0_85.out.below B_86.out (by have y0 := ZZ2.out; have y1 := ZZ10.out; have y2 := ZZ15.out; have y3 := ZZ24.out; have y4 := ZZ28.out; have y5 := ZZ29.out; have y6 := ZZ37.out; have y7 := ZZ41.out; have y8 := ZZ51.out; have y9 := ZZ58.out; have y10 := ZZ61.out; have y11 := ZZ64.out; have y12 := ZZ68.out; have y13 := ZZ76.out; have y14 := ZZ81.out; have y15 := ZZ85.out; have y16 := ZZ88.out; omega)
  clear W0_85 G0_85 H0_85
  clear B_86
  rw [show 1 + q3 = M by rw [HMM.out]; omega]
  go_wp2
  go_ret
  exact ⟨rfl, HD_87.out.bel⟩
end Go.Proofs.Ytkcflhlipdnbnaa
