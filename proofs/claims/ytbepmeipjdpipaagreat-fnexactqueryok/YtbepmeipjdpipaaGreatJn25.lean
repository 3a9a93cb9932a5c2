import Derived.Test.YtbepmeipjdpipaaGreatJn24
import Derived.Test.YtbepmeipjdpipaaGreatJn04
import Derived.Deep.RegionHeld3
namespace Go.Proofs.YtbepmeipjdpipaaGreat
open Go.RowKit

set_option maxHeartbeats 16000000 in
set_option maxRecDepth 100000 in
theorem law_3 (e1 : Bool) (a1 : Option Addr) (n1 x1 : Nat) (b1 : Option Addr) (m1 y1 : Nat) (c1 : Option Addr) (k1 z1 : Nat) (o1 : List Tx) (t1 : List At) (f1 : List Fl) (w : World) (hl1 : o1.length = n1 ∧ t1.length = m1 ∧ f1.length = k1) (hz1 : QLe maxLen n1 m1 k1 o1 t1 f1) (hr1 : QIn 0 w.heap.size w a1 b1 c1 n1 m1 k1 (tC o1) (aC t1) (fC f1)) :
    Calls Tryz.prog 3 #[qv e1 a1 n1 x1 b1 m1 y1 c1 k1 z1] w fun e w' => e = .returned (.bool true) ∧ Below w.heap.size w w' := by
  have HR1 : Hid (QIn 0 w.heap.size w a1 b1 c1 n1 m1 k1 (tC o1) (aC t1) (fC f1)) := hr1
  have HL1 : Hid (o1.length = n1 ∧ t1.length = m1 ∧ f1.length = k1) := hl1
  have HMX1 : Hid (QLe 9223372036854775807 n1 m1 k1 o1 t1 f1) := hz1
  clear hr1 hl1 hz1
  obtain ⟨r, HRR⟩ : ∃ r : Bool, Hid (r = qOk o1 t1 f1) := ⟨_, rfl⟩
  go_enter Tryz.func3, Tryz.ntmps3
  have HD_1 : Hid (Hold w (w.alloc (.cells #[.bool e1, .slice a1 n1 x1, .slice b1 m1 y1, .slice c1 k1 z1] 26)) [(w.heap.size, [.bool e1, .slice a1 n1 x1, .slice b1 m1 y1, .slice c1 k1 z1])]) := by
    have h := (Hold.none w).more [.bool e1, .slice a1 n1 x1, .slice b1 m1 y1, .slice c1 k1 z1] 26
    exact h
  have q_2 : (w.alloc (.cells #[.bool e1, .slice a1 n1 x1, .slice b1 m1 y1, .slice c1 k1 z1] 26)).cell? ⟨w.heap.size, 0, none⟩ = some (.bool e1) := HD_1.out.cell (b := w.heap.size) (vs := [.bool e1, .slice a1 n1 x1, .slice b1 m1 y1, .slice c1 k1 z1]) (i := 0) (by simp) (by simp)
  have q_3 : (w.alloc (.cells #[.bool e1, .slice a1 n1 x1, .slice b1 m1 y1, .slice c1 k1 z1] 26)).cell? ⟨w.heap.size, 1, none⟩ = some (.slice a1 n1 x1) := HD_1.out.cell (b := w.heap.size) (vs := [.bool e1, .slice a1 n1 x1, .slice b1 m1 y1, .slice c1 k1 z1]) (i := 1) (by simp) (by simp)
  have q_4 : (w.alloc (.cells #[.bool e1, .slice a1 n1 x1, .slice b1 m1 y1, .slice c1 k1 z1] 26)).cell? ⟨w.heap.size, 2, none⟩ = some (.slice b1 m1 y1) := HD_1.out.cell (b := w.heap.size) (vs := [.bool e1, .slice a1 n1 x1, .slice b1 m1 y1, .slice c1 k1 z1]) (i := 2) (by simp) (by simp)
  have q_5 : (w.alloc (.cells #[.bool e1, .slice a1 n1 x1, .slice b1 m1 y1, .slice c1 k1 z1] 26)).cell? ⟨w.heap.size, 3, none⟩ = some (.slice c1 k1 z1) := HD_1.out.cell (b := w.heap.size) (vs := [.bool e1, .slice a1 n1 x1, .slice b1 m1 y1, .slice c1 k1 z1]) (i := 3) (by simp) (by simp)
  go_wp2_with fail
  refine (szQuery_any 0 w.heap.size e1 a1 b1 c1 n1 x1 m1 y1 k1 z1 o1 t1 f1 1048576 _ (HR1.out.below HD_1.out.bel (Nat.le_refl _)) HD_1.out.bel.size HMX1.out (by omega)).mono ?_
  rintro e w1 ⟨u1, rfl, HX1, hb1⟩
  clear q_2 q_3 q_4 q_5
  have HD_6 : Hid (Hold w w1 [(w.heap.size, [.bool e1, .slice a1 n1 x1, .slice b1 m1 y1, .slice c1 k1 z1])]) := HD_1.out.below hb1.out
  clear HD_1 hb1
  by_cases hx1 : u1 < 0
  · go_wp2
    go_ret
    exact ⟨rfl, HD_6.out.bel⟩
  have HX1b := HX1.out.resolve_left hx1
  obtain ⟨v1, rfl, hv1, hq1⟩ := HX1b
  have HM1 : Hid (QLe 1048576 n1 m1 k1 o1 t1 f1) := hq1.mono (by omega)
  clear HX1 HMX1 hq1
  have ZZ7 : Hid (w.heap.size < w1.heap.size) := HD_6.out.lt (b := w.heap.size) (vs := [.bool e1, .slice a1 n1 x1, .slice b1 m1 y1, .slice c1 k1 z1]) (by simp)
  have q_9 : w1.cell? ⟨w.heap.size, 0, none⟩ = some (.bool e1) := HD_6.out.cell (b := w.heap.size) (vs := [.bool e1, .slice a1 n1 x1, .slice b1 m1 y1, .slice c1 k1 z1]) (i := 0) (by simp) (by simp)
  have q_10 : w1.cell? ⟨w.heap.size, 1, none⟩ = some (.slice a1 n1 x1) := HD_6.out.cell (b := w.heap.size) (vs := [.bool e1, .slice a1 n1 x1, .slice b1 m1 y1, .slice c1 k1 z1]) (i := 1) (by simp) (by simp)
  have q_11 : w1.cell? ⟨w.heap.size, 2, none⟩ = some (.slice b1 m1 y1) := HD_6.out.cell (b := w.heap.size) (vs := [.bool e1, .slice a1 n1 x1, .slice b1 m1 y1, .slice c1 k1 z1]) (i := 2) (by simp) (by simp)
  have q_12 : w1.cell? ⟨w.heap.size, 3, none⟩ = some (.slice c1 k1 z1) := HD_6.out.cell (b := w.heap.size) (vs := [.bool e1, .slice a1 n1 x1, .slice b1 m1 y1, .slice c1 k1 z1]) (i := 3) (by simp) (by simp)
  go_wp2_with fail
  refine (toQuery_any 0 w.heap.size e1 a1 b1 c1 n1 x1 m1 y1 k1 z1 o1 t1 f1 _ (HR1.out.below HD_6.out.bel (Nat.le_refl _)) HD_6.out.bel.size HM1.out.1).mono ?_
  rintro e w10 ⟨gp1a, gp1b, gp1c, rfl, X_8, B_13⟩
  clear q_9 q_10 q_11 q_12
  have HD_14 : Hid (Hold w w10 [(w.heap.size, [.bool e1, .slice a1 n1 x1, .slice b1 m1 y1, .slice c1 k1 z1])]) := HD_6.out.below B_13.out
  clear HD_6
  have ZZ15 : Hid (w1.heap.size ≤ w10.heap.size) := B_13.out.size
  clear B_13
  have T1_16 : Hid (QOwn w1.heap.size w10.heap.size w10 (some ⟨gp1a, 0, none⟩) (some ⟨gp1b, 0, none⟩) (some ⟨gp1c, 0, none⟩) n1 m1 k1 (tC o1) (aC t1) (fC f1)) := X_8.out
  clear X_8
  go_wp2_with fail
  refine (specQueryOk_any w1.heap.size w10.heap.size e1 (some ⟨gp1a, 0, none⟩) (some ⟨gp1b, 0, none⟩) (some ⟨gp1c, 0, none⟩) n1 n1 m1 m1 k1 k1 o1 t1 f1 r _ T1_16.out.toIn (by have y0 := ZZ7.out; have y1 := ZZ15.out; omega) HL1.out HM1.out ⟨Nat.le_refl _, by have := HM1.out.1; omega⟩ HRR.out).mono ?_
  rintro e w11 ⟨rfl, B_17⟩
  have HD_18 : Hid (Hold w w11 [(w.heap.size, [.bool e1, .slice a1 n1 x1, .slice b1 m1 y1, .slice c1 k1 z1])]) := HD_14.out.below B_17.out
  clear HD_14
  have ZZ19 : Hid (w10.heap.size ≤ w11.heap.size) := B_17.out.size
  have T1_19 : Hid (QOwn w1.heap.size w10.heap.size w11 (some ⟨gp1a, 0, none⟩) (some ⟨gp1b, 0, none⟩) (some ⟨gp1c, 0, none⟩) n1 m1 k1 (tC o1) (aC t1) (fC f1)) := T1_16.out.below B_17.out (by have y0 := ZZ7.out; have y1 := ZZ15.out; have y2 := ZZ19.out; omega)
  clear T1_16
  clear B_17
  clear T1_19
  have q_21 : w11.cell? ⟨w.heap.size, 0, none⟩ = some (.bool e1) := HD_18.out.cell (b := w.heap.size) (vs := [.bool e1, .slice a1 n1 x1, .slice b1 m1 y1, .slice c1 k1 z1]) (i := 0) (by simp) (by simp)
  have q_22 : w11.cell? ⟨w.heap.size, 1, none⟩ = some (.slice a1 n1 x1) := HD_18.out.cell (b := w.heap.size) (vs := [.bool e1, .slice a1 n1 x1, .slice b1 m1 y1, .slice c1 k1 z1]) (i := 1) (by simp) (by simp)
  have q_23 : w11.cell? ⟨w.heap.size, 2, none⟩ = some (.slice b1 m1 y1) := HD_18.out.cell (b := w.heap.size) (vs := [.bool e1, .slice a1 n1 x1, .slice b1 m1 y1, .slice c1 k1 z1]) (i := 2) (by simp) (by simp)
  have q_24 : w11.cell? ⟨w.heap.size, 3, none⟩ = some (.slice c1 k1 z1) := HD_18.out.cell (b := w.heap.size) (vs := [.bool e1, .slice a1 n1 x1, .slice b1 m1 y1, .slice c1 k1 z1]) (i := 3) (by simp) (by simp)
  go_wp2_with fail
  refine (toQuery_any 0 w.heap.size e1 a1 b1 c1 n1 x1 m1 y1 k1 z1 o1 t1 f1 _ (HR1.out.below HD_18.out.bel (Nat.le_refl _)) HD_18.out.bel.size HM1.out.1).mono ?_
  rintro e w12 ⟨gx1a, gx1b, gx1c, rfl, X_20, B_25⟩
  clear q_21 q_22 q_23 q_24
  have HD_26 : Hid (Hold w w12 [(w.heap.size, [.bool e1, .slice a1 n1 x1, .slice b1 m1 y1, .slice c1 k1 z1])]) := HD_18.out.below B_25.out
  clear HD_18
  have ZZ27 : Hid (w11.heap.size ≤ w12.heap.size) := B_25.out.size
  clear B_25
  have X1q_28 : Hid (QOwn w11.heap.size w12.heap.size w12 (some ⟨gx1a, 0, none⟩) (some ⟨gx1b, 0, none⟩) (some ⟨gx1c, 0, none⟩) n1 m1 k1 (tC o1) (aC t1) (fC f1)) := X_20.out
  clear X_20
  have BA_29 : Hid (Below w12.heap.size w12 (w12.alloc (.cells #[.bool e1, .slice (some ⟨gx1a, 0, none⟩) n1 n1, .slice (some ⟨gx1b, 0, none⟩) m1 m1, .slice (some ⟨gx1c, 0, none⟩) k1 k1] 32))) := below1' w12 _
  have HD_30 : Hid (Hold w (w12.alloc (.cells #[.bool e1, .slice (some ⟨gx1a, 0, none⟩) n1 n1, .slice (some ⟨gx1b, 0, none⟩) m1 m1, .slice (some ⟨gx1c, 0, none⟩) k1 k1] 32)) [(w12.heap.size, [.bool e1, .slice (some ⟨gx1a, 0, none⟩) n1 n1, .slice (some ⟨gx1b, 0, none⟩) m1 m1, .slice (some ⟨gx1c, 0, none⟩) k1 k1]), (w.heap.size, [.bool e1, .slice a1 n1 x1, .slice b1 m1 y1, .slice c1 k1 z1])]) := HD_26.out.more [.bool e1, .slice (some ⟨gx1a, 0, none⟩) n1 n1, .slice (some ⟨gx1b, 0, none⟩) m1 m1, .slice (some ⟨gx1c, 0, none⟩) k1 k1] 32
  clear HD_26
  have ZZ31 : Hid ((w12.alloc (.cells #[.bool e1, .slice (some ⟨gx1a, 0, none⟩) n1 n1, .slice (some ⟨gx1b, 0, none⟩) m1 m1, .slice (some ⟨gx1c, 0, none⟩) k1 k1] 32)).heap.size = w12.heap.size + 1) := by show _ = _; simp
  have ZZ32 : Hid (w12.heap.size ≤ (w12.alloc (.cells #[.bool e1, .slice (some ⟨gx1a, 0, none⟩) n1 n1, .slice (some ⟨gx1b, 0, none⟩) m1 m1, .slice (some ⟨gx1c, 0, none⟩) k1 k1] 32)).heap.size) := BA_29.out.size
  have X1q_32 : Hid (QOwn w11.heap.size w12.heap.size (w12.alloc (.cells #[.bool e1, .slice (some ⟨gx1a, 0, none⟩) n1 n1, .slice (some ⟨gx1b, 0, none⟩) m1 m1, .slice (some ⟨gx1c, 0, none⟩) k1 k1] 32)) (some ⟨gx1a, 0, none⟩) (some ⟨gx1b, 0, none⟩) (some ⟨gx1c, 0, none⟩) n1 m1 k1 (tC o1) (aC t1) (fC f1)) := X1q_28.out.below BA_29.out (by have y0 := ZZ7.out; have y1 := ZZ15.out; have y2 := ZZ19.out; have y3 := ZZ27.out; have y4 := ZZ31.out; have y5 := ZZ32.out; omega)
  clear X1q_28
  clear BA_29
  have q_33 : (w12.alloc (.cells #[.bool e1, .slice (some ⟨gx1a, 0, none⟩) n1 n1, .slice (some ⟨gx1b, 0, none⟩) m1 m1, .slice (some ⟨gx1c, 0, none⟩) k1 k1] 32)).cell? ⟨w12.heap.size, 0, none⟩ = some (.bool e1) := HD_30.out.cell (b := w12.heap.size) (vs := [.bool e1, .slice (some ⟨gx1a, 0, none⟩) n1 n1, .slice (some ⟨gx1b, 0, none⟩) m1 m1, .slice (some ⟨gx1c, 0, none⟩) k1 k1]) (i := 0) (by simp) (by simp)
  have q_34 : (w12.alloc (.cells #[.bool e1, .slice (some ⟨gx1a, 0, none⟩) n1 n1, .slice (some ⟨gx1b, 0, none⟩) m1 m1, .slice (some ⟨gx1c, 0, none⟩) k1 k1] 32)).cell? ⟨w12.heap.size, 1, none⟩ = some (.slice (some ⟨gx1a, 0, none⟩) n1 n1) := HD_30.out.cell (b := w12.heap.size) (vs := [.bool e1, .slice (some ⟨gx1a, 0, none⟩) n1 n1, .slice (some ⟨gx1b, 0, none⟩) m1 m1, .slice (some ⟨gx1c, 0, none⟩) k1 k1]) (i := 1) (by simp) (by simp)
  have q_35 : (w12.alloc (.cells #[.bool e1, .slice (some ⟨gx1a, 0, none⟩) n1 n1, .slice (some ⟨gx1b, 0, none⟩) m1 m1, .slice (some ⟨gx1c, 0, none⟩) k1 k1] 32)).cell? ⟨w12.heap.size, 2, none⟩ = some (.slice (some ⟨gx1b, 0, none⟩) m1 m1) := HD_30.out.cell (b := w12.heap.size) (vs := [.bool e1, .slice (some ⟨gx1a, 0, none⟩) n1 n1, .slice (some ⟨gx1b, 0, none⟩) m1 m1, .slice (some ⟨gx1c, 0, none⟩) k1 k1]) (i := 2) (by simp) (by simp)
  have q_36 : (w12.alloc (.cells #[.bool e1, .slice (some ⟨gx1a, 0, none⟩) n1 n1, .slice (some ⟨gx1b, 0, none⟩) m1 m1, .slice (some ⟨gx1c, 0, none⟩) k1 k1] 32)).cell? ⟨w12.heap.size, 3, none⟩ = some (.slice (some ⟨gx1c, 0, none⟩) k1 k1) := HD_30.out.cell (b := w12.heap.size) (vs := [.bool e1, .slice (some ⟨gx1a, 0, none⟩) n1 n1, .slice (some ⟨gx1b, 0, none⟩) m1 m1, .slice (some ⟨gx1c, 0, none⟩) k1 k1]) (i := 3) (by simp) (by simp)
  go_wp2_with fail
  refine (implQueryOk_any w11.heap.size w12.heap.size e1 (some ⟨gx1a, 0, none⟩) (some ⟨gx1b, 0, none⟩) (some ⟨gx1c, 0, none⟩) n1 n1 m1 m1 k1 k1 o1 t1 f1 r _ X1q_32.out.toIn (by have y0 := ZZ7.out; have y1 := ZZ15.out; have y2 := ZZ19.out; have y3 := ZZ27.out; have y4 := ZZ31.out; have y5 := ZZ32.out; omega) HL1.out HM1.out ⟨Nat.le_refl _, by have := HM1.out.1; omega⟩ HRR.out).mono ?_
  rintro e w20 ⟨rfl, B_37⟩
  clear q_33 q_34 q_35 q_36
  have HD_38 : Hid (Hold w w20 [(w12.heap.size, [.bool e1, .slice (some ⟨gx1a, 0, none⟩) n1 n1, .slice (some ⟨gx1b, 0, none⟩) m1 m1, .slice (some ⟨gx1c, 0, none⟩) k1 k1]), (w.heap.size, [.bool e1, .slice a1 n1 x1, .slice b1 m1 y1, .slice c1 k1 z1])]) := HD_30.out.below B_37.out
  clear HD_30
  have ZZ39 : Hid ((w12.alloc (.cells #[.bool e1, .slice (some ⟨gx1a, 0, none⟩) n1 n1, .slice (some ⟨gx1b, 0, none⟩) m1 m1, .slice (some ⟨gx1c, 0, none⟩) k1 k1] 32)).heap.size ≤ w20.heap.size) := B_37.out.size
  have X1q_39 : Hid (QOwn w11.heap.size w12.heap.size w20 (some ⟨gx1a, 0, none⟩) (some ⟨gx1b, 0, none⟩) (some ⟨gx1c, 0, none⟩) n1 m1 k1 (tC o1) (aC t1) (fC f1)) := X1q_32.out.below B_37.out (by have y0 := ZZ7.out; have y1 := ZZ15.out; have y2 := ZZ19.out; have y3 := ZZ27.out; have y4 := ZZ31.out; have y5 := ZZ32.out; have y6 := ZZ39.out; omega)
  clear X1q_32
  clear B_37
  have q_40 : w20.cell? ⟨w12.heap.size, 0, none⟩ = some (.bool e1) := HD_38.out.cell (b := w12.heap.size) (vs := [.bool e1, .slice (some ⟨gx1a, 0, none⟩) n1 n1, .slice (some ⟨gx1b, 0, none⟩) m1 m1, .slice (some ⟨gx1c, 0, none⟩) k1 k1]) (i := 0) (by simp) (by simp)
  have q_41 : w20.cell? ⟨w12.heap.size, 1, none⟩ = some (.slice (some ⟨gx1a, 0, none⟩) n1 n1) := HD_38.out.cell (b := w12.heap.size) (vs := [.bool e1, .slice (some ⟨gx1a, 0, none⟩) n1 n1, .slice (some ⟨gx1b, 0, none⟩) m1 m1, .slice (some ⟨gx1c, 0, none⟩) k1 k1]) (i := 1) (by simp) (by simp)
  have q_42 : w20.cell? ⟨w12.heap.size, 2, none⟩ = some (.slice (some ⟨gx1b, 0, none⟩) m1 m1) := HD_38.out.cell (b := w12.heap.size) (vs := [.bool e1, .slice (some ⟨gx1a, 0, none⟩) n1 n1, .slice (some ⟨gx1b, 0, none⟩) m1 m1, .slice (some ⟨gx1c, 0, none⟩) k1 k1]) (i := 2) (by simp) (by simp)
  have q_43 : w20.cell? ⟨w12.heap.size, 3, none⟩ = some (.slice (some ⟨gx1c, 0, none⟩) k1 k1) := HD_38.out.cell (b := w12.heap.size) (vs := [.bool e1, .slice (some ⟨gx1a, 0, none⟩) n1 n1, .slice (some ⟨gx1b, 0, none⟩) m1 m1, .slice (some ⟨gx1c, 0, none⟩) k1 k1]) (i := 3) (by simp) (by simp)
  have q_44 : w20.cell? ⟨w.heap.size, 0, none⟩ = some (.bool e1) := HD_38.out.cell (b := w.heap.size) (vs := [.bool e1, .slice a1 n1 x1, .slice b1 m1 y1, .slice c1 k1 z1]) (i := 0) (by simp) (by simp)
  have q_45 : w20.cell? ⟨w.heap.size, 1, none⟩ = some (.slice a1 n1 x1) := HD_38.out.cell (b := w.heap.size) (vs := [.bool e1, .slice a1 n1 x1, .slice b1 m1 y1, .slice c1 k1 z1]) (i := 1) (by simp) (by simp)
  have q_46 : w20.cell? ⟨w.heap.size, 2, none⟩ = some (.slice b1 m1 y1) := HD_38.out.cell (b := w.heap.size) (vs := [.bool e1, .slice a1 n1 x1, .slice b1 m1 y1, .slice c1 k1 z1]) (i := 2) (by simp) (by simp)
  have q_47 : w20.cell? ⟨w.heap.size, 3, none⟩ = some (.slice c1 k1 z1) := HD_38.out.cell (b := w.heap.size) (vs := [.bool e1, .slice a1 n1 x1, .slice b1 m1 y1, .slice c1 k1 z1]) (i := 3) (by simp) (by simp)
  have HC1 : Hid (∀ w0, Below w20.heap.size w20 w0 → Calls Tryz.prog 7 #[qv e1 a1 n1 x1 b1 m1 y1 c1 k1 z1] w0 fun e w' => ∃ g1 g2 g3 : Nat, e = .returned (.agg #[.bool e1, .slice (some ⟨g1, 0, none⟩) n1 n1, .slice (some ⟨g2, 0, none⟩) m1 m1, .slice (some ⟨g3, 0, none⟩) k1 k1]) ∧ Hid (QIn w20.heap.size w'.heap.size w' (some ⟨g1, 0, none⟩) (some ⟨g2, 0, none⟩) (some ⟨g3, 0, none⟩) n1 m1 k1 (tC o1) (aC t1) (fC f1)) ∧ Hid (Below w20.heap.size w20 w') ∧ (w'.cell? ⟨w12.heap.size, 0, none⟩ = some (.bool e1) ∧ w'.cell? ⟨w12.heap.size, 1, none⟩ = some (.slice (some ⟨gx1a, 0, none⟩) n1 n1) ∧ w'.cell? ⟨w12.heap.size, 2, none⟩ = some (.slice (some ⟨gx1b, 0, none⟩) m1 m1) ∧ w'.cell? ⟨w12.heap.size, 3, none⟩ = some (.slice (some ⟨gx1c, 0, none⟩) k1 k1) ∧ w'.cell? ⟨w.heap.size, 0, none⟩ = some (.bool e1) ∧ w'.cell? ⟨w.heap.size, 1, none⟩ = some (.slice a1 n1 x1) ∧ w'.cell? ⟨w.heap.size, 2, none⟩ = some (.slice b1 m1 y1) ∧ w'.cell? ⟨w.heap.size, 3, none⟩ = some (.slice c1 k1 z1))) := fun w0 h =>
    (toQuery_any 0 w.heap.size e1 a1 b1 c1 n1 x1 m1 y1 k1 z1 o1 t1 f1 w0 (HR1.out.below (HD_38.out.below h).bel (Nat.le_refl _)) (HD_38.out.below h).bel.size HM1.out.1).mono fun _ w' ⟨g1, g2, g3, h1, h2, h4⟩ =>
      have h3 : Hid (Hold w w' [(w12.heap.size, [.bool e1, .slice (some ⟨gx1a, 0, none⟩) n1 n1, .slice (some ⟨gx1b, 0, none⟩) m1 m1, .slice (some ⟨gx1c, 0, none⟩) k1 k1]), (w.heap.size, [.bool e1, .slice a1 n1 x1, .slice b1 m1 y1, .slice c1 k1 z1])]) := (HD_38.out.below h).below h4.out
      ⟨g1, g2, g3, h1, h2.out.toIn.wide h.size (Nat.le_refl _), h.trans (h4.out.mono h.size), h3.out.cell (b := w12.heap.size) (vs := [.bool e1, .slice (some ⟨gx1a, 0, none⟩) n1 n1, .slice (some ⟨gx1b, 0, none⟩) m1 m1, .slice (some ⟨gx1c, 0, none⟩) k1 k1]) (i := 0) (by simp) (by simp), h3.out.cell (b := w12.heap.size) (vs := [.bool e1, .slice (some ⟨gx1a, 0, none⟩) n1 n1, .slice (some ⟨gx1b, 0, none⟩) m1 m1, .slice (some ⟨gx1c, 0, none⟩) k1 k1]) (i := 1) (by simp) (by simp), h3.out.cell (b := w12.heap.size) (vs := [.bool e1, .slice (some ⟨gx1a, 0, none⟩) n1 n1, .slice (some ⟨gx1b, 0, none⟩) m1 m1, .slice (some ⟨gx1c, 0, none⟩) k1 k1]) (i := 2) (by simp) (by simp), h3.out.cell (b := w12.heap.size) (vs := [.bool e1, .slice (some ⟨gx1a, 0, none⟩) n1 n1, .slice (some ⟨gx1b, 0, none⟩) m1 m1, .slice (some ⟨gx1c, 0, none⟩) k1 k1]) (i := 3) (by simp) (by simp), h3.out.cell (b := w.heap.size) (vs := [.bool e1, .slice a1 n1 x1, .slice b1 m1 y1, .slice c1 k1 z1]) (i := 0) (by simp) (by simp), h3.out.cell (b := w.heap.size) (vs := [.bool e1, .slice a1 n1 x1, .slice b1 m1 y1, .slice c1 k1 z1]) (i := 1) (by simp) (by simp), h3.out.cell (b := w.heap.size) (vs := [.bool e1, .slice a1 n1 x1, .slice b1 m1 y1, .slice c1 k1 z1]) (i := 2) (by simp) (by simp), h3.out.cell (b := w.heap.size) (vs := [.bool e1, .slice a1 n1 x1, .slice b1 m1 y1, .slice c1 k1 z1]) (i := 3) (by simp) (by simp)⟩
  have HC2 : Hid (∀ (g1 g2 g3 : Nat) w0, Below w20.heap.size w20 w0 → QIn w20.heap.size w0.heap.size w0 (some ⟨g1, 0, none⟩) (some ⟨g2, 0, none⟩) (some ⟨g3, 0, none⟩) n1 m1 k1 (tC o1) (aC t1) (fC f1) → Calls Tryz.prog 9 #[.agg #[.bool e1, .slice (some ⟨gx1a, 0, none⟩) n1 n1, .slice (some ⟨gx1b, 0, none⟩) m1 m1, .slice (some ⟨gx1c, 0, none⟩) k1 k1], .agg #[.bool e1, .slice (some ⟨g1, 0, none⟩) n1 n1, .slice (some ⟨g2, 0, none⟩) m1 m1, .slice (some ⟨g3, 0, none⟩) k1 k1]] w0 fun e w' => e = .returned (.bool true) ∧ Hid (Below w20.heap.size w20 w') ∧ (w'.cell? ⟨w12.heap.size, 0, none⟩ = some (.bool e1) ∧ w'.cell? ⟨w12.heap.size, 1, none⟩ = some (.slice (some ⟨gx1a, 0, none⟩) n1 n1) ∧ w'.cell? ⟨w12.heap.size, 2, none⟩ = some (.slice (some ⟨gx1b, 0, none⟩) m1 m1) ∧ w'.cell? ⟨w12.heap.size, 3, none⟩ = some (.slice (some ⟨gx1c, 0, none⟩) k1 k1) ∧ w'.cell? ⟨w.heap.size, 0, none⟩ = some (.bool e1) ∧ w'.cell? ⟨w.heap.size, 1, none⟩ = some (.slice a1 n1 x1) ∧ w'.cell? ⟨w.heap.size, 2, none⟩ = some (.slice b1 m1 y1) ∧ w'.cell? ⟨w.heap.size, 3, none⟩ = some (.slice c1 k1 z1))) := fun g1 g2 g3 w0 h hx =>
    (eqQuery_any w11.heap.size w12.heap.size w20.heap.size w0.heap.size e1 e1 (some ⟨gx1a, 0, none⟩) (some ⟨gx1b, 0, none⟩) (some ⟨gx1c, 0, none⟩) n1 n1 m1 m1 k1 k1 o1 t1 f1 (some ⟨g1, 0, none⟩) (some ⟨g2, 0, none⟩) (some ⟨g3, 0, none⟩) n1 n1 m1 m1 k1 k1 o1 t1 f1 true w0 (X1q_39.out.below h (by have y0 := ZZ7.out; have y1 := ZZ15.out; have y2 := ZZ19.out; have y3 := ZZ27.out; have y4 := ZZ31.out; have y5 := ZZ32.out; have y6 := ZZ39.out; omega)).toIn hx (by have yy := h.size; have y0 := ZZ7.out; have y1 := ZZ15.out; have y2 := ZZ19.out; have y3 := ZZ27.out; have y4 := ZZ31.out; have y5 := ZZ32.out; have y6 := ZZ39.out; omega) (Nat.le_refl _) HL1.out HL1.out HM1.out.1 (by simp)).mono fun _ w' ⟨h1, h4⟩ =>
      have h3 : Hid (Hold w w' [(w12.heap.size, [.bool e1, .slice (some ⟨gx1a, 0, none⟩) n1 n1, .slice (some ⟨gx1b, 0, none⟩) m1 m1, .slice (some ⟨gx1c, 0, none⟩) k1 k1]), (w.heap.size, [.bool e1, .slice a1 n1 x1, .slice b1 m1 y1, .slice c1 k1 z1])]) := (HD_38.out.below h).below h4.out
      ⟨h1, h.trans (h4.out.mono h.size), h3.out.cell (b := w12.heap.size) (vs := [.bool e1, .slice (some ⟨gx1a, 0, none⟩) n1 n1, .slice (some ⟨gx1b, 0, none⟩) m1 m1, .slice (some ⟨gx1c, 0, none⟩) k1 k1]) (i := 0) (by simp) (by simp), h3.out.cell (b := w12.heap.size) (vs := [.bool e1, .slice (some ⟨gx1a, 0, none⟩) n1 n1, .slice (some ⟨gx1b, 0, none⟩) m1 m1, .slice (some ⟨gx1c, 0, none⟩) k1 k1]) (i := 1) (by simp) (by simp), h3.out.cell (b := w12.heap.size) (vs := [.bool e1, .slice (some ⟨gx1a, 0, none⟩) n1 n1, .slice (some ⟨gx1b, 0, none⟩) m1 m1, .slice (some ⟨gx1c, 0, none⟩) k1 k1]) (i := 2) (by simp) (by simp), h3.out.cell (b := w12.heap.size) (vs := [.bool e1, .slice (some ⟨gx1a, 0, none⟩) n1 n1, .slice (some ⟨gx1b, 0, none⟩) m1 m1, .slice (some ⟨gx1c, 0, none⟩) k1 k1]) (i := 3) (by simp) (by simp), h3.out.cell (b := w.heap.size) (vs := [.bool e1, .slice a1 n1 x1, .slice b1 m1 y1, .slice c1 k1 z1]) (i := 0) (by simp) (by simp), h3.out.cell (b := w.heap.size) (vs := [.bool e1, .slice a1 n1 x1, .slice b1 m1 y1, .slice c1 k1 z1]) (i := 1) (by simp) (by simp), h3.out.cell (b := w.heap.size) (vs := [.bool e1, .slice a1 n1 x1, .slice b1 m1 y1, .slice c1 k1 z1]) (i := 2) (by simp) (by simp), h3.out.cell (b := w.heap.size) (vs := [.bool e1, .slice a1 n1 x1, .slice b1 m1 y1, .slice c1 k1 z1]) (i := 3) (by simp) (by simp)⟩
  go_wp2_with fail
  go_region_held3 (fun w' => w'.cell? ⟨w12.heap.size, 0, none⟩ = some (.bool e1) ∧ w'.cell? ⟨w12.heap.size, 1, none⟩ = some (.slice (some ⟨gx1a, 0, none⟩) n1 n1) ∧ w'.cell? ⟨w12.heap.size, 2, none⟩ = some (.slice (some ⟨gx1b, 0, none⟩) m1 m1) ∧ w'.cell? ⟨w12.heap.size, 3, none⟩ = some (.slice (some ⟨gx1c, 0, none⟩) k1 k1) ∧ w'.cell? ⟨w.heap.size, 0, none⟩ = some (.bool e1) ∧ w'.cell? ⟨w.heap.size, 1, none⟩ = some (.slice a1 n1 x1) ∧ w'.cell? ⟨w.heap.size, 2, none⟩ = some (.slice b1 m1 y1) ∧ w'.cell? ⟨w.heap.size, 3, none⟩ = some (.slice c1 k1 z1)) (first | exact ⟨q_40, q_41, q_42, q_43, q_44, q_45, q_46, q_47⟩ | exact hk9 | exact hk10) (first | (go_at_call 7; refine (HC1.out _ ((Below.refl _ _).drew)).mono ?_; rintro e w22 ⟨g90, g91, g92, rfl, X9, B9, hk9⟩) | (go_at_call 9; refine (HC2.out _ _ _ _ B9.out X9.out).mono ?_; rintro e w23 ⟨rfl, B10, hk10⟩))
  clear q_40 q_41 q_42 q_43 q_44 q_45 q_46 q_47
  clear hk9 hk10 B9 X9 HC1 HC2
  have HD_48 : Hid (Hold w w23 [(w12.heap.size, [.bool e1, .slice (some ⟨gx1a, 0, none⟩) n1 n1, .slice (some ⟨gx1b, 0, none⟩) m1 m1, .slice (some ⟨gx1c, 0, none⟩) k1 k1]), (w.heap.size, [.bool e1, .slice a1 n1 x1, .slice b1 m1 y1, .slice c1 k1 z1])]) := HD_38.out.below B10.out
  clear HD_38
  have ZZ49 : Hid (w20.heap.size ≤ w23.heap.size) := B10.out.size
  have X1q_49 : Hid (QOwn w11.heap.size w12.heap.size w23 (some ⟨gx1a, 0, none⟩) (some ⟨gx1b, 0, none⟩) (some ⟨gx1c, 0, none⟩) n1 m1 k1 (tC o1) (aC t1) (fC f1)) := X1q_39.out.below B10.out (by have y0 := ZZ7.out; have y1 := ZZ15.out; have y2 := ZZ19.out; have y3 := ZZ27.out; have y4 := ZZ31.out; have y5 := ZZ32.out; have y6 := ZZ39.out; have y7 := ZZ49.out; omega)
  clear X1q_39
  clear B10
  go_wp2
  go_ret
  exact ⟨rfl, HD_48.out.bel⟩
end Go.Proofs.YtbepmeipjdpipaaGreat
