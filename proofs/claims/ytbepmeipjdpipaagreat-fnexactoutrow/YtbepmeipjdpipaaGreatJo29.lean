import Derived.Test.YtbepmeipjdpipaaGreatJo27
import Derived.Test.YtbepmeipjdpipaaGreatJo28
import Derived.Test.YtbepmeipjdpipaaGreatJo04
import Derived.Deep.RegionHeld3
namespace Go.Proofs.YtbepmeipjdpipaaGreat
open Go.RowKit
set_option maxHeartbeats 16000000 in
set_option maxRecDepth 100000 in
theorem law_4 (e1 : Bool) (a1 : Option Addr) (n1 x1 : Nat) (b1 : Option Addr) (m1 y1 : Nat) (c1 : Option Addr) (k1 z1 : Nat) (o1 : List Tx) (t1 : List At) (f1 : List Fl) (a2 : Option Addr) (n2 x2 : Nat) (l2 : List Int) (w : World) (hl1 : o1.length = n1 ∧ t1.length = m1 ∧ f1.length = k1) (hz1 : QLe maxLen n1 m1 k1 o1 t1 f1) (hr1 : QIn 0 w.heap.size w a1 b1 c1 n1 m1 k1 (tC o1) (aC t1) (fC f1)) (hl2 : l2.length = n2) (hr2 : RowIn 0 w.heap.size w a2 l2) :
  Calls Tryz.prog 4 #[qv e1 a1 n1 x1 b1 m1 y1 c1 k1 z1, .slice a2 n2 x2] w fun e w' => e = .returned (.bool true) ∧ Below w.heap.size w w' := by
 have HR1 : Hid (QIn 0 w.heap.size w a1 b1 c1 n1 m1 k1 (tC o1) (aC t1) (fC f1)) := hr1
 have HL1 : Hid (o1.length = n1 ∧ t1.length = m1 ∧ f1.length = k1) := hl1
 have HMX1 : Hid (QLe 9223372036854775807 n1 m1 k1 o1 t1 f1) := hz1
 clear hr1 hl1 hz1
 have HR2 : Hid (RowIn 0 w.heap.size w a2 l2) := hr2
 have HL2 : Hid (l2.length = n2) := hl2
 clear hr2 hl2
 obtain ⟨R, HRL⟩ : ∃ l, Hid (l = outR o1 t1 f1 l2) := ⟨_, rfl⟩
 have HNB : Hid (R.length ≤ n1) := by rw [HRL.out, ← HL1.out.1]; exact outR_len o1 t1 f1 l2
 go_enter Tryz.func4, Tryz.ntmps4
 by_cases hv : (n2 : Int) > 1048576
 ·go_wp2
  go_ret
  exact ⟨rfl, below1 w _⟩
 have hm2 : n2 ≤ 1048576 := by omega
 go_wp2_with fail
 refine (szQuery_any 0 w.heap.size e1 a1 b1 c1 n1 x1 m1 y1 k1 z1 o1 t1 f1 1048576 _ (HR1.out.below (below1 w _) (Nat.le_refl _)) (below1 w _).size HMX1.out (by omega)).mono ?_
 rintro e w1 ⟨u1, rfl, HX1, hb1⟩
 have HD_1 : Hid (Hold w w1 [(w.heap.size, [.bool e1, .slice a1 n1 x1, .slice b1 m1 y1, .slice c1 k1 z1])]) := ((Hold.none w).more [.bool e1, .slice a1 n1 x1, .slice b1 m1 y1, .slice c1 k1 z1] 26).below hb1.out
 clear hb1
 by_cases hx1 : u1 < 0
 ·go_wp2
  go_ret
  exact ⟨rfl, HD_1.out.bel⟩
 have HX1b := HX1.out.resolve_left hx1
 obtain ⟨v1, rfl, hv1, hq1⟩ := HX1b
 have HM1 : Hid (QLe 1048576 n1 m1 k1 o1 t1 f1) := hq1.mono (by omega)
 clear HX1 HMX1 hq1
 have ZZ2 : Hid (w.heap.size < w1.heap.size) := HD_1.out.lt (b := w.heap.size) (vs := [.bool e1, .slice a1 n1 x1, .slice b1 m1 y1, .slice c1 k1 z1]) (by simp)
 have q_4 : w1.cell? ⟨w.heap.size, 0, none⟩ = some (.bool e1) := HD_1.out.cell (b := w.heap.size) (vs := [.bool e1, .slice a1 n1 x1, .slice b1 m1 y1, .slice c1 k1 z1]) (i := 0) (by simp) (by simp)
 have q_5 : w1.cell? ⟨w.heap.size, 1, none⟩ = some (.slice a1 n1 x1) := HD_1.out.cell (b := w.heap.size) (vs := [.bool e1, .slice a1 n1 x1, .slice b1 m1 y1, .slice c1 k1 z1]) (i := 1) (by simp) (by simp)
 have q_6 : w1.cell? ⟨w.heap.size, 2, none⟩ = some (.slice b1 m1 y1) := HD_1.out.cell (b := w.heap.size) (vs := [.bool e1, .slice a1 n1 x1, .slice b1 m1 y1, .slice c1 k1 z1]) (i := 2) (by simp) (by simp)
 have q_7 : w1.cell? ⟨w.heap.size, 3, none⟩ = some (.slice c1 k1 z1) := HD_1.out.cell (b := w.heap.size) (vs := [.bool e1, .slice a1 n1 x1, .slice b1 m1 y1, .slice c1 k1 z1]) (i := 3) (by simp) (by simp)
 go_wp2_with fail
 refine (toQuery_any 0 w.heap.size e1 a1 b1 c1 n1 x1 m1 y1 k1 z1 o1 t1 f1 _ (HR1.out.below HD_1.out.bel (Nat.le_refl _)) HD_1.out.bel.size HM1.out.1).mono ?_
 rintro e w2 ⟨gpa, gpb, gpc, rfl, X_3, B_8⟩
 clear q_4 q_5 q_6 q_7
 have HD_9 : Hid (Hold w w2 [(w.heap.size, [.bool e1, .slice a1 n1 x1, .slice b1 m1 y1, .slice c1 k1 z1])]) := HD_1.out.below B_8.out
 clear HD_1
 have ZZ10 : Hid (w1.heap.size ≤ w2.heap.size) := B_8.out.size
 clear B_8
 have T1_11 : Hid (QOwn w1.heap.size w2.heap.size w2 (some ⟨gpa, 0, none⟩) (some ⟨gpb, 0, none⟩) (some ⟨gpc, 0, none⟩) n1 m1 k1 (tC o1) (aC t1) (fC f1)) := X_3.out
 clear X_3
 have q_13 : w2.cell? ⟨w.heap.size, 0, none⟩ = some (.bool e1) := HD_9.out.cell (b := w.heap.size) (vs := [.bool e1, .slice a1 n1 x1, .slice b1 m1 y1, .slice c1 k1 z1]) (i := 0) (by simp) (by simp)
 have q_14 : w2.cell? ⟨w.heap.size, 1, none⟩ = some (.slice a1 n1 x1) := HD_9.out.cell (b := w.heap.size) (vs := [.bool e1, .slice a1 n1 x1, .slice b1 m1 y1, .slice c1 k1 z1]) (i := 1) (by simp) (by simp)
 have q_15 : w2.cell? ⟨w.heap.size, 2, none⟩ = some (.slice b1 m1 y1) := HD_9.out.cell (b := w.heap.size) (vs := [.bool e1, .slice a1 n1 x1, .slice b1 m1 y1, .slice c1 k1 z1]) (i := 2) (by simp) (by simp)
 have q_16 : w2.cell? ⟨w.heap.size, 3, none⟩ = some (.slice c1 k1 z1) := HD_9.out.cell (b := w.heap.size) (vs := [.bool e1, .slice a1 n1 x1, .slice b1 m1 y1, .slice c1 k1 z1]) (i := 3) (by simp) (by simp)
 go_wp2_with fail
 refine (toInts_any 0 w.heap.size a2 n2 x2 l2 _ (HR2.out.below HD_9.out.bel (Nat.le_refl _)) HD_9.out.bel.size HL2.out hm2).mono ?_
 rintro e w2v ⟨rfl, X_12, B_17b, _⟩
 have B_17 : Hid (Below w2.heap.size w2 w2v) := B_17b
 clear B_17b
 clear q_13 q_14 q_15 q_16
 obtain ⟨gi12, Hgi12⟩ : ∃ g, Hid (g = w2.heap.size) := ⟨_, rfl⟩
 rw [← Hgi12.out]
 have HD_18 : Hid (Hold w w2v [(w.heap.size, [.bool e1, .slice a1 n1 x1, .slice b1 m1 y1, .slice c1 k1 z1])]) := HD_9.out.below B_17.out
 clear HD_9
 have ZZ19 : Hid (w2.heap.size ≤ w2v.heap.size) := B_17.out.size
 have T1_19 : Hid (QOwn w1.heap.size w2.heap.size w2v (some ⟨gpa, 0, none⟩) (some ⟨gpb, 0, none⟩) (some ⟨gpc, 0, none⟩) n1 m1 k1 (tC o1) (aC t1) (fC f1)) := T1_11.out.below B_17.out (by have y0 := ZZ2.out; have y1 := ZZ10.out; have y2 := ZZ19.out; omega)
 clear T1_11
 clear B_17
 have V1_20 : Hid (RowOwn w2.heap.size w2v.heap.size w2v (some ⟨gi12, 0, none⟩) l2) := by rw [Hgi12.out]; exact X_12
 clear X_12
 go_wp2_with fail
 refine (specOutRow_any w1.heap.size w2.heap.size e1 (some ⟨gpa, 0, none⟩) (some ⟨gpb, 0, none⟩) (some ⟨gpc, 0, none⟩) n1 n1 m1 m1 k1 k1 o1 t1 f1 w2.heap.size w2v.heap.size (some ⟨gi12, 0, none⟩) n2 n2 l2 _ T1_19.out.toIn (by have y0 := ZZ2.out; have y1 := ZZ10.out; have y2 := ZZ19.out; omega) HL1.out HM1.out ⟨Nat.le_refl _, by have := HM1.out.1; omega⟩ V1_20.out.toIn (by have y0 := ZZ2.out; have y1 := ZZ10.out; have y2 := ZZ19.out; omega) HL2.out).mono ?_
 rintro e w3 ⟨a3, q3, c3, rfl, Y_21, X_21, B_22⟩
 have HD_23 : Hid (Hold w w3 [(w.heap.size, [.bool e1, .slice a1 n1 x1, .slice b1 m1 y1, .slice c1 k1 z1])]) := HD_18.out.below B_22.out
 clear HD_18
 have ZZ24 : Hid (w2v.heap.size ≤ w3.heap.size) := B_22.out.size
 have T1_24 : Hid (QOwn w1.heap.size w2.heap.size w3 (some ⟨gpa, 0, none⟩) (some ⟨gpb, 0, none⟩) (some ⟨gpc, 0, none⟩) n1 m1 k1 (tC o1) (aC t1) (fC f1)) := T1_19.out.below B_22.out (by have y0 := ZZ2.out; have y1 := ZZ10.out; have y2 := ZZ19.out; have y3 := ZZ24.out; omega)
 have V1_24 : Hid (RowOwn w2.heap.size w2v.heap.size w3 (some ⟨gi12, 0, none⟩) l2) := V1_20.out.below B_22.out (by have y0 := ZZ2.out; have y1 := ZZ10.out; have y2 := ZZ19.out; have y3 := ZZ24.out; omega)
 clear T1_19 V1_20
 clear B_22
 rw [← HRL.out] at X_21 Y_21
 have W0_25 : Hid (RowOwn w2v.heap.size w3.heap.size w3 a3 R) := X_21.out
 clear X_21
 clear T1_24
 clear V1_24
 have HQ3 : Hid (q3 ≤ 1048576) := by have h1 := HNB.out; have h2 := Y_21.out; have h3 := HM1.out.1.1; show _ ≤ _; omega
 have q_27 : w3.cell? ⟨w.heap.size, 0, none⟩ = some (.bool e1) := HD_23.out.cell (b := w.heap.size) (vs := [.bool e1, .slice a1 n1 x1, .slice b1 m1 y1, .slice c1 k1 z1]) (i := 0) (by simp) (by simp)
 have q_28 : w3.cell? ⟨w.heap.size, 1, none⟩ = some (.slice a1 n1 x1) := HD_23.out.cell (b := w.heap.size) (vs := [.bool e1, .slice a1 n1 x1, .slice b1 m1 y1, .slice c1 k1 z1]) (i := 1) (by simp) (by simp)
 have q_29 : w3.cell? ⟨w.heap.size, 2, none⟩ = some (.slice b1 m1 y1) := HD_23.out.cell (b := w.heap.size) (vs := [.bool e1, .slice a1 n1 x1, .slice b1 m1 y1, .slice c1 k1 z1]) (i := 2) (by simp) (by simp)
 have q_30 : w3.cell? ⟨w.heap.size, 3, none⟩ = some (.slice c1 k1 z1) := HD_23.out.cell (b := w.heap.size) (vs := [.bool e1, .slice a1 n1 x1, .slice b1 m1 y1, .slice c1 k1 z1]) (i := 3) (by simp) (by simp)
 go_wp2_with fail
 refine (toQuery_any 0 w.heap.size e1 a1 b1 c1 n1 x1 m1 y1 k1 z1 o1 t1 f1 _ (HR1.out.below HD_23.out.bel (Nat.le_refl _)) HD_23.out.bel.size HM1.out.1).mono ?_
 rintro e w4 ⟨gxa, gxb, gxc, rfl, X_26, B_31⟩
 clear q_27 q_28 q_29 q_30
 have HD_32 : Hid (Hold w w4 [(w.heap.size, [.bool e1, .slice a1 n1 x1, .slice b1 m1 y1, .slice c1 k1 z1])]) := HD_23.out.below B_31.out
 clear HD_23
 have ZZ33 : Hid (w3.heap.size ≤ w4.heap.size) := B_31.out.size
 have W0_33 : Hid (RowOwn w2v.heap.size w3.heap.size w4 a3 R) := W0_25.out.below B_31.out (by have y0 := ZZ2.out; have y1 := ZZ10.out; have y2 := ZZ19.out; have y3 := ZZ24.out; have y4 := ZZ33.out; omega)
 clear W0_25
 clear B_31
 have X0_34 : Hid (QOwn w3.heap.size w4.heap.size w4 (some ⟨gxa, 0, none⟩) (some ⟨gxb, 0, none⟩) (some ⟨gxc, 0, none⟩) n1 m1 k1 (tC o1) (aC t1) (fC f1)) := X_26.out
 clear X_26
 have BA_35 : Hid (Below w4.heap.size w4 (w4.alloc (.cells #[.bool e1, .slice (some ⟨gxa, 0, none⟩) n1 n1, .slice (some ⟨gxb, 0, none⟩) m1 m1, .slice (some ⟨gxc, 0, none⟩) k1 k1] 32))) := below1' w4 _
 have HD_36 : Hid (Hold w (w4.alloc (.cells #[.bool e1, .slice (some ⟨gxa, 0, none⟩) n1 n1, .slice (some ⟨gxb, 0, none⟩) m1 m1, .slice (some ⟨gxc, 0, none⟩) k1 k1] 32)) [(w4.heap.size, [.bool e1, .slice (some ⟨gxa, 0, none⟩) n1 n1, .slice (some ⟨gxb, 0, none⟩) m1 m1, .slice (some ⟨gxc, 0, none⟩) k1 k1]), (w.heap.size, [.bool e1, .slice a1 n1 x1, .slice b1 m1 y1, .slice c1 k1 z1])]) := HD_32.out.more [.bool e1, .slice (some ⟨gxa, 0, none⟩) n1 n1, .slice (some ⟨gxb, 0, none⟩) m1 m1, .slice (some ⟨gxc, 0, none⟩) k1 k1] 32
 clear HD_32
 have ZZ37 : Hid ((w4.alloc (.cells #[.bool e1, .slice (some ⟨gxa, 0, none⟩) n1 n1, .slice (some ⟨gxb, 0, none⟩) m1 m1, .slice (some ⟨gxc, 0, none⟩) k1 k1] 32)).heap.size = w4.heap.size + 1) := by show _ = _; simp
 have ZZ38 : Hid (w4.heap.size ≤ (w4.alloc (.cells #[.bool e1, .slice (some ⟨gxa, 0, none⟩) n1 n1, .slice (some ⟨gxb, 0, none⟩) m1 m1, .slice (some ⟨gxc, 0, none⟩) k1 k1] 32)).heap.size) := BA_35.out.size
 have W0_38 : Hid (RowOwn w2v.heap.size w3.heap.size (w4.alloc (.cells #[.bool e1, .slice (some ⟨gxa, 0, none⟩) n1 n1, .slice (some ⟨gxb, 0, none⟩) m1 m1, .slice (some ⟨gxc, 0, none⟩) k1 k1] 32)) a3 R) := W0_33.out.below BA_35.out (by have y0 := ZZ2.out; have y1 := ZZ10.out; have y2 := ZZ19.out; have y3 := ZZ24.out; have y4 := ZZ33.out; have y5 := ZZ37.out; have y6 := ZZ38.out; omega)
 have X0_38 : Hid (QOwn w3.heap.size w4.heap.size (w4.alloc (.cells #[.bool e1, .slice (some ⟨gxa, 0, none⟩) n1 n1, .slice (some ⟨gxb, 0, none⟩) m1 m1, .slice (some ⟨gxc, 0, none⟩) k1 k1] 32)) (some ⟨gxa, 0, none⟩) (some ⟨gxb, 0, none⟩) (some ⟨gxc, 0, none⟩) n1 m1 k1 (tC o1) (aC t1) (fC f1)) := X0_34.out.below BA_35.out (by have y0 := ZZ2.out; have y1 := ZZ10.out; have y2 := ZZ19.out; have y3 := ZZ24.out; have y4 := ZZ33.out; have y5 := ZZ37.out; have y6 := ZZ38.out; omega)
 clear W0_33 X0_34
 clear BA_35
 have q_40 : (w4.alloc (.cells #[.bool e1, .slice (some ⟨gxa, 0, none⟩) n1 n1, .slice (some ⟨gxb, 0, none⟩) m1 m1, .slice (some ⟨gxc, 0, none⟩) k1 k1] 32)).cell? ⟨w.heap.size, 0, none⟩ = some (.bool e1) := HD_36.out.cell (b := w.heap.size) (vs := [.bool e1, .slice a1 n1 x1, .slice b1 m1 y1, .slice c1 k1 z1]) (i := 0) (by simp) (by simp)
 have q_41 : (w4.alloc (.cells #[.bool e1, .slice (some ⟨gxa, 0, none⟩) n1 n1, .slice (some ⟨gxb, 0, none⟩) m1 m1, .slice (some ⟨gxc, 0, none⟩) k1 k1] 32)).cell? ⟨w.heap.size, 1, none⟩ = some (.slice a1 n1 x1) := HD_36.out.cell (b := w.heap.size) (vs := [.bool e1, .slice a1 n1 x1, .slice b1 m1 y1, .slice c1 k1 z1]) (i := 1) (by simp) (by simp)
 have q_42 : (w4.alloc (.cells #[.bool e1, .slice (some ⟨gxa, 0, none⟩) n1 n1, .slice (some ⟨gxb, 0, none⟩) m1 m1, .slice (some ⟨gxc, 0, none⟩) k1 k1] 32)).cell? ⟨w.heap.size, 2, none⟩ = some (.slice b1 m1 y1) := HD_36.out.cell (b := w.heap.size) (vs := [.bool e1, .slice a1 n1 x1, .slice b1 m1 y1, .slice c1 k1 z1]) (i := 2) (by simp) (by simp)
 have q_43 : (w4.alloc (.cells #[.bool e1, .slice (some ⟨gxa, 0, none⟩) n1 n1, .slice (some ⟨gxb, 0, none⟩) m1 m1, .slice (some ⟨gxc, 0, none⟩) k1 k1] 32)).cell? ⟨w.heap.size, 3, none⟩ = some (.slice c1 k1 z1) := HD_36.out.cell (b := w.heap.size) (vs := [.bool e1, .slice a1 n1 x1, .slice b1 m1 y1, .slice c1 k1 z1]) (i := 3) (by simp) (by simp)
 go_wp2_with fail
 refine (toInts_any 0 w.heap.size a2 n2 x2 l2 _ (HR2.out.below HD_36.out.bel (Nat.le_refl _)) HD_36.out.bel.size HL2.out hm2).mono ?_
 rintro e w4v ⟨rfl, X_39, B_44b, _⟩
 have B_44 : Hid (Below (w4.alloc (.cells #[.bool e1, .slice (some ⟨gxa, 0, none⟩) n1 n1, .slice (some ⟨gxb, 0, none⟩) m1 m1, .slice (some ⟨gxc, 0, none⟩) k1 k1] 32)).heap.size (w4.alloc (.cells #[.bool e1, .slice (some ⟨gxa, 0, none⟩) n1 n1, .slice (some ⟨gxb, 0, none⟩) m1 m1, .slice (some ⟨gxc, 0, none⟩) k1 k1] 32)) w4v) := B_44b
 clear B_44b
 clear q_40 q_41 q_42 q_43
 obtain ⟨gi39, Hgi39⟩ : ∃ g, Hid (g = (w4.alloc (.cells #[.bool e1, .slice (some ⟨gxa, 0, none⟩) n1 n1, .slice (some ⟨gxb, 0, none⟩) m1 m1, .slice (some ⟨gxc, 0, none⟩) k1 k1] 32)).heap.size) := ⟨_, rfl⟩
 rw [← Hgi39.out]
 have HD_45 : Hid (Hold w w4v [(w4.heap.size, [.bool e1, .slice (some ⟨gxa, 0, none⟩) n1 n1, .slice (some ⟨gxb, 0, none⟩) m1 m1, .slice (some ⟨gxc, 0, none⟩) k1 k1]), (w.heap.size, [.bool e1, .slice a1 n1 x1, .slice b1 m1 y1, .slice c1 k1 z1])]) := HD_36.out.below B_44.out
 clear HD_36
 have ZZ46 : Hid ((w4.alloc (.cells #[.bool e1, .slice (some ⟨gxa, 0, none⟩) n1 n1, .slice (some ⟨gxb, 0, none⟩) m1 m1, .slice (some ⟨gxc, 0, none⟩) k1 k1] 32)).heap.size ≤ w4v.heap.size) := B_44.out.size
 have W0_46 : Hid (RowOwn w2v.heap.size w3.heap.size w4v a3 R) := W0_38.out.below B_44.out (by have y0 := ZZ2.out; have y1 := ZZ10.out; have y2 := ZZ19.out; have y3 := ZZ24.out; have y4 := ZZ33.out; have y5 := ZZ37.out; have y6 := ZZ38.out; have y7 := ZZ46.out; omega)
 have X0_46 : Hid (QOwn w3.heap.size w4.heap.size w4v (some ⟨gxa, 0, none⟩) (some ⟨gxb, 0, none⟩) (some ⟨gxc, 0, none⟩) n1 m1 k1 (tC o1) (aC t1) (fC f1)) := X0_38.out.below B_44.out (by have y0 := ZZ2.out; have y1 := ZZ10.out; have y2 := ZZ19.out; have y3 := ZZ24.out; have y4 := ZZ33.out; have y5 := ZZ37.out; have y6 := ZZ38.out; have y7 := ZZ46.out; omega)
 clear W0_38 X0_38
 clear B_44
 have X1_47 : Hid (RowOwn (w4.alloc (.cells #[.bool e1, .slice (some ⟨gxa, 0, none⟩) n1 n1, .slice (some ⟨gxb, 0, none⟩) m1 m1, .slice (some ⟨gxc, 0, none⟩) k1 k1] 32)).heap.size w4v.heap.size w4v (some ⟨gi39, 0, none⟩) l2) := by rw [Hgi39.out]; exact X_39
 clear X_39
 have q_49 : w4v.cell? ⟨w4.heap.size, 0, none⟩ = some (.bool e1) := HD_45.out.cell (b := w4.heap.size) (vs := [.bool e1, .slice (some ⟨gxa, 0, none⟩) n1 n1, .slice (some ⟨gxb, 0, none⟩) m1 m1, .slice (some ⟨gxc, 0, none⟩) k1 k1]) (i := 0) (by simp) (by simp)
 have q_50 : w4v.cell? ⟨w4.heap.size, 1, none⟩ = some (.slice (some ⟨gxa, 0, none⟩) n1 n1) := HD_45.out.cell (b := w4.heap.size) (vs := [.bool e1, .slice (some ⟨gxa, 0, none⟩) n1 n1, .slice (some ⟨gxb, 0, none⟩) m1 m1, .slice (some ⟨gxc, 0, none⟩) k1 k1]) (i := 1) (by simp) (by simp)
 have q_51 : w4v.cell? ⟨w4.heap.size, 2, none⟩ = some (.slice (some ⟨gxb, 0, none⟩) m1 m1) := HD_45.out.cell (b := w4.heap.size) (vs := [.bool e1, .slice (some ⟨gxa, 0, none⟩) n1 n1, .slice (some ⟨gxb, 0, none⟩) m1 m1, .slice (some ⟨gxc, 0, none⟩) k1 k1]) (i := 2) (by simp) (by simp)
 have q_52 : w4v.cell? ⟨w4.heap.size, 3, none⟩ = some (.slice (some ⟨gxc, 0, none⟩) k1 k1) := HD_45.out.cell (b := w4.heap.size) (vs := [.bool e1, .slice (some ⟨gxa, 0, none⟩) n1 n1, .slice (some ⟨gxb, 0, none⟩) m1 m1, .slice (some ⟨gxc, 0, none⟩) k1 k1]) (i := 3) (by simp) (by simp)
 go_wp2_with fail
 refine (implOutRow_any w3.heap.size w4.heap.size e1 (some ⟨gxa, 0, none⟩) (some ⟨gxb, 0, none⟩) (some ⟨gxc, 0, none⟩) n1 n1 m1 m1 k1 k1 o1 t1 f1 (w4.alloc (.cells #[.bool e1, .slice (some ⟨gxa, 0, none⟩) n1 n1, .slice (some ⟨gxb, 0, none⟩) m1 m1, .slice (some ⟨gxc, 0, none⟩) k1 k1] 32)).heap.size w4v.heap.size (some ⟨gi39, 0, none⟩) n2 n2 l2 _ X0_46.out.toIn (by have y0 := ZZ2.out; have y1 := ZZ10.out; have y2 := ZZ19.out; have y3 := ZZ24.out; have y4 := ZZ33.out; have y5 := ZZ37.out; have y6 := ZZ38.out; have y7 := ZZ46.out; omega) HL1.out HM1.out ⟨Nat.le_refl _, by have := HM1.out.1; omega⟩ X1_47.out.toIn (by have y0 := ZZ2.out; have y1 := ZZ10.out; have y2 := ZZ19.out; have y3 := ZZ24.out; have y4 := ZZ33.out; have y5 := ZZ37.out; have y6 := ZZ38.out; have y7 := ZZ46.out; omega) HL2.out).mono ?_
 rintro e w5 ⟨a5, q5, c5, rfl, Y_48, X_48, B_53⟩
 clear q_49 q_50 q_51 q_52
 have HD_54 : Hid (Hold w w5 [(w4.heap.size, [.bool e1, .slice (some ⟨gxa, 0, none⟩) n1 n1, .slice (some ⟨gxb, 0, none⟩) m1 m1, .slice (some ⟨gxc, 0, none⟩) k1 k1]), (w.heap.size, [.bool e1, .slice a1 n1 x1, .slice b1 m1 y1, .slice c1 k1 z1])]) := HD_45.out.below B_53.out
 clear HD_45
 have ZZ55 : Hid (w4v.heap.size ≤ w5.heap.size) := B_53.out.size
 have W0_55 : Hid (RowOwn w2v.heap.size w3.heap.size w5 a3 R) := W0_46.out.below B_53.out (by have y0 := ZZ2.out; have y1 := ZZ10.out; have y2 := ZZ19.out; have y3 := ZZ24.out; have y4 := ZZ33.out; have y5 := ZZ37.out; have y6 := ZZ38.out; have y7 := ZZ46.out; have y8 := ZZ55.out; omega)
 have X0_55 : Hid (QOwn w3.heap.size w4.heap.size w5 (some ⟨gxa, 0, none⟩) (some ⟨gxb, 0, none⟩) (some ⟨gxc, 0, none⟩) n1 m1 k1 (tC o1) (aC t1) (fC f1)) := X0_46.out.below B_53.out (by have y0 := ZZ2.out; have y1 := ZZ10.out; have y2 := ZZ19.out; have y3 := ZZ24.out; have y4 := ZZ33.out; have y5 := ZZ37.out; have y6 := ZZ38.out; have y7 := ZZ46.out; have y8 := ZZ55.out; omega)
 have X1_55 : Hid (RowOwn (w4.alloc (.cells #[.bool e1, .slice (some ⟨gxa, 0, none⟩) n1 n1, .slice (some ⟨gxb, 0, none⟩) m1 m1, .slice (some ⟨gxc, 0, none⟩) k1 k1] 32)).heap.size w4v.heap.size w5 (some ⟨gi39, 0, none⟩) l2) := X1_47.out.below B_53.out (by have y0 := ZZ2.out; have y1 := ZZ10.out; have y2 := ZZ19.out; have y3 := ZZ24.out; have y4 := ZZ33.out; have y5 := ZZ37.out; have y6 := ZZ38.out; have y7 := ZZ46.out; have y8 := ZZ55.out; omega)
 clear W0_46 X0_46 X1_47
 clear B_53
 rw [← HRL.out] at X_48 Y_48
 have G0_56 : Hid (RowOwn w4v.heap.size w5.heap.size w5 a5 R) := X_48.out
 clear X_48
 obtain rfl : q3 = q5 := by rw [← Y_21.out, ← Y_48.out]
 go_wp2_with fail
 refine (eqInts_any w4v.heap.size w5.heap.size w2v.heap.size w3.heap.size a5 a3 q3 q3 c5 c3 R R true _ G0_56.out.toIn W0_55.out.toIn Y_21.out Y_21.out (by have := HQ3.out; omega) (by simp)).mono ?_
 rintro e w6 ⟨rfl, B_57b⟩
 have B_57 : Hid (Below w5.heap.size w5 w6) := B_57b
 clear B_57b
 have HD_58 : Hid (Hold w w6 [(w4.heap.size, [.bool e1, .slice (some ⟨gxa, 0, none⟩) n1 n1, .slice (some ⟨gxb, 0, none⟩) m1 m1, .slice (some ⟨gxc, 0, none⟩) k1 k1]), (w.heap.size, [.bool e1, .slice a1 n1 x1, .slice b1 m1 y1, .slice c1 k1 z1])]) := HD_54.out.below B_57.out
 clear HD_54
 have ZZ59 : Hid (w5.heap.size ≤ w6.heap.size) := B_57.out.size
 have W0_59 : Hid (RowOwn w2v.heap.size w3.heap.size w6 a3 R) := W0_55.out.below B_57.out (by have y0 := ZZ2.out; have y1 := ZZ10.out; have y2 := ZZ19.out; have y3 := ZZ24.out; have y4 := ZZ33.out; have y5 := ZZ37.out; have y6 := ZZ38.out; have y7 := ZZ46.out; have y8 := ZZ55.out; have y9 := ZZ59.out; omega)
 have X0_59 : Hid (QOwn w3.heap.size w4.heap.size w6 (some ⟨gxa, 0, none⟩) (some ⟨gxb, 0, none⟩) (some ⟨gxc, 0, none⟩) n1 m1 k1 (tC o1) (aC t1) (fC f1)) := X0_55.out.below B_57.out (by have y0 := ZZ2.out; have y1 := ZZ10.out; have y2 := ZZ19.out; have y3 := ZZ24.out; have y4 := ZZ33.out; have y5 := ZZ37.out; have y6 := ZZ38.out; have y7 := ZZ46.out; have y8 := ZZ55.out; have y9 := ZZ59.out; omega)
 have X1_59 : Hid (RowOwn (w4.alloc (.cells #[.bool e1, .slice (some ⟨gxa, 0, none⟩) n1 n1, .slice (some ⟨gxb, 0, none⟩) m1 m1, .slice (some ⟨gxc, 0, none⟩) k1 k1] 32)).heap.size w4v.heap.size w6 (some ⟨gi39, 0, none⟩) l2) := X1_55.out.below B_57.out (by have y0 := ZZ2.out; have y1 := ZZ10.out; have y2 := ZZ19.out; have y3 := ZZ24.out; have y4 := ZZ33.out; have y5 := ZZ37.out; have y6 := ZZ38.out; have y7 := ZZ46.out; have y8 := ZZ55.out; have y9 := ZZ59.out; omega)
 have G0_59 : Hid (RowOwn w4v.heap.size w5.heap.size w6 a5 R) := G0_56.out.below B_57.out (by have y0 := ZZ2.out; have y1 := ZZ10.out; have y2 := ZZ19.out; have y3 := ZZ24.out; have y4 := ZZ33.out; have y5 := ZZ37.out; have y6 := ZZ38.out; have y7 := ZZ46.out; have y8 := ZZ55.out; have y9 := ZZ59.out; omega)
 clear W0_55 X0_55 X1_55 G0_56
 clear B_57
 have q_60 : w6.cell? ⟨w4.heap.size, 0, none⟩ = some (.bool e1) := HD_58.out.cell (b := w4.heap.size) (vs := [.bool e1, .slice (some ⟨gxa, 0, none⟩) n1 n1, .slice (some ⟨gxb, 0, none⟩) m1 m1, .slice (some ⟨gxc, 0, none⟩) k1 k1]) (i := 0) (by simp) (by simp)
 have q_61 : w6.cell? ⟨w4.heap.size, 1, none⟩ = some (.slice (some ⟨gxa, 0, none⟩) n1 n1) := HD_58.out.cell (b := w4.heap.size) (vs := [.bool e1, .slice (some ⟨gxa, 0, none⟩) n1 n1, .slice (some ⟨gxb, 0, none⟩) m1 m1, .slice (some ⟨gxc, 0, none⟩) k1 k1]) (i := 1) (by simp) (by simp)
 have q_62 : w6.cell? ⟨w4.heap.size, 2, none⟩ = some (.slice (some ⟨gxb, 0, none⟩) m1 m1) := HD_58.out.cell (b := w4.heap.size) (vs := [.bool e1, .slice (some ⟨gxa, 0, none⟩) n1 n1, .slice (some ⟨gxb, 0, none⟩) m1 m1, .slice (some ⟨gxc, 0, none⟩) k1 k1]) (i := 2) (by simp) (by simp)
 have q_63 : w6.cell? ⟨w4.heap.size, 3, none⟩ = some (.slice (some ⟨gxc, 0, none⟩) k1 k1) := HD_58.out.cell (b := w4.heap.size) (vs := [.bool e1, .slice (some ⟨gxa, 0, none⟩) n1 n1, .slice (some ⟨gxb, 0, none⟩) m1 m1, .slice (some ⟨gxc, 0, none⟩) k1 k1]) (i := 3) (by simp) (by simp)
 have q_64 : w6.cell? ⟨w.heap.size, 0, none⟩ = some (.bool e1) := HD_58.out.cell (b := w.heap.size) (vs := [.bool e1, .slice a1 n1 x1, .slice b1 m1 y1, .slice c1 k1 z1]) (i := 0) (by simp) (by simp)
 have q_65 : w6.cell? ⟨w.heap.size, 1, none⟩ = some (.slice a1 n1 x1) := HD_58.out.cell (b := w.heap.size) (vs := [.bool e1, .slice a1 n1 x1, .slice b1 m1 y1, .slice c1 k1 z1]) (i := 1) (by simp) (by simp)
 have q_66 : w6.cell? ⟨w.heap.size, 2, none⟩ = some (.slice b1 m1 y1) := HD_58.out.cell (b := w.heap.size) (vs := [.bool e1, .slice a1 n1 x1, .slice b1 m1 y1, .slice c1 k1 z1]) (i := 2) (by simp) (by simp)
 have q_67 : w6.cell? ⟨w.heap.size, 3, none⟩ = some (.slice c1 k1 z1) := HD_58.out.cell (b := w.heap.size) (vs := [.bool e1, .slice a1 n1 x1, .slice b1 m1 y1, .slice c1 k1 z1]) (i := 3) (by simp) (by simp)
 have HC1 : Hid (∀ w0, Below w6.heap.size w6 w0 → Calls Tryz.prog 7 #[qv e1 a1 n1 x1 b1 m1 y1 c1 k1 z1] w0 fun e w' => ∃ g1 g2 g3 : Nat, e = .returned (.agg #[.bool e1, .slice (some ⟨g1, 0, none⟩) n1 n1, .slice (some ⟨g2, 0, none⟩) m1 m1, .slice (some ⟨g3, 0, none⟩) k1 k1]) ∧ Hid (QIn w6.heap.size w'.heap.size w' (some ⟨g1, 0, none⟩) (some ⟨g2, 0, none⟩) (some ⟨g3, 0, none⟩) n1 m1 k1 (tC o1) (aC t1) (fC f1)) ∧ Hid (Below w6.heap.size w6 w') ∧ (w'.cell? ⟨w4.heap.size, 0, none⟩ = some (.bool e1) ∧ w'.cell? ⟨w4.heap.size, 1, none⟩ = some (.slice (some ⟨gxa, 0, none⟩) n1 n1) ∧ w'.cell? ⟨w4.heap.size, 2, none⟩ = some (.slice (some ⟨gxb, 0, none⟩) m1 m1) ∧ w'.cell? ⟨w4.heap.size, 3, none⟩ = some (.slice (some ⟨gxc, 0, none⟩) k1 k1) ∧ w'.cell? ⟨w.heap.size, 0, none⟩ = some (.bool e1) ∧ w'.cell? ⟨w.heap.size, 1, none⟩ = some (.slice a1 n1 x1) ∧ w'.cell? ⟨w.heap.size, 2, none⟩ = some (.slice b1 m1 y1) ∧ w'.cell? ⟨w.heap.size, 3, none⟩ = some (.slice c1 k1 z1))) := fun w0 h =>
  (toQuery_any 0 w.heap.size e1 a1 b1 c1 n1 x1 m1 y1 k1 z1 o1 t1 f1 w0 (HR1.out.below (HD_58.out.below h).bel (Nat.le_refl _)) (HD_58.out.below h).bel.size HM1.out.1).mono fun _ w' ⟨g1, g2, g3, h1, h2, h4⟩ =>
   have h3 : Hid (Hold w w' [(w4.heap.size, [.bool e1, .slice (some ⟨gxa, 0, none⟩) n1 n1, .slice (some ⟨gxb, 0, none⟩) m1 m1, .slice (some ⟨gxc, 0, none⟩) k1 k1]), (w.heap.size, [.bool e1, .slice a1 n1 x1, .slice b1 m1 y1, .slice c1 k1 z1])]) := (HD_58.out.below h).below h4.out
   ⟨g1, g2, g3, h1, h2.out.toIn.wide h.size (Nat.le_refl _), h.trans (h4.out.mono h.size), h3.out.cell (b := w4.heap.size) (vs := [.bool e1, .slice (some ⟨gxa, 0, none⟩) n1 n1, .slice (some ⟨gxb, 0, none⟩) m1 m1, .slice (some ⟨gxc, 0, none⟩) k1 k1]) (i := 0) (by simp) (by simp), h3.out.cell (b := w4.heap.size) (vs := [.bool e1, .slice (some ⟨gxa, 0, none⟩) n1 n1, .slice (some ⟨gxb, 0, none⟩) m1 m1, .slice (some ⟨gxc, 0, none⟩) k1 k1]) (i := 1) (by simp) (by simp), h3.out.cell (b := w4.heap.size) (vs := [.bool e1, .slice (some ⟨gxa, 0, none⟩) n1 n1, .slice (some ⟨gxb, 0, none⟩) m1 m1, .slice (some ⟨gxc, 0, none⟩) k1 k1]) (i := 2) (by simp) (by simp), h3.out.cell (b := w4.heap.size) (vs := [.bool e1, .slice (some ⟨gxa, 0, none⟩) n1 n1, .slice (some ⟨gxb, 0, none⟩) m1 m1, .slice (some ⟨gxc, 0, none⟩) k1 k1]) (i := 3) (by simp) (by simp), h3.out.cell (b := w.heap.size) (vs := [.bool e1, .slice a1 n1 x1, .slice b1 m1 y1, .slice c1 k1 z1]) (i := 0) (by simp) (by simp), h3.out.cell (b := w.heap.size) (vs := [.bool e1, .slice a1 n1 x1, .slice b1 m1 y1, .slice c1 k1 z1]) (i := 1) (by simp) (by simp), h3.out.cell (b := w.heap.size) (vs := [.bool e1, .slice a1 n1 x1, .slice b1 m1 y1, .slice c1 k1 z1]) (i := 2) (by simp) (by simp), h3.out.cell (b := w.heap.size) (vs := [.bool e1, .slice a1 n1 x1, .slice b1 m1 y1, .slice c1 k1 z1]) (i := 3) (by simp) (by simp)⟩
 have HC2 : Hid (∀ (g1 g2 g3 : Nat) w0, Below w6.heap.size w6 w0 → QIn w6.heap.size w0.heap.size w0 (some ⟨g1, 0, none⟩) (some ⟨g2, 0, none⟩) (some ⟨g3, 0, none⟩) n1 m1 k1 (tC o1) (aC t1) (fC f1) → Calls Tryz.prog 9 #[.agg #[.bool e1, .slice (some ⟨gxa, 0, none⟩) n1 n1, .slice (some ⟨gxb, 0, none⟩) m1 m1, .slice (some ⟨gxc, 0, none⟩) k1 k1], .agg #[.bool e1, .slice (some ⟨g1, 0, none⟩) n1 n1, .slice (some ⟨g2, 0, none⟩) m1 m1, .slice (some ⟨g3, 0, none⟩) k1 k1]] w0 fun e w' => e = .returned (.bool true) ∧ Hid (Below w6.heap.size w6 w') ∧ (w'.cell? ⟨w4.heap.size, 0, none⟩ = some (.bool e1) ∧ w'.cell? ⟨w4.heap.size, 1, none⟩ = some (.slice (some ⟨gxa, 0, none⟩) n1 n1) ∧ w'.cell? ⟨w4.heap.size, 2, none⟩ = some (.slice (some ⟨gxb, 0, none⟩) m1 m1) ∧ w'.cell? ⟨w4.heap.size, 3, none⟩ = some (.slice (some ⟨gxc, 0, none⟩) k1 k1) ∧ w'.cell? ⟨w.heap.size, 0, none⟩ = some (.bool e1) ∧ w'.cell? ⟨w.heap.size, 1, none⟩ = some (.slice a1 n1 x1) ∧ w'.cell? ⟨w.heap.size, 2, none⟩ = some (.slice b1 m1 y1) ∧ w'.cell? ⟨w.heap.size, 3, none⟩ = some (.slice c1 k1 z1))) := fun g1 g2 g3 w0 h hx =>
  (eqQuery_any w3.heap.size w4.heap.size w6.heap.size w0.heap.size e1 e1 (some ⟨gxa, 0, none⟩) (some ⟨gxb, 0, none⟩) (some ⟨gxc, 0, none⟩) n1 n1 m1 m1 k1 k1 o1 t1 f1 (some ⟨g1, 0, none⟩) (some ⟨g2, 0, none⟩) (some ⟨g3, 0, none⟩) n1 n1 m1 m1 k1 k1 o1 t1 f1 true w0 (X0_59.out.below h (by have y0 := ZZ2.out; have y1 := ZZ10.out; have y2 := ZZ19.out; have y3 := ZZ24.out; have y4 := ZZ33.out; have y5 := ZZ37.out; have y6 := ZZ38.out; have y7 := ZZ46.out; have y8 := ZZ55.out; have y9 := ZZ59.out; omega)).toIn hx (by have yy := h.size; have y0 := ZZ2.out; have y1 := ZZ10.out; have y2 := ZZ19.out; have y3 := ZZ24.out; have y4 := ZZ33.out; have y5 := ZZ37.out; have y6 := ZZ38.out; have y7 := ZZ46.out; have y8 := ZZ55.out; have y9 := ZZ59.out; omega) (Nat.le_refl _) HL1.out HL1.out HM1.out.1 (by simp)).mono fun _ w' ⟨h1, h4⟩ =>
   have h3 : Hid (Hold w w' [(w4.heap.size, [.bool e1, .slice (some ⟨gxa, 0, none⟩) n1 n1, .slice (some ⟨gxb, 0, none⟩) m1 m1, .slice (some ⟨gxc, 0, none⟩) k1 k1]), (w.heap.size, [.bool e1, .slice a1 n1 x1, .slice b1 m1 y1, .slice c1 k1 z1])]) := (HD_58.out.below h).below h4.out
   ⟨h1, h.trans (h4.out.mono h.size), h3.out.cell (b := w4.heap.size) (vs := [.bool e1, .slice (some ⟨gxa, 0, none⟩) n1 n1, .slice (some ⟨gxb, 0, none⟩) m1 m1, .slice (some ⟨gxc, 0, none⟩) k1 k1]) (i := 0) (by simp) (by simp), h3.out.cell (b := w4.heap.size) (vs := [.bool e1, .slice (some ⟨gxa, 0, none⟩) n1 n1, .slice (some ⟨gxb, 0, none⟩) m1 m1, .slice (some ⟨gxc, 0, none⟩) k1 k1]) (i := 1) (by simp) (by simp), h3.out.cell (b := w4.heap.size) (vs := [.bool e1, .slice (some ⟨gxa, 0, none⟩) n1 n1, .slice (some ⟨gxb, 0, none⟩) m1 m1, .slice (some ⟨gxc, 0, none⟩) k1 k1]) (i := 2) (by simp) (by simp), h3.out.cell (b := w4.heap.size) (vs := [.bool e1, .slice (some ⟨gxa, 0, none⟩) n1 n1, .slice (some ⟨gxb, 0, none⟩) m1 m1, .slice (some ⟨gxc, 0, none⟩) k1 k1]) (i := 3) (by simp) (by simp), h3.out.cell (b := w.heap.size) (vs := [.bool e1, .slice a1 n1 x1, .slice b1 m1 y1, .slice c1 k1 z1]) (i := 0) (by simp) (by simp), h3.out.cell (b := w.heap.size) (vs := [.bool e1, .slice a1 n1 x1, .slice b1 m1 y1, .slice c1 k1 z1]) (i := 1) (by simp) (by simp), h3.out.cell (b := w.heap.size) (vs := [.bool e1, .slice a1 n1 x1, .slice b1 m1 y1, .slice c1 k1 z1]) (i := 2) (by simp) (by simp), h3.out.cell (b := w.heap.size) (vs := [.bool e1, .slice a1 n1 x1, .slice b1 m1 y1, .slice c1 k1 z1]) (i := 3) (by simp) (by simp)⟩
 go_wp2_with fail
 go_region_held3 (fun w' => w'.cell? ⟨w4.heap.size, 0, none⟩ = some (.bool e1) ∧ w'.cell? ⟨w4.heap.size, 1, none⟩ = some (.slice (some ⟨gxa, 0, none⟩) n1 n1) ∧ w'.cell? ⟨w4.heap.size, 2, none⟩ = some (.slice (some ⟨gxb, 0, none⟩) m1 m1) ∧ w'.cell? ⟨w4.heap.size, 3, none⟩ = some (.slice (some ⟨gxc, 0, none⟩) k1 k1) ∧ w'.cell? ⟨w.heap.size, 0, none⟩ = some (.bool e1) ∧ w'.cell? ⟨w.heap.size, 1, none⟩ = some (.slice a1 n1 x1) ∧ w'.cell? ⟨w.heap.size, 2, none⟩ = some (.slice b1 m1 y1) ∧ w'.cell? ⟨w.heap.size, 3, none⟩ = some (.slice c1 k1 z1)) (first | exact ⟨q_60, q_61, q_62, q_63, q_64, q_65, q_66, q_67⟩ | exact hk9 | exact hk10) (first | (go_at_call 7; refine (HC1.out _ ((Below.refl _ _).drew)).mono ?_; rintro e w7 ⟨g90, g91, g92, rfl, X9, B9, hk9⟩) | (go_at_call 9; refine (HC2.out _ _ _ _ B9.out X9.out).mono ?_; rintro e w8 ⟨rfl, B10, hk10⟩))
 clear q_60 q_61 q_62 q_63 q_64 q_65 q_66 q_67
 clear hk9 hk10 B9 X9 HC1 HC2
 have HD_68 : Hid (Hold w w8 [(w4.heap.size, [.bool e1, .slice (some ⟨gxa, 0, none⟩) n1 n1, .slice (some ⟨gxb, 0, none⟩) m1 m1, .slice (some ⟨gxc, 0, none⟩) k1 k1]), (w.heap.size, [.bool e1, .slice a1 n1 x1, .slice b1 m1 y1, .slice c1 k1 z1])]) := HD_58.out.below B10.out
 clear HD_58
 have ZZ69 : Hid (w6.heap.size ≤ w8.heap.size) := B10.out.size
 have W0_69 : Hid (RowOwn w2v.heap.size w3.heap.size w8 a3 R) := W0_59.out.below B10.out (by have y0 := ZZ2.out; have y1 := ZZ10.out; have y2 := ZZ19.out; have y3 := ZZ24.out; have y4 := ZZ33.out; have y5 := ZZ37.out; have y6 := ZZ38.out; have y7 := ZZ46.out; have y8 := ZZ55.out; have y9 := ZZ59.out; have y10 := ZZ69.out; omega)
 have X0_69 : Hid (QOwn w3.heap.size w4.heap.size w8 (some ⟨gxa, 0, none⟩) (some ⟨gxb, 0, none⟩) (some ⟨gxc, 0, none⟩) n1 m1 k1 (tC o1) (aC t1) (fC f1)) := X0_59.out.below B10.out (by have y0 := ZZ2.out; have y1 := ZZ10.out; have y2 := ZZ19.out; have y3 := ZZ24.out; have y4 := ZZ33.out; have y5 := ZZ37.out; have y6 := ZZ38.out; have y7 := ZZ46.out; have y8 := ZZ55.out; have y9 := ZZ59.out; have y10 := ZZ69.out; omega)
 have X1_69 : Hid (RowOwn (w4.alloc (.cells #[.bool e1, .slice (some ⟨gxa, 0, none⟩) n1 n1, .slice (some ⟨gxb, 0, none⟩) m1 m1, .slice (some ⟨gxc, 0, none⟩) k1 k1] 32)).heap.size w4v.heap.size w8 (some ⟨gi39, 0, none⟩) l2) := X1_59.out.below B10.out (by have y0 := ZZ2.out; have y1 := ZZ10.out; have y2 := ZZ19.out; have y3 := ZZ24.out; have y4 := ZZ33.out; have y5 := ZZ37.out; have y6 := ZZ38.out; have y7 := ZZ46.out; have y8 := ZZ55.out; have y9 := ZZ59.out; have y10 := ZZ69.out; omega)
 have G0_69 : Hid (RowOwn w4v.heap.size w5.heap.size w8 a5 R) := G0_59.out.below B10.out (by have y0 := ZZ2.out; have y1 := ZZ10.out; have y2 := ZZ19.out; have y3 := ZZ24.out; have y4 := ZZ33.out; have y5 := ZZ37.out; have y6 := ZZ38.out; have y7 := ZZ46.out; have y8 := ZZ55.out; have y9 := ZZ59.out; have y10 := ZZ69.out; omega)
 clear W0_59 X0_59 X1_59 G0_59
 clear B10
 have q_71 : w8.cell? ⟨w.heap.size, 0, none⟩ = some (.bool e1) := HD_68.out.cell (b := w.heap.size) (vs := [.bool e1, .slice a1 n1 x1, .slice b1 m1 y1, .slice c1 k1 z1]) (i := 0) (by simp) (by simp)
 have q_72 : w8.cell? ⟨w.heap.size, 1, none⟩ = some (.slice a1 n1 x1) := HD_68.out.cell (b := w.heap.size) (vs := [.bool e1, .slice a1 n1 x1, .slice b1 m1 y1, .slice c1 k1 z1]) (i := 1) (by simp) (by simp)
 have q_73 : w8.cell? ⟨w.heap.size, 2, none⟩ = some (.slice b1 m1 y1) := HD_68.out.cell (b := w.heap.size) (vs := [.bool e1, .slice a1 n1 x1, .slice b1 m1 y1, .slice c1 k1 z1]) (i := 2) (by simp) (by simp)
 have q_74 : w8.cell? ⟨w.heap.size, 3, none⟩ = some (.slice c1 k1 z1) := HD_68.out.cell (b := w.heap.size) (vs := [.bool e1, .slice a1 n1 x1, .slice b1 m1 y1, .slice c1 k1 z1]) (i := 3) (by simp) (by simp)
 go_wp2_with fail
 refine (toInts_any 0 w.heap.size a2 n2 x2 l2 _ (HR2.out.below HD_68.out.bel (Nat.le_refl _)) HD_68.out.bel.size HL2.out hm2).mono ?_
 rintro e w8v ⟨rfl, X_70, B_75b, _⟩
 have B_75 : Hid (Below w8.heap.size w8 w8v) := B_75b
 clear B_75b
 clear q_71 q_72 q_73 q_74
 obtain ⟨gi70, Hgi70⟩ : ∃ g, Hid (g = w8.heap.size) := ⟨_, rfl⟩
 rw [← Hgi70.out]
 have HD_76 : Hid (Hold w w8v [(w4.heap.size, [.bool e1, .slice (some ⟨gxa, 0, none⟩) n1 n1, .slice (some ⟨gxb, 0, none⟩) m1 m1, .slice (some ⟨gxc, 0, none⟩) k1 k1]), (w.heap.size, [.bool e1, .slice a1 n1 x1, .slice b1 m1 y1, .slice c1 k1 z1])]) := HD_68.out.below B_75.out
 clear HD_68
 have ZZ77 : Hid (w8.heap.size ≤ w8v.heap.size) := B_75.out.size
 have W0_77 : Hid (RowOwn w2v.heap.size w3.heap.size w8v a3 R) := W0_69.out.below B_75.out (by have y0 := ZZ2.out; have y1 := ZZ10.out; have y2 := ZZ19.out; have y3 := ZZ24.out; have y4 := ZZ33.out; have y5 := ZZ37.out; have y6 := ZZ38.out; have y7 := ZZ46.out; have y8 := ZZ55.out; have y9 := ZZ59.out; have y10 := ZZ69.out; have y11 := ZZ77.out; omega)
 have X0_77 : Hid (QOwn w3.heap.size w4.heap.size w8v (some ⟨gxa, 0, none⟩) (some ⟨gxb, 0, none⟩) (some ⟨gxc, 0, none⟩) n1 m1 k1 (tC o1) (aC t1) (fC f1)) := X0_69.out.below B_75.out (by have y0 := ZZ2.out; have y1 := ZZ10.out; have y2 := ZZ19.out; have y3 := ZZ24.out; have y4 := ZZ33.out; have y5 := ZZ37.out; have y6 := ZZ38.out; have y7 := ZZ46.out; have y8 := ZZ55.out; have y9 := ZZ59.out; have y10 := ZZ69.out; have y11 := ZZ77.out; omega)
 have X1_77 : Hid (RowOwn (w4.alloc (.cells #[.bool e1, .slice (some ⟨gxa, 0, none⟩) n1 n1, .slice (some ⟨gxb, 0, none⟩) m1 m1, .slice (some ⟨gxc, 0, none⟩) k1 k1] 32)).heap.size w4v.heap.size w8v (some ⟨gi39, 0, none⟩) l2) := X1_69.out.below B_75.out (by have y0 := ZZ2.out; have y1 := ZZ10.out; have y2 := ZZ19.out; have y3 := ZZ24.out; have y4 := ZZ33.out; have y5 := ZZ37.out; have y6 := ZZ38.out; have y7 := ZZ46.out; have y8 := ZZ55.out; have y9 := ZZ59.out; have y10 := ZZ69.out; have y11 := ZZ77.out; omega)
 have G0_77 : Hid (RowOwn w4v.heap.size w5.heap.size w8v a5 R) := G0_69.out.below B_75.out (by have y0 := ZZ2.out; have y1 := ZZ10.out; have y2 := ZZ19.out; have y3 := ZZ24.out; have y4 := ZZ33.out; have y5 := ZZ37.out; have y6 := ZZ38.out; have y7 := ZZ46.out; have y8 := ZZ55.out; have y9 := ZZ59.out; have y10 := ZZ69.out; have y11 := ZZ77.out; omega)
 clear W0_69 X0_69 X1_69 G0_69
 clear B_75
 have V2_78 : Hid (RowOwn w8.heap.size w8v.heap.size w8v (some ⟨gi70, 0, none⟩) l2) := by rw [Hgi70.out]; exact X_70
 clear X_70
 go_wp2_with fail
 refine (eqInts_any (w4.alloc (.cells #[.bool e1, .slice (some ⟨gxa, 0, none⟩) n1 n1, .slice (some ⟨gxb, 0, none⟩) m1 m1, .slice (some ⟨gxc, 0, none⟩) k1 k1] 32)).heap.size w4v.heap.size w8.heap.size w8v.heap.size (some ⟨gi39, 0, none⟩) (some ⟨gi70, 0, none⟩) n2 n2 n2 n2 l2 l2 true _ X1_77.out.toIn V2_78.out.toIn HL2.out HL2.out hm2 (by simp)).mono ?_
 rintro e w8e ⟨rfl, B_79b⟩
 have B_79 : Hid (Below w8v.heap.size w8v w8e) := B_79b
 clear B_79b
 have HD_80 : Hid (Hold w w8e [(w4.heap.size, [.bool e1, .slice (some ⟨gxa, 0, none⟩) n1 n1, .slice (some ⟨gxb, 0, none⟩) m1 m1, .slice (some ⟨gxc, 0, none⟩) k1 k1]), (w.heap.size, [.bool e1, .slice a1 n1 x1, .slice b1 m1 y1, .slice c1 k1 z1])]) := HD_76.out.below B_79.out
 clear HD_76
 have ZZ81 : Hid (w8v.heap.size ≤ w8e.heap.size) := B_79.out.size
 have W0_81 : Hid (RowOwn w2v.heap.size w3.heap.size w8e a3 R) := W0_77.out.below B_79.out (by have y0 := ZZ2.out; have y1 := ZZ10.out; have y2 := ZZ19.out; have y3 := ZZ24.out; have y4 := ZZ33.out; have y5 := ZZ37.out; have y6 := ZZ38.out; have y7 := ZZ46.out; have y8 := ZZ55.out; have y9 := ZZ59.out; have y10 := ZZ69.out; have y11 := ZZ77.out; have y12 := ZZ81.out; omega)
 have X0_81 : Hid (QOwn w3.heap.size w4.heap.size w8e (some ⟨gxa, 0, none⟩) (some ⟨gxb, 0, none⟩) (some ⟨gxc, 0, none⟩) n1 m1 k1 (tC o1) (aC t1) (fC f1)) := X0_77.out.below B_79.out (by have y0 := ZZ2.out; have y1 := ZZ10.out; have y2 := ZZ19.out; have y3 := ZZ24.out; have y4 := ZZ33.out; have y5 := ZZ37.out; have y6 := ZZ38.out; have y7 := ZZ46.out; have y8 := ZZ55.out; have y9 := ZZ59.out; have y10 := ZZ69.out; have y11 := ZZ77.out; have y12 := ZZ81.out; omega)
 have X1_81 : Hid (RowOwn (w4.alloc (.cells #[.bool e1, .slice (some ⟨gxa, 0, none⟩) n1 n1, .slice (some ⟨gxb, 0, none⟩) m1 m1, .slice (some ⟨gxc, 0, none⟩) k1 k1] 32)).heap.size w4v.heap.size w8e (some ⟨gi39, 0, none⟩) l2) := X1_77.out.below B_79.out (by have y0 := ZZ2.out; have y1 := ZZ10.out; have y2 := ZZ19.out; have y3 := ZZ24.out; have y4 := ZZ33.out; have y5 := ZZ37.out; have y6 := ZZ38.out; have y7 := ZZ46.out; have y8 := ZZ55.out; have y9 := ZZ59.out; have y10 := ZZ69.out; have y11 := ZZ77.out; have y12 := ZZ81.out; omega)
 have G0_81 : Hid (RowOwn w4v.heap.size w5.heap.size w8e a5 R) := G0_77.out.below B_79.out (by have y0 := ZZ2.out; have y1 := ZZ10.out; have y2 := ZZ19.out; have y3 := ZZ24.out; have y4 := ZZ33.out; have y5 := ZZ37.out; have y6 := ZZ38.out; have y7 := ZZ46.out; have y8 := ZZ55.out; have y9 := ZZ59.out; have y10 := ZZ69.out; have y11 := ZZ77.out; have y12 := ZZ81.out; omega)
 have V2_81 : Hid (RowOwn w8.heap.size w8v.heap.size w8e (some ⟨gi70, 0, none⟩) l2) := V2_78.out.below B_79.out (by have y0 := ZZ2.out; have y1 := ZZ10.out; have y2 := ZZ19.out; have y3 := ZZ24.out; have y4 := ZZ33.out; have y5 := ZZ37.out; have y6 := ZZ38.out; have y7 := ZZ46.out; have y8 := ZZ55.out; have y9 := ZZ59.out; have y10 := ZZ69.out; have y11 := ZZ77.out; have y12 := ZZ81.out; omega)
 clear W0_77 X0_77 X1_77 G0_77 V2_78
 clear B_79
 clear V2_81
 have q_82 : w8e.cell? ⟨w4.heap.size, 0, none⟩ = some (.bool e1) := HD_80.out.cell (b := w4.heap.size) (vs := [.bool e1, .slice (some ⟨gxa, 0, none⟩) n1 n1, .slice (some ⟨gxb, 0, none⟩) m1 m1, .slice (some ⟨gxc, 0, none⟩) k1 k1]) (i := 0) (by simp) (by simp)
 have q_83 : w8e.cell? ⟨w4.heap.size, 1, none⟩ = some (.slice (some ⟨gxa, 0, none⟩) n1 n1) := HD_80.out.cell (b := w4.heap.size) (vs := [.bool e1, .slice (some ⟨gxa, 0, none⟩) n1 n1, .slice (some ⟨gxb, 0, none⟩) m1 m1, .slice (some ⟨gxc, 0, none⟩) k1 k1]) (i := 1) (by simp) (by simp)
 have q_84 : w8e.cell? ⟨w4.heap.size, 2, none⟩ = some (.slice (some ⟨gxb, 0, none⟩) m1 m1) := HD_80.out.cell (b := w4.heap.size) (vs := [.bool e1, .slice (some ⟨gxa, 0, none⟩) n1 n1, .slice (some ⟨gxb, 0, none⟩) m1 m1, .slice (some ⟨gxc, 0, none⟩) k1 k1]) (i := 2) (by simp) (by simp)
 have q_85 : w8e.cell? ⟨w4.heap.size, 3, none⟩ = some (.slice (some ⟨gxc, 0, none⟩) k1 k1) := HD_80.out.cell (b := w4.heap.size) (vs := [.bool e1, .slice (some ⟨gxa, 0, none⟩) n1 n1, .slice (some ⟨gxb, 0, none⟩) m1 m1, .slice (some ⟨gxc, 0, none⟩) k1 k1]) (i := 3) (by simp) (by simp)
 go_wp2_with fail
 refine (markQuery_any w3.heap.size w4.heap.size e1 (some ⟨gxa, 0, none⟩) (some ⟨gxb, 0, none⟩) (some ⟨gxc, 0, none⟩) n1 n1 m1 m1 k1 k1 1 _ _ _ _ X0_81.out (by have y0 := ZZ2.out; have y1 := ZZ10.out; have y2 := ZZ19.out; have y3 := ZZ24.out; have y4 := ZZ33.out; have y5 := ZZ37.out; have y6 := ZZ38.out; have y7 := ZZ46.out; have y8 := ZZ55.out; have y9 := ZZ59.out; have y10 := ZZ69.out; have y11 := ZZ77.out; have y12 := ZZ81.out; omega) HM1.out.1 (by omega) (by omega)).mono ?_
 rintro e w9 ⟨m9, rfl, HM_m9, X_86, K_86⟩
 clear q_82 q_83 q_84 q_85
 have HD_87 : Hid (Hold w w9 [(w4.heap.size, [.bool e1, .slice (some ⟨gxa, 0, none⟩) n1 n1, .slice (some ⟨gxb, 0, none⟩) m1 m1, .slice (some ⟨gxc, 0, none⟩) k1 k1]), (w.heap.size, [.bool e1, .slice a1 n1 x1, .slice b1 m1 y1, .slice c1 k1 z1])]) := HD_80.out.kept K_86.out (by intro x hx; simp only [List.mem_cons, List.not_mem_nil, or_false] at hx; have y0 := ZZ2.out; have y1 := ZZ10.out; have y2 := ZZ19.out; have y3 := ZZ24.out; have y4 := ZZ33.out; have y5 := ZZ37.out; have y6 := ZZ38.out; have y7 := ZZ46.out; have y8 := ZZ55.out; have y9 := ZZ59.out; have y10 := ZZ69.out; have y11 := ZZ77.out; have y12 := ZZ81.out; rcases hx with rfl | rfl <;> dsimp only <;> omega) (fun k hk => by have y0 := ZZ2.out; have y1 := ZZ10.out; have y2 := ZZ19.out; have y3 := ZZ24.out; have y4 := ZZ33.out; have y5 := ZZ37.out; have y6 := ZZ38.out; have y7 := ZZ46.out; have y8 := ZZ55.out; have y9 := ZZ59.out; have y10 := ZZ69.out; have y11 := ZZ77.out; have y12 := ZZ81.out; omega)
 clear HD_80
 have ZZ88 : Hid (w8e.heap.size ≤ w9.heap.size) := K_86.out.size
 have W0_88 : Hid (RowOwn w2v.heap.size w3.heap.size w9 a3 R) := W0_81.out.kept K_86.out (fun c h1 h2 h3 => by have y0 := ZZ2.out; have y1 := ZZ10.out; have y2 := ZZ19.out; have y3 := ZZ24.out; have y4 := ZZ33.out; have y5 := ZZ37.out; have y6 := ZZ38.out; have y7 := ZZ46.out; have y8 := ZZ55.out; have y9 := ZZ59.out; have y10 := ZZ69.out; have y11 := ZZ77.out; have y12 := ZZ81.out; have y13 := ZZ88.out; omega)
 have X1_88 : Hid (RowOwn (w4.alloc (.cells #[.bool e1, .slice (some ⟨gxa, 0, none⟩) n1 n1, .slice (some ⟨gxb, 0, none⟩) m1 m1, .slice (some ⟨gxc, 0, none⟩) k1 k1] 32)).heap.size w4v.heap.size w9 (some ⟨gi39, 0, none⟩) l2) := X1_81.out.kept K_86.out (fun c h1 h2 h3 => by have y0 := ZZ2.out; have y1 := ZZ10.out; have y2 := ZZ19.out; have y3 := ZZ24.out; have y4 := ZZ33.out; have y5 := ZZ37.out; have y6 := ZZ38.out; have y7 := ZZ46.out; have y8 := ZZ55.out; have y9 := ZZ59.out; have y10 := ZZ69.out; have y11 := ZZ77.out; have y12 := ZZ81.out; have y13 := ZZ88.out; omega)
 have G0_88 : Hid (RowOwn w4v.heap.size w5.heap.size w9 a5 R) := G0_81.out.kept K_86.out (fun c h1 h2 h3 => by have y0 := ZZ2.out; have y1 := ZZ10.out; have y2 := ZZ19.out; have y3 := ZZ24.out; have y4 := ZZ33.out; have y5 := ZZ37.out; have y6 := ZZ38.out; have y7 := ZZ46.out; have y8 := ZZ55.out; have y9 := ZZ59.out; have y10 := ZZ69.out; have y11 := ZZ77.out; have y12 := ZZ81.out; have y13 := ZZ88.out; omega)
 clear W0_81 X0_81 X1_81 G0_81
 clear K_86
 have hm9 : m9 ≤ 1099511627776 := by have h1 := HM_m9.out; have h2 := HM1.out.1; omega
 go_wp2_with fail
 refine (markRow_any (w4.alloc (.cells #[.bool e1, .slice (some ⟨gxa, 0, none⟩) n1 n1, .slice (some ⟨gxb, 0, none⟩) m1 m1, .slice (some ⟨gxc, 0, none⟩) k1 k1] 32)).heap.size w4v.heap.size (some ⟨gi39, 0, none⟩) n2 n2 m9 l2 _ X1_88.out HL2.out hm2 hm9).mono ?_
 rintro e w9v ⟨rfl, X_89, K_89⟩
 have HD_90 : Hid (Hold w w9v [(w4.heap.size, [.bool e1, .slice (some ⟨gxa, 0, none⟩) n1 n1, .slice (some ⟨gxb, 0, none⟩) m1 m1, .slice (some ⟨gxc, 0, none⟩) k1 k1]), (w.heap.size, [.bool e1, .slice a1 n1 x1, .slice b1 m1 y1, .slice c1 k1 z1])]) := HD_87.out.kept K_89.out (by intro x hx; simp only [List.mem_cons, List.not_mem_nil, or_false] at hx; have y0 := ZZ2.out; have y1 := ZZ10.out; have y2 := ZZ19.out; have y3 := ZZ24.out; have y4 := ZZ33.out; have y5 := ZZ37.out; have y6 := ZZ38.out; have y7 := ZZ46.out; have y8 := ZZ55.out; have y9 := ZZ59.out; have y10 := ZZ69.out; have y11 := ZZ77.out; have y12 := ZZ81.out; have y13 := ZZ88.out; rcases hx with rfl | rfl <;> dsimp only <;> omega) (fun k hk => by have y0 := ZZ2.out; have y1 := ZZ10.out; have y2 := ZZ19.out; have y3 := ZZ24.out; have y4 := ZZ33.out; have y5 := ZZ37.out; have y6 := ZZ38.out; have y7 := ZZ46.out; have y8 := ZZ55.out; have y9 := ZZ59.out; have y10 := ZZ69.out; have y11 := ZZ77.out; have y12 := ZZ81.out; have y13 := ZZ88.out; omega)
 clear HD_87
 have ZZ91 : Hid (w9.heap.size ≤ w9v.heap.size) := K_89.out.size
 have W0_91 : Hid (RowOwn w2v.heap.size w3.heap.size w9v a3 R) := W0_88.out.kept K_89.out (fun c h1 h2 h3 => by have y0 := ZZ2.out; have y1 := ZZ10.out; have y2 := ZZ19.out; have y3 := ZZ24.out; have y4 := ZZ33.out; have y5 := ZZ37.out; have y6 := ZZ38.out; have y7 := ZZ46.out; have y8 := ZZ55.out; have y9 := ZZ59.out; have y10 := ZZ69.out; have y11 := ZZ77.out; have y12 := ZZ81.out; have y13 := ZZ88.out; have y14 := ZZ91.out; omega)
 have G0_91 : Hid (RowOwn w4v.heap.size w5.heap.size w9v a5 R) := G0_88.out.kept K_89.out (fun c h1 h2 h3 => by have y0 := ZZ2.out; have y1 := ZZ10.out; have y2 := ZZ19.out; have y3 := ZZ24.out; have y4 := ZZ33.out; have y5 := ZZ37.out; have y6 := ZZ38.out; have y7 := ZZ46.out; have y8 := ZZ55.out; have y9 := ZZ59.out; have y10 := ZZ69.out; have y11 := ZZ77.out; have y12 := ZZ81.out; have y13 := ZZ88.out; have y14 := ZZ91.out; omega)
 clear W0_88 X1_88 G0_88
 clear K_89
 obtain ⟨m10, HM10⟩ : ∃ m, Hid (m = m9 + n2) := ⟨_, rfl⟩
 rw [← HM10.out]
 have hm10 : ¬ (m10 : Int) < 0 := by omega
 go_wp2_with fail
 refine (eqInts_any w4v.heap.size w5.heap.size w2v.heap.size w3.heap.size a5 a3 q3 q3 c5 c3 R R true _ G0_91.out.toIn W0_91.out.toIn Y_21.out Y_21.out (by have := HQ3.out; omega) (by simp)).mono ?_
 rintro e w10 ⟨rfl, B_92b⟩
 have B_92 : Hid (Below w9v.heap.size w9v w10) := B_92b
 clear B_92b
 have HD_93 : Hid (Hold w w10 [(w4.heap.size, [.bool e1, .slice (some ⟨gxa, 0, none⟩) n1 n1, .slice (some ⟨gxb, 0, none⟩) m1 m1, .slice (some ⟨gxc, 0, none⟩) k1 k1]), (w.heap.size, [.bool e1, .slice a1 n1 x1, .slice b1 m1 y1, .slice c1 k1 z1])]) := HD_90.out.below B_92.out
 clear HD_90
 have ZZ94 : Hid (w9v.heap.size ≤ w10.heap.size) := B_92.out.size
 have W0_94 : Hid (RowOwn w2v.heap.size w3.heap.size w10 a3 R) := W0_91.out.below B_92.out (by have y0 := ZZ2.out; have y1 := ZZ10.out; have y2 := ZZ19.out; have y3 := ZZ24.out; have y4 := ZZ33.out; have y5 := ZZ37.out; have y6 := ZZ38.out; have y7 := ZZ46.out; have y8 := ZZ55.out; have y9 := ZZ59.out; have y10 := ZZ69.out; have y11 := ZZ77.out; have y12 := ZZ81.out; have y13 := ZZ88.out; have y14 := ZZ91.out; have y15 := ZZ94.out; omega)
 have G0_94 : Hid (RowOwn w4v.heap.size w5.heap.size w10 a5 R) := G0_91.out.below B_92.out (by have y0 := ZZ2.out; have y1 := ZZ10.out; have y2 := ZZ19.out; have y3 := ZZ24.out; have y4 := ZZ33.out; have y5 := ZZ37.out; have y6 := ZZ38.out; have y7 := ZZ46.out; have y8 := ZZ55.out; have y9 := ZZ59.out; have y10 := ZZ69.out; have y11 := ZZ77.out; have y12 := ZZ81.out; have y13 := ZZ88.out; have y14 := ZZ91.out; have y15 := ZZ94.out; omega)
 clear W0_91 G0_91
 clear B_92
 go_wp2_with fail
 refine (markRow_any w4v.heap.size w5.heap.size a5 q3 c5 1 R _ G0_94.out Y_21.out (by have := HQ3.out; omega) (by omega)).mono ?_
 rintro e w11 ⟨rfl, X_95, K_95⟩
 have HD_96 : Hid (Hold w w11 [(w4.heap.size, [.bool e1, .slice (some ⟨gxa, 0, none⟩) n1 n1, .slice (some ⟨gxb, 0, none⟩) m1 m1, .slice (some ⟨gxc, 0, none⟩) k1 k1]), (w.heap.size, [.bool e1, .slice a1 n1 x1, .slice b1 m1 y1, .slice c1 k1 z1])]) := HD_93.out.kept K_95.out (by intro x hx; simp only [List.mem_cons, List.not_mem_nil, or_false] at hx; have y0 := ZZ2.out; have y1 := ZZ10.out; have y2 := ZZ19.out; have y3 := ZZ24.out; have y4 := ZZ33.out; have y5 := ZZ37.out; have y6 := ZZ38.out; have y7 := ZZ46.out; have y8 := ZZ55.out; have y9 := ZZ59.out; have y10 := ZZ69.out; have y11 := ZZ77.out; have y12 := ZZ81.out; have y13 := ZZ88.out; have y14 := ZZ91.out; have y15 := ZZ94.out; rcases hx with rfl | rfl <;> dsimp only <;> omega) (fun k hk => by have y0 := ZZ2.out; have y1 := ZZ10.out; have y2 := ZZ19.out; have y3 := ZZ24.out; have y4 := ZZ33.out; have y5 := ZZ37.out; have y6 := ZZ38.out; have y7 := ZZ46.out; have y8 := ZZ55.out; have y9 := ZZ59.out; have y10 := ZZ69.out; have y11 := ZZ77.out; have y12 := ZZ81.out; have y13 := ZZ88.out; have y14 := ZZ91.out; have y15 := ZZ94.out; omega)
 clear HD_93
 have ZZ97 : Hid (w10.heap.size ≤ w11.heap.size) := K_95.out.size
 have W0_97 : Hid (RowOwn w2v.heap.size w3.heap.size w11 a3 R) := W0_94.out.kept K_95.out (fun c h1 h2 h3 => by have y0 := ZZ2.out; have y1 := ZZ10.out; have y2 := ZZ19.out; have y3 := ZZ24.out; have y4 := ZZ33.out; have y5 := ZZ37.out; have y6 := ZZ38.out; have y7 := ZZ46.out; have y8 := ZZ55.out; have y9 := ZZ59.out; have y10 := ZZ69.out; have y11 := ZZ77.out; have y12 := ZZ81.out; have y13 := ZZ88.out; have y14 := ZZ91.out; have y15 := ZZ94.out; have y16 := ZZ97.out; omega)
 clear W0_94 G0_94
 clear K_95
 have G0_98 : Hid (RowOwn w4v.heap.size w5.heap.size w11 a5 (marks 1 q3)) := X_95.out
 clear X_95
 obtain ⟨M, HMM⟩ : ∃ M, Hid (M = 1 + q3) := ⟨_, rfl⟩
 rw [← HMM.out]
 have hM0 : ¬ (M : Int) < 0 := by omega
 go_wp2_with fail
 refine (heldRow_any w4v.heap.size w5.heap.size a5 q3 c5 1 _ G0_98.out.toIn (by have := HQ3.out; omega) (by omega)).mono ?_
 rintro e w12 ⟨rfl, B_99⟩
 have HD_100 : Hid (Hold w w12 [(w4.heap.size, [.bool e1, .slice (some ⟨gxa, 0, none⟩) n1 n1, .slice (some ⟨gxb, 0, none⟩) m1 m1, .slice (some ⟨gxc, 0, none⟩) k1 k1]), (w.heap.size, [.bool e1, .slice a1 n1 x1, .slice b1 m1 y1, .slice c1 k1 z1])]) := HD_96.out.below B_99.out
 clear HD_96
 have ZZ101 : Hid (w11.heap.size ≤ w12.heap.size) := B_99.out.size
 have W0_101 : Hid (RowOwn w2v.heap.size w3.heap.size w12 a3 R) := W0_97.out.below B_99.out (by have y0 := ZZ2.out; have y1 := ZZ10.out; have y2 := ZZ19.out; have y3 := ZZ24.out; have y4 := ZZ33.out; have y5 := ZZ37.out; have y6 := ZZ38.out; have y7 := ZZ46.out; have y8 := ZZ55.out; have y9 := ZZ59.out; have y10 := ZZ69.out; have y11 := ZZ77.out; have y12 := ZZ81.out; have y13 := ZZ88.out; have y14 := ZZ91.out; have y15 := ZZ94.out; have y16 := ZZ97.out; have y17 := ZZ101.out; omega)
 have G0_101 : Hid (RowOwn w4v.heap.size w5.heap.size w12 a5 (marks 1 q3)) := G0_98.out.below B_99.out (by have y0 := ZZ2.out; have y1 := ZZ10.out; have y2 := ZZ19.out; have y3 := ZZ24.out; have y4 := ZZ33.out; have y5 := ZZ37.out; have y6 := ZZ38.out; have y7 := ZZ46.out; have y8 := ZZ55.out; have y9 := ZZ59.out; have y10 := ZZ69.out; have y11 := ZZ77.out; have y12 := ZZ81.out; have y13 := ZZ88.out; have y14 := ZZ91.out; have y15 := ZZ94.out; have y16 := ZZ97.out; have y17 := ZZ101.out; omega)
 clear W0_97 G0_98
 clear B_99
 rw [← HMM.out]
 have q_103 : w12.cell? ⟨w.heap.size, 0, none⟩ = some (.bool e1) := HD_100.out.cell (b := w.heap.size) (vs := [.bool e1, .slice a1 n1 x1, .slice b1 m1 y1, .slice c1 k1 z1]) (i := 0) (by simp) (by simp)
 have q_104 : w12.cell? ⟨w.heap.size, 1, none⟩ = some (.slice a1 n1 x1) := HD_100.out.cell (b := w.heap.size) (vs := [.bool e1, .slice a1 n1 x1, .slice b1 m1 y1, .slice c1 k1 z1]) (i := 1) (by simp) (by simp)
 have q_105 : w12.cell? ⟨w.heap.size, 2, none⟩ = some (.slice b1 m1 y1) := HD_100.out.cell (b := w.heap.size) (vs := [.bool e1, .slice a1 n1 x1, .slice b1 m1 y1, .slice c1 k1 z1]) (i := 2) (by simp) (by simp)
 have q_106 : w12.cell? ⟨w.heap.size, 3, none⟩ = some (.slice c1 k1 z1) := HD_100.out.cell (b := w.heap.size) (vs := [.bool e1, .slice a1 n1 x1, .slice b1 m1 y1, .slice c1 k1 z1]) (i := 3) (by simp) (by simp)
 go_wp2_with fail
 refine (toQuery_any 0 w.heap.size e1 a1 b1 c1 n1 x1 m1 y1 k1 z1 o1 t1 f1 _ (HR1.out.below HD_100.out.bel (Nat.le_refl _)) HD_100.out.bel.size HM1.out.1).mono ?_
 rintro e w13 ⟨gza, gzb, gzc, rfl, X_102, B_107⟩
 clear q_103 q_104 q_105 q_106
 have HD_108 : Hid (Hold w w13 [(w4.heap.size, [.bool e1, .slice (some ⟨gxa, 0, none⟩) n1 n1, .slice (some ⟨gxb, 0, none⟩) m1 m1, .slice (some ⟨gxc, 0, none⟩) k1 k1]), (w.heap.size, [.bool e1, .slice a1 n1 x1, .slice b1 m1 y1, .slice c1 k1 z1])]) := HD_100.out.below B_107.out
 clear HD_100
 have ZZ109 : Hid (w12.heap.size ≤ w13.heap.size) := B_107.out.size
 have W0_109 : Hid (RowOwn w2v.heap.size w3.heap.size w13 a3 R) := W0_101.out.below B_107.out (by have y0 := ZZ2.out; have y1 := ZZ10.out; have y2 := ZZ19.out; have y3 := ZZ24.out; have y4 := ZZ33.out; have y5 := ZZ37.out; have y6 := ZZ38.out; have y7 := ZZ46.out; have y8 := ZZ55.out; have y9 := ZZ59.out; have y10 := ZZ69.out; have y11 := ZZ77.out; have y12 := ZZ81.out; have y13 := ZZ88.out; have y14 := ZZ91.out; have y15 := ZZ94.out; have y16 := ZZ97.out; have y17 := ZZ101.out; have y18 := ZZ109.out; omega)
 have G0_109 : Hid (RowOwn w4v.heap.size w5.heap.size w13 a5 (marks 1 q3)) := G0_101.out.below B_107.out (by have y0 := ZZ2.out; have y1 := ZZ10.out; have y2 := ZZ19.out; have y3 := ZZ24.out; have y4 := ZZ33.out; have y5 := ZZ37.out; have y6 := ZZ38.out; have y7 := ZZ46.out; have y8 := ZZ55.out; have y9 := ZZ59.out; have y10 := ZZ69.out; have y11 := ZZ77.out; have y12 := ZZ81.out; have y13 := ZZ88.out; have y14 := ZZ91.out; have y15 := ZZ94.out; have y16 := ZZ97.out; have y17 := ZZ101.out; have y18 := ZZ109.out; omega)
 clear W0_101 G0_101
 clear B_107
 have T2_110 : Hid (QOwn w12.heap.size w13.heap.size w13 (some ⟨gza, 0, none⟩) (some ⟨gzb, 0, none⟩) (some ⟨gzc, 0, none⟩) n1 m1 k1 (tC o1) (aC t1) (fC f1)) := X_102.out
 clear X_102
 have q_112 : w13.cell? ⟨w.heap.size, 0, none⟩ = some (.bool e1) := HD_108.out.cell (b := w.heap.size) (vs := [.bool e1, .slice a1 n1 x1, .slice b1 m1 y1, .slice c1 k1 z1]) (i := 0) (by simp) (by simp)
 have q_113 : w13.cell? ⟨w.heap.size, 1, none⟩ = some (.slice a1 n1 x1) := HD_108.out.cell (b := w.heap.size) (vs := [.bool e1, .slice a1 n1 x1, .slice b1 m1 y1, .slice c1 k1 z1]) (i := 1) (by simp) (by simp)
 have q_114 : w13.cell? ⟨w.heap.size, 2, none⟩ = some (.slice b1 m1 y1) := HD_108.out.cell (b := w.heap.size) (vs := [.bool e1, .slice a1 n1 x1, .slice b1 m1 y1, .slice c1 k1 z1]) (i := 2) (by simp) (by simp)
 have q_115 : w13.cell? ⟨w.heap.size, 3, none⟩ = some (.slice c1 k1 z1) := HD_108.out.cell (b := w.heap.size) (vs := [.bool e1, .slice a1 n1 x1, .slice b1 m1 y1, .slice c1 k1 z1]) (i := 3) (by simp) (by simp)
 go_wp2_with fail
 refine (toInts_any 0 w.heap.size a2 n2 x2 l2 _ (HR2.out.below HD_108.out.bel (Nat.le_refl _)) HD_108.out.bel.size HL2.out hm2).mono ?_
 rintro e w13v ⟨rfl, X_111, B_116b, _⟩
 have B_116 : Hid (Below w13.heap.size w13 w13v) := B_116b
 clear B_116b
 clear q_112 q_113 q_114 q_115
 obtain ⟨gi111, Hgi111⟩ : ∃ g, Hid (g = w13.heap.size) := ⟨_, rfl⟩
 rw [← Hgi111.out]
 have HD_117 : Hid (Hold w w13v [(w4.heap.size, [.bool e1, .slice (some ⟨gxa, 0, none⟩) n1 n1, .slice (some ⟨gxb, 0, none⟩) m1 m1, .slice (some ⟨gxc, 0, none⟩) k1 k1]), (w.heap.size, [.bool e1, .slice a1 n1 x1, .slice b1 m1 y1, .slice c1 k1 z1])]) := HD_108.out.below B_116.out
 clear HD_108
 have ZZ118 : Hid (w13.heap.size ≤ w13v.heap.size) := B_116.out.size
 have W0_118 : Hid (RowOwn w2v.heap.size w3.heap.size w13v a3 R) := W0_109.out.below B_116.out (by have y0 := ZZ2.out; have y1 := ZZ10.out; have y2 := ZZ19.out; have y3 := ZZ24.out; have y4 := ZZ33.out; have y5 := ZZ37.out; have y6 := ZZ38.out; have y7 := ZZ46.out; have y8 := ZZ55.out; have y9 := ZZ59.out; have y10 := ZZ69.out; have y11 := ZZ77.out; have y12 := ZZ81.out; have y13 := ZZ88.out; have y14 := ZZ91.out; have y15 := ZZ94.out; have y16 := ZZ97.out; have y17 := ZZ101.out; have y18 := ZZ109.out; have y19 := ZZ118.out; omega)
 have G0_118 : Hid (RowOwn w4v.heap.size w5.heap.size w13v a5 (marks 1 q3)) := G0_109.out.below B_116.out (by have y0 := ZZ2.out; have y1 := ZZ10.out; have y2 := ZZ19.out; have y3 := ZZ24.out; have y4 := ZZ33.out; have y5 := ZZ37.out; have y6 := ZZ38.out; have y7 := ZZ46.out; have y8 := ZZ55.out; have y9 := ZZ59.out; have y10 := ZZ69.out; have y11 := ZZ77.out; have y12 := ZZ81.out; have y13 := ZZ88.out; have y14 := ZZ91.out; have y15 := ZZ94.out; have y16 := ZZ97.out; have y17 := ZZ101.out; have y18 := ZZ109.out; have y19 := ZZ118.out; omega)
 have T2_118 : Hid (QOwn w12.heap.size w13.heap.size w13v (some ⟨gza, 0, none⟩) (some ⟨gzb, 0, none⟩) (some ⟨gzc, 0, none⟩) n1 m1 k1 (tC o1) (aC t1) (fC f1)) := T2_110.out.below B_116.out (by have y0 := ZZ2.out; have y1 := ZZ10.out; have y2 := ZZ19.out; have y3 := ZZ24.out; have y4 := ZZ33.out; have y5 := ZZ37.out; have y6 := ZZ38.out; have y7 := ZZ46.out; have y8 := ZZ55.out; have y9 := ZZ59.out; have y10 := ZZ69.out; have y11 := ZZ77.out; have y12 := ZZ81.out; have y13 := ZZ88.out; have y14 := ZZ91.out; have y15 := ZZ94.out; have y16 := ZZ97.out; have y17 := ZZ101.out; have y18 := ZZ109.out; have y19 := ZZ118.out; omega)
 clear W0_109 G0_109 T2_110
 clear B_116
 have V3_119 : Hid (RowOwn w13.heap.size w13v.heap.size w13v (some ⟨gi111, 0, none⟩) l2) := by rw [Hgi111.out]; exact X_111
 clear X_111
 go_wp2_with fail
 refine (implOutRow_any w12.heap.size w13.heap.size e1 (some ⟨gza, 0, none⟩) (some ⟨gzb, 0, none⟩) (some ⟨gzc, 0, none⟩) n1 n1 m1 m1 k1 k1 o1 t1 f1 w13.heap.size w13v.heap.size (some ⟨gi111, 0, none⟩) n2 n2 l2 _ T2_118.out.toIn (by have y0 := ZZ2.out; have y1 := ZZ10.out; have y2 := ZZ19.out; have y3 := ZZ24.out; have y4 := ZZ33.out; have y5 := ZZ37.out; have y6 := ZZ38.out; have y7 := ZZ46.out; have y8 := ZZ55.out; have y9 := ZZ59.out; have y10 := ZZ69.out; have y11 := ZZ77.out; have y12 := ZZ81.out; have y13 := ZZ88.out; have y14 := ZZ91.out; have y15 := ZZ94.out; have y16 := ZZ97.out; have y17 := ZZ101.out; have y18 := ZZ109.out; have y19 := ZZ118.out; omega) HL1.out HM1.out ⟨Nat.le_refl _, by have := HM1.out.1; omega⟩ V3_119.out.toIn (by have y0 := ZZ2.out; have y1 := ZZ10.out; have y2 := ZZ19.out; have y3 := ZZ24.out; have y4 := ZZ33.out; have y5 := ZZ37.out; have y6 := ZZ38.out; have y7 := ZZ46.out; have y8 := ZZ55.out; have y9 := ZZ59.out; have y10 := ZZ69.out; have y11 := ZZ77.out; have y12 := ZZ81.out; have y13 := ZZ88.out; have y14 := ZZ91.out; have y15 := ZZ94.out; have y16 := ZZ97.out; have y17 := ZZ101.out; have y18 := ZZ109.out; have y19 := ZZ118.out; omega) HL2.out).mono ?_
 rintro e w14 ⟨a14, q14, c14, rfl, Y_120, X_120, B_121⟩
 have HD_122 : Hid (Hold w w14 [(w4.heap.size, [.bool e1, .slice (some ⟨gxa, 0, none⟩) n1 n1, .slice (some ⟨gxb, 0, none⟩) m1 m1, .slice (some ⟨gxc, 0, none⟩) k1 k1]), (w.heap.size, [.bool e1, .slice a1 n1 x1, .slice b1 m1 y1, .slice c1 k1 z1])]) := HD_117.out.below B_121.out
 clear HD_117
 have ZZ123 : Hid (w13v.heap.size ≤ w14.heap.size) := B_121.out.size
 have W0_123 : Hid (RowOwn w2v.heap.size w3.heap.size w14 a3 R) := W0_118.out.below B_121.out (by have y0 := ZZ2.out; have y1 := ZZ10.out; have y2 := ZZ19.out; have y3 := ZZ24.out; have y4 := ZZ33.out; have y5 := ZZ37.out; have y6 := ZZ38.out; have y7 := ZZ46.out; have y8 := ZZ55.out; have y9 := ZZ59.out; have y10 := ZZ69.out; have y11 := ZZ77.out; have y12 := ZZ81.out; have y13 := ZZ88.out; have y14 := ZZ91.out; have y15 := ZZ94.out; have y16 := ZZ97.out; have y17 := ZZ101.out; have y18 := ZZ109.out; have y19 := ZZ118.out; have y20 := ZZ123.out; omega)
 have G0_123 : Hid (RowOwn w4v.heap.size w5.heap.size w14 a5 (marks 1 q3)) := G0_118.out.below B_121.out (by have y0 := ZZ2.out; have y1 := ZZ10.out; have y2 := ZZ19.out; have y3 := ZZ24.out; have y4 := ZZ33.out; have y5 := ZZ37.out; have y6 := ZZ38.out; have y7 := ZZ46.out; have y8 := ZZ55.out; have y9 := ZZ59.out; have y10 := ZZ69.out; have y11 := ZZ77.out; have y12 := ZZ81.out; have y13 := ZZ88.out; have y14 := ZZ91.out; have y15 := ZZ94.out; have y16 := ZZ97.out; have y17 := ZZ101.out; have y18 := ZZ109.out; have y19 := ZZ118.out; have y20 := ZZ123.out; omega)
 have T2_123 : Hid (QOwn w12.heap.size w13.heap.size w14 (some ⟨gza, 0, none⟩) (some ⟨gzb, 0, none⟩) (some ⟨gzc, 0, none⟩) n1 m1 k1 (tC o1) (aC t1) (fC f1)) := T2_118.out.below B_121.out (by have y0 := ZZ2.out; have y1 := ZZ10.out; have y2 := ZZ19.out; have y3 := ZZ24.out; have y4 := ZZ33.out; have y5 := ZZ37.out; have y6 := ZZ38.out; have y7 := ZZ46.out; have y8 := ZZ55.out; have y9 := ZZ59.out; have y10 := ZZ69.out; have y11 := ZZ77.out; have y12 := ZZ81.out; have y13 := ZZ88.out; have y14 := ZZ91.out; have y15 := ZZ94.out; have y16 := ZZ97.out; have y17 := ZZ101.out; have y18 := ZZ109.out; have y19 := ZZ118.out; have y20 := ZZ123.out; omega)
 have V3_123 : Hid (RowOwn w13.heap.size w13v.heap.size w14 (some ⟨gi111, 0, none⟩) l2) := V3_119.out.below B_121.out (by have y0 := ZZ2.out; have y1 := ZZ10.out; have y2 := ZZ19.out; have y3 := ZZ24.out; have y4 := ZZ33.out; have y5 := ZZ37.out; have y6 := ZZ38.out; have y7 := ZZ46.out; have y8 := ZZ55.out; have y9 := ZZ59.out; have y10 := ZZ69.out; have y11 := ZZ77.out; have y12 := ZZ81.out; have y13 := ZZ88.out; have y14 := ZZ91.out; have y15 := ZZ94.out; have y16 := ZZ97.out; have y17 := ZZ101.out; have y18 := ZZ109.out; have y19 := ZZ118.out; have y20 := ZZ123.out; omega)
 clear W0_118 G0_118 T2_118 V3_119
 clear B_121
 rw [← HRL.out] at X_120 Y_120
 have H0_124 : Hid (RowOwn w13v.heap.size w14.heap.size w14 a14 R) := X_120.out
 clear X_120
 obtain rfl : q3 = q14 := by rw [← Y_21.out, ← Y_120.out]
 clear T2_123
 clear V3_123
 go_wp2_with fail
 refine (eqInts_any w13v.heap.size w14.heap.size w2v.heap.size w3.heap.size a14 a3 q3 q3 c14 c3 R R true _ H0_124.out.toIn W0_123.out.toIn Y_21.out Y_21.out (by have := HQ3.out; omega) (by simp)).mono ?_
 rintro e w15 ⟨rfl, B_125b⟩
 have B_125 : Hid (Below w14.heap.size w14 w15) := B_125b
 clear B_125b
 have HD_126 : Hid (Hold w w15 [(w4.heap.size, [.bool e1, .slice (some ⟨gxa, 0, none⟩) n1 n1, .slice (some ⟨gxb, 0, none⟩) m1 m1, .slice (some ⟨gxc, 0, none⟩) k1 k1]), (w.heap.size, [.bool e1, .slice a1 n1 x1, .slice b1 m1 y1, .slice c1 k1 z1])]) := HD_122.out.below B_125.out
 clear HD_122
 have ZZ127 : Hid (w14.heap.size ≤ w15.heap.size) := B_125.out.size
 have W0_127 : Hid (RowOwn w2v.heap.size w3.heap.size w15 a3 R) := W0_123.out.below B_125.out (by have y0 := ZZ2.out; have y1 := ZZ10.out; have y2 := ZZ19.out; have y3 := ZZ24.out; have y4 := ZZ33.out; have y5 := ZZ37.out; have y6 := ZZ38.out; have y7 := ZZ46.out; have y8 := ZZ55.out; have y9 := ZZ59.out; have y10 := ZZ69.out; have y11 := ZZ77.out; have y12 := ZZ81.out; have y13 := ZZ88.out; have y14 := ZZ91.out; have y15 := ZZ94.out; have y16 := ZZ97.out; have y17 := ZZ101.out; have y18 := ZZ109.out; have y19 := ZZ118.out; have y20 := ZZ123.out; have y21 := ZZ127.out; omega)
 have G0_127 : Hid (RowOwn w4v.heap.size w5.heap.size w15 a5 (marks 1 q3)) := G0_123.out.below B_125.out (by have y0 := ZZ2.out; have y1 := ZZ10.out; have y2 := ZZ19.out; have y3 := ZZ24.out; have y4 := ZZ33.out; have y5 := ZZ37.out; have y6 := ZZ38.out; have y7 := ZZ46.out; have y8 := ZZ55.out; have y9 := ZZ59.out; have y10 := ZZ69.out; have y11 := ZZ77.out; have y12 := ZZ81.out; have y13 := ZZ88.out; have y14 := ZZ91.out; have y15 := ZZ94.out; have y16 := ZZ97.out; have y17 := ZZ101.out; have y18 := ZZ109.out; have y19 := ZZ118.out; have y20 := ZZ123.out; have y21 := ZZ127.out; omega)
 have H0_127 : Hid (RowOwn w13v.heap.size w14.heap.size w15 a14 R) := H0_124.out.below B_125.out (by have y0 := ZZ2.out; have y1 := ZZ10.out; have y2 := ZZ19.out; have y3 := ZZ24.out; have y4 := ZZ33.out; have y5 := ZZ37.out; have y6 := ZZ38.out; have y7 := ZZ46.out; have y8 := ZZ55.out; have y9 := ZZ59.out; have y10 := ZZ69.out; have y11 := ZZ77.out; have y12 := ZZ81.out; have y13 := ZZ88.out; have y14 := ZZ91.out; have y15 := ZZ94.out; have y16 := ZZ97.out; have y17 := ZZ101.out; have y18 := ZZ109.out; have y19 := ZZ118.out; have y20 := ZZ123.out; have y21 := ZZ127.out; omega)
 clear W0_123 G0_123 H0_124
 clear B_125
 go_wp2_with fail
 refine (heldRow_any w4v.heap.size w5.heap.size a5 q3 c5 1 _ G0_127.out.toIn (by have := HQ3.out; omega) (by omega)).mono ?_
 rintro e w16 ⟨rfl, B_128⟩
 have HD_129 : Hid (Hold w w16 [(w4.heap.size, [.bool e1, .slice (some ⟨gxa, 0, none⟩) n1 n1, .slice (some ⟨gxb, 0, none⟩) m1 m1, .slice (some ⟨gxc, 0, none⟩) k1 k1]), (w.heap.size, [.bool e1, .slice a1 n1 x1, .slice b1 m1 y1, .slice c1 k1 z1])]) := HD_126.out.below B_128.out
 clear HD_126
 have ZZ130 : Hid (w15.heap.size ≤ w16.heap.size) := B_128.out.size
 have W0_130 : Hid (RowOwn w2v.heap.size w3.heap.size w16 a3 R) := W0_127.out.below B_128.out (by have y0 := ZZ2.out; have y1 := ZZ10.out; have y2 := ZZ19.out; have y3 := ZZ24.out; have y4 := ZZ33.out; have y5 := ZZ37.out; have y6 := ZZ38.out; have y7 := ZZ46.out; have y8 := ZZ55.out; have y9 := ZZ59.out; have y10 := ZZ69.out; have y11 := ZZ77.out; have y12 := ZZ81.out; have y13 := ZZ88.out; have y14 := ZZ91.out; have y15 := ZZ94.out; have y16 := ZZ97.out; have y17 := ZZ101.out; have y18 := ZZ109.out; have y19 := ZZ118.out; have y20 := ZZ123.out; have y21 := ZZ127.out; have y22 := ZZ130.out; omega)
 have G0_130 : Hid (RowOwn w4v.heap.size w5.heap.size w16 a5 (marks 1 q3)) := G0_127.out.below B_128.out (by have y0 := ZZ2.out; have y1 := ZZ10.out; have y2 := ZZ19.out; have y3 := ZZ24.out; have y4 := ZZ33.out; have y5 := ZZ37.out; have y6 := ZZ38.out; have y7 := ZZ46.out; have y8 := ZZ55.out; have y9 := ZZ59.out; have y10 := ZZ69.out; have y11 := ZZ77.out; have y12 := ZZ81.out; have y13 := ZZ88.out; have y14 := ZZ91.out; have y15 := ZZ94.out; have y16 := ZZ97.out; have y17 := ZZ101.out; have y18 := ZZ109.out; have y19 := ZZ118.out; have y20 := ZZ123.out; have y21 := ZZ127.out; have y22 := ZZ130.out; omega)
 have H0_130 : Hid (RowOwn w13v.heap.size w14.heap.size w16 a14 R) := H0_127.out.below B_128.out (by have y0 := ZZ2.out; have y1 := ZZ10.out; have y2 := ZZ19.out; have y3 := ZZ24.out; have y4 := ZZ33.out; have y5 := ZZ37.out; have y6 := ZZ38.out; have y7 := ZZ46.out; have y8 := ZZ55.out; have y9 := ZZ59.out; have y10 := ZZ69.out; have y11 := ZZ77.out; have y12 := ZZ81.out; have y13 := ZZ88.out; have y14 := ZZ91.out; have y15 := ZZ94.out; have y16 := ZZ97.out; have y17 := ZZ101.out; have y18 := ZZ109.out; have y19 := ZZ118.out; have y20 := ZZ123.out; have y21 := ZZ127.out; have y22 := ZZ130.out; omega)
 clear W0_127 G0_127 H0_127
 clear B_128
 rw [← HMM.out]
 go_wp2
 go_ret
 exact ⟨rfl, HD_129.out.bel⟩
end Go.Proofs.YtbepmeipjdpipaaGreat
