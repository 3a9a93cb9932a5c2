/-
  The walk of FnExactTurned.
-/
import Derived.Test.YtfeimdlkpiacoaaGTrI
import Derived.Test.YtfeimdlkpiacoaaGTrS
import Derived.Test.YtfeimdlkpiacoaaHld
import Derived.Test.YtfeimdlkpiacoaaEdH
namespace Go.Proofs.Ytfeimdlkpiacoaa
open Go.RowKit

theorem gturn_len {s : Int} {l : List Ed} {n m : Nat} (h : l.length = n) (hm : (gturn s l).length = m) : m = n := by
  unfold gturn at hm
  split at hm
  · rename_i ho; rw [turnL_len (okG_iff.1 ho).2.2.2] at hm; omega
  · omega

set_option maxHeartbeats 8000000 in
set_option maxRecDepth 100000 in
theorem law_6 (s0 : Int) (a0 : Option Addr) (n0 cap0 : Nat) (l0 : List Ed) (w : World) (hm0 : n0 ≤ maxLen) (hl0 : l0.length = n0) (hr0 : EdgesIn 0 w.heap.size w a0 l0) :
    Calls Try.prog 6 #[gv s0 a0 n0 cap0] w fun e w' => e = .returned (.bool true) ∧ Below w.heap.size w w' := by
  have HR0 : Hid (EdgesIn 0 w.heap.size w a0 l0) := hr0
  have HL0 : Hid (l0.length = n0) := hl0
  have HMX : Hid (n0 ≤ 9223372036854775807) := by unfold maxLen at hm0; show _ ≤ _; omega
  clear hr0 hl0 hm0
  obtain ⟨LL, HLL⟩ : ∃ LL, Hid (LL = gturn s0 l0) := ⟨_, rfl⟩
  go_enter Try.func6, Try.ntmps6
  go_wp2_with fail
  refine (szGraph_any a0 n0 cap0 1048576 s0 _ HMX.out (by omega)).mono ?_
  rintro e w1 ⟨x, rfl, HX, hb1⟩
  have HD_1 : Hid (Hold w w1 [(w.heap.size, [.int .i64 s0, .slice a0 n0 cap0])]) := ((Hold.none w).more [.int .i64 s0, .slice a0 n0 cap0] 24).below hb1.out
  clear hb1
  by_cases hx : x < 0
  · go_wp2
    go_ret
    exact ⟨rfl, HD_1.out.bel⟩
  have HM : Hid (n0 ≤ 1048576) := by
    rcases HX.out with h | h
    · omega
    · exact h
  clear HX
  have ZZ2 : Hid (w.heap.size < w1.heap.size) := HD_1.out.lt (vs := [.int .i64 s0, .slice a0 n0 cap0]) (by simp)
  have q_4 : w1.cell? ⟨w.heap.size, 0, none⟩ = some (.int .i64 s0) := HD_1.out.cell (b := w.heap.size) (vs := [.int .i64 s0, .slice a0 n0 cap0]) (i := 0) (by simp) (by simp)
  have q_5 : w1.cell? ⟨w.heap.size, 1, none⟩ = some (.slice a0 n0 cap0) := HD_1.out.cell (b := w.heap.size) (vs := [.int .i64 s0, .slice a0 n0 cap0]) (i := 1) (by simp) (by simp)
  go_wp2_with fail
  refine (toGraph_any 0 w.heap.size s0 a0 n0 cap0 l0 _ (HR0.out.below HD_1.out.bel (Nat.le_refl _)) HD_1.out.bel.size HL0.out HM.out).mono ?_
  rintro e w2 ⟨g2, rfl, X_3, B_6⟩
  clear q_4 q_5
  have HD_7 : Hid (Hold w w2 [(w.heap.size, [.int .i64 s0, .slice a0 n0 cap0])]) := HD_1.out.below B_6.out
  clear HD_1
  have ZZ8 : Hid (w1.heap.size ≤ w2.heap.size) := B_6.out.size
  clear B_6
  have T1_9 : Hid (EdgesOwn w1.heap.size w2.heap.size w2 (some ⟨g2, 0, none⟩) l0) := X_3.out
  clear X_3
  go_wp2_with fail
  refine (specTurned_any w1.heap.size w2.heap.size s0 (some ⟨g2, 0, none⟩) n0 n0 l0 _ T1_9.out.toIn (by have y0 := ZZ2.out; have y1 := ZZ8.out; omega) HL0.out HM.out).mono ?_
  rintro e w3 ⟨a3, n3, cap3, rfl, HN_10, X_10, B_11⟩
  have HD_12 : Hid (Hold w w3 [(w.heap.size, [.int .i64 s0, .slice a0 n0 cap0])]) := HD_7.out.below B_11.out
  clear HD_7
  have ZZ13 : Hid (w2.heap.size ≤ w3.heap.size) := B_11.out.size
  have T1_13 : Hid (EdgesOwn w1.heap.size w2.heap.size w3 (some ⟨g2, 0, none⟩) l0) := T1_9.out.below B_11.out (by have y0 := ZZ2.out; have y1 := ZZ8.out; have y2 := ZZ13.out; omega)
  clear T1_9
  clear B_11
  obtain rfl : n0 = n3 := (gturn_len HL0.out HN_10.out).symm
  rw [← HLL.out] at HN_10 X_10
  have W0_14 : Hid (EdgesOwn w2.heap.size w3.heap.size w3 a3 LL) := X_10.out
  clear X_10
  have HN3 : Hid (LL.length = n0) := HN_10.out
  clear HN_10
  clear T1_13
  have BA_15 : Hid (Below w3.heap.size w3 (w3.alloc (.cells #[.int .i64 s0, .slice a3 n0 cap3] 29))) := below1' w3 _
  have HD_16 : Hid (Hold w (w3.alloc (.cells #[.int .i64 s0, .slice a3 n0 cap3] 29)) [(w3.heap.size, [.int .i64 s0, .slice a3 n0 cap3]), (w.heap.size, [.int .i64 s0, .slice a0 n0 cap0])]) := HD_12.out.more [.int .i64 s0, .slice a3 n0 cap3] 29
  clear HD_12
  have ZZ17 : Hid ((w3.alloc (.cells #[.int .i64 s0, .slice a3 n0 cap3] 29)).heap.size = w3.heap.size + 1) := by show _ = _; simp
  have ZZ18 : Hid (w3.heap.size ≤ (w3.alloc (.cells #[.int .i64 s0, .slice a3 n0 cap3] 29)).heap.size) := BA_15.out.size
  have W0_18 : Hid (EdgesOwn w2.heap.size w3.heap.size (w3.alloc (.cells #[.int .i64 s0, .slice a3 n0 cap3] 29)) a3 LL) := W0_14.out.below BA_15.out (by have y0 := ZZ2.out; have y1 := ZZ8.out; have y2 := ZZ13.out; have y3 := ZZ17.out; have y4 := ZZ18.out; omega)
  clear W0_14
  clear BA_15
  have q_20 : (w3.alloc (.cells #[.int .i64 s0, .slice a3 n0 cap3] 29)).cell? ⟨w.heap.size, 0, none⟩ = some (.int .i64 s0) := HD_16.out.cell (b := w.heap.size) (vs := [.int .i64 s0, .slice a0 n0 cap0]) (i := 0) (by simp) (by simp)
  have q_21 : (w3.alloc (.cells #[.int .i64 s0, .slice a3 n0 cap3] 29)).cell? ⟨w.heap.size, 1, none⟩ = some (.slice a0 n0 cap0) := HD_16.out.cell (b := w.heap.size) (vs := [.int .i64 s0, .slice a0 n0 cap0]) (i := 1) (by simp) (by simp)
  go_wp2_with fail
  refine (toGraph_any 0 w.heap.size s0 a0 n0 cap0 l0 _ (HR0.out.below HD_16.out.bel (Nat.le_refl _)) HD_16.out.bel.size HL0.out HM.out).mono ?_
  rintro e w4 ⟨g4, rfl, X_19, B_22⟩
  clear q_20 q_21
  have HD_23 : Hid (Hold w w4 [(w3.heap.size, [.int .i64 s0, .slice a3 n0 cap3]), (w.heap.size, [.int .i64 s0, .slice a0 n0 cap0])]) := HD_16.out.below B_22.out
  clear HD_16
  have ZZ24 : Hid ((w3.alloc (.cells #[.int .i64 s0, .slice a3 n0 cap3] 29)).heap.size ≤ w4.heap.size) := B_22.out.size
  have W0_24 : Hid (EdgesOwn w2.heap.size w3.heap.size w4 a3 LL) := W0_18.out.below B_22.out (by have y0 := ZZ2.out; have y1 := ZZ8.out; have y2 := ZZ13.out; have y3 := ZZ17.out; have y4 := ZZ18.out; have y5 := ZZ24.out; omega)
  clear W0_18
  clear B_22
  have X0_25 : Hid (EdgesOwn (w3.alloc (.cells #[.int .i64 s0, .slice a3 n0 cap3] 29)).heap.size w4.heap.size w4 (some ⟨g4, 0, none⟩) l0) := X_19.out
  clear X_19
  have BA_26 : Hid (Below w4.heap.size w4 (w4.alloc (.cells #[.int .i64 s0, .slice (some ⟨g4, 0, none⟩) n0 n0] 29))) := below1' w4 _
  have HD_27 : Hid (Hold w (w4.alloc (.cells #[.int .i64 s0, .slice (some ⟨g4, 0, none⟩) n0 n0] 29)) [(w4.heap.size, [.int .i64 s0, .slice (some ⟨g4, 0, none⟩) n0 n0]), (w3.heap.size, [.int .i64 s0, .slice a3 n0 cap3]), (w.heap.size, [.int .i64 s0, .slice a0 n0 cap0])]) := HD_23.out.more [.int .i64 s0, .slice (some ⟨g4, 0, none⟩) n0 n0] 29
  clear HD_23
  have ZZ28 : Hid ((w4.alloc (.cells #[.int .i64 s0, .slice (some ⟨g4, 0, none⟩) n0 n0] 29)).heap.size = w4.heap.size + 1) := by show _ = _; simp
  have ZZ29 : Hid (w4.heap.size ≤ (w4.alloc (.cells #[.int .i64 s0, .slice (some ⟨g4, 0, none⟩) n0 n0] 29)).heap.size) := BA_26.out.size
  have W0_29 : Hid (EdgesOwn w2.heap.size w3.heap.size (w4.alloc (.cells #[.int .i64 s0, .slice (some ⟨g4, 0, none⟩) n0 n0] 29)) a3 LL) := W0_24.out.below BA_26.out (by have y0 := ZZ2.out; have y1 := ZZ8.out; have y2 := ZZ13.out; have y3 := ZZ17.out; have y4 := ZZ18.out; have y5 := ZZ24.out; have y6 := ZZ28.out; have y7 := ZZ29.out; omega)
  have X0_29 : Hid (EdgesOwn (w3.alloc (.cells #[.int .i64 s0, .slice a3 n0 cap3] 29)).heap.size w4.heap.size (w4.alloc (.cells #[.int .i64 s0, .slice (some ⟨g4, 0, none⟩) n0 n0] 29)) (some ⟨g4, 0, none⟩) l0) := X0_25.out.below BA_26.out (by have y0 := ZZ2.out; have y1 := ZZ8.out; have y2 := ZZ13.out; have y3 := ZZ17.out; have y4 := ZZ18.out; have y5 := ZZ24.out; have y6 := ZZ28.out; have y7 := ZZ29.out; omega)
  clear W0_24 X0_25
  clear BA_26
  have q_31 : (w4.alloc (.cells #[.int .i64 s0, .slice (some ⟨g4, 0, none⟩) n0 n0] 29)).cell? ⟨w4.heap.size, 0, none⟩ = some (.int .i64 s0) := HD_27.out.cell (b := w4.heap.size) (vs := [.int .i64 s0, .slice (some ⟨g4, 0, none⟩) n0 n0]) (i := 0) (by simp) (by simp)
  have q_32 : (w4.alloc (.cells #[.int .i64 s0, .slice (some ⟨g4, 0, none⟩) n0 n0] 29)).cell? ⟨w4.heap.size, 1, none⟩ = some (.slice (some ⟨g4, 0, none⟩) n0 n0) := HD_27.out.cell (b := w4.heap.size) (vs := [.int .i64 s0, .slice (some ⟨g4, 0, none⟩) n0 n0]) (i := 1) (by simp) (by simp)
  go_wp2_with fail
  refine (turned_any (w3.alloc (.cells #[.int .i64 s0, .slice a3 n0 cap3] 29)).heap.size w4.heap.size s0 (some ⟨g4, 0, none⟩) n0 n0 l0 _ X0_29.out.toIn (by have y0 := ZZ2.out; have y1 := ZZ8.out; have y2 := ZZ13.out; have y3 := ZZ17.out; have y4 := ZZ18.out; have y5 := ZZ24.out; have y6 := ZZ28.out; have y7 := ZZ29.out; omega) HL0.out HM.out).mono ?_
  rintro e w5 ⟨a5, n5, cap5, rfl, HN_30, X_30, B_33⟩
  clear q_31 q_32
  have HD_34 : Hid (Hold w w5 [(w4.heap.size, [.int .i64 s0, .slice (some ⟨g4, 0, none⟩) n0 n0]), (w3.heap.size, [.int .i64 s0, .slice a3 n0 cap3]), (w.heap.size, [.int .i64 s0, .slice a0 n0 cap0])]) := HD_27.out.below B_33.out
  clear HD_27
  have ZZ35 : Hid ((w4.alloc (.cells #[.int .i64 s0, .slice (some ⟨g4, 0, none⟩) n0 n0] 29)).heap.size ≤ w5.heap.size) := B_33.out.size
  have W0_35 : Hid (EdgesOwn w2.heap.size w3.heap.size w5 a3 LL) := W0_29.out.below B_33.out (by have y0 := ZZ2.out; have y1 := ZZ8.out; have y2 := ZZ13.out; have y3 := ZZ17.out; have y4 := ZZ18.out; have y5 := ZZ24.out; have y6 := ZZ28.out; have y7 := ZZ29.out; have y8 := ZZ35.out; omega)
  have X0_35 : Hid (EdgesOwn (w3.alloc (.cells #[.int .i64 s0, .slice a3 n0 cap3] 29)).heap.size w4.heap.size w5 (some ⟨g4, 0, none⟩) l0) := X0_29.out.below B_33.out (by have y0 := ZZ2.out; have y1 := ZZ8.out; have y2 := ZZ13.out; have y3 := ZZ17.out; have y4 := ZZ18.out; have y5 := ZZ24.out; have y6 := ZZ28.out; have y7 := ZZ29.out; have y8 := ZZ35.out; omega)
  clear W0_29 X0_29
  clear B_33
  obtain rfl : n0 = n5 := (gturn_len HL0.out HN_30.out).symm
  rw [← HLL.out] at HN_30 X_30
  have G0_36 : Hid (EdgesOwn (w4.alloc (.cells #[.int .i64 s0, .slice (some ⟨g4, 0, none⟩) n0 n0] 29)).heap.size w5.heap.size w5 a5 LL) := X_30.out
  clear X_30
  clear HN_30
  have BA_37 : Hid (Below w5.heap.size w5 (w5.alloc (.cells #[.int .i64 s0, .slice a5 n0 cap5] 29))) := below1' w5 _
  have HD_38 : Hid (Hold w (w5.alloc (.cells #[.int .i64 s0, .slice a5 n0 cap5] 29)) [(w5.heap.size, [.int .i64 s0, .slice a5 n0 cap5]), (w4.heap.size, [.int .i64 s0, .slice (some ⟨g4, 0, none⟩) n0 n0]), (w3.heap.size, [.int .i64 s0, .slice a3 n0 cap3]), (w.heap.size, [.int .i64 s0, .slice a0 n0 cap0])]) := HD_34.out.more [.int .i64 s0, .slice a5 n0 cap5] 29
  clear HD_34
  have ZZ39 : Hid ((w5.alloc (.cells #[.int .i64 s0, .slice a5 n0 cap5] 29)).heap.size = w5.heap.size + 1) := by show _ = _; simp
  have ZZ40 : Hid (w5.heap.size ≤ (w5.alloc (.cells #[.int .i64 s0, .slice a5 n0 cap5] 29)).heap.size) := BA_37.out.size
  have W0_40 : Hid (EdgesOwn w2.heap.size w3.heap.size (w5.alloc (.cells #[.int .i64 s0, .slice a5 n0 cap5] 29)) a3 LL) := W0_35.out.below BA_37.out (by have y0 := ZZ2.out; have y1 := ZZ8.out; have y2 := ZZ13.out; have y3 := ZZ17.out; have y4 := ZZ18.out; have y5 := ZZ24.out; have y6 := ZZ28.out; have y7 := ZZ29.out; have y8 := ZZ35.out; have y9 := ZZ39.out; have y10 := ZZ40.out; omega)
  have X0_40 : Hid (EdgesOwn (w3.alloc (.cells #[.int .i64 s0, .slice a3 n0 cap3] 29)).heap.size w4.heap.size (w5.alloc (.cells #[.int .i64 s0, .slice a5 n0 cap5] 29)) (some ⟨g4, 0, none⟩) l0) := X0_35.out.below BA_37.out (by have y0 := ZZ2.out; have y1 := ZZ8.out; have y2 := ZZ13.out; have y3 := ZZ17.out; have y4 := ZZ18.out; have y5 := ZZ24.out; have y6 := ZZ28.out; have y7 := ZZ29.out; have y8 := ZZ35.out; have y9 := ZZ39.out; have y10 := ZZ40.out; omega)
  have G0_40 : Hid (EdgesOwn (w4.alloc (.cells #[.int .i64 s0, .slice (some ⟨g4, 0, none⟩) n0 n0] 29)).heap.size w5.heap.size (w5.alloc (.cells #[.int .i64 s0, .slice a5 n0 cap5] 29)) a5 LL) := G0_36.out.below BA_37.out (by have y0 := ZZ2.out; have y1 := ZZ8.out; have y2 := ZZ13.out; have y3 := ZZ17.out; have y4 := ZZ18.out; have y5 := ZZ24.out; have y6 := ZZ28.out; have y7 := ZZ29.out; have y8 := ZZ35.out; have y9 := ZZ39.out; have y10 := ZZ40.out; omega)
  clear W0_35 X0_35 G0_36
  clear BA_37
  have q_41 : (w5.alloc (.cells #[.int .i64 s0, .slice a5 n0 cap5] 29)).cell? ⟨w3.heap.size, 0, none⟩ = some (.int .i64 s0) := HD_38.out.cell (b := w3.heap.size) (vs := [.int .i64 s0, .slice a3 n0 cap3]) (i := 0) (by simp) (by simp)
  have q_42 : (w5.alloc (.cells #[.int .i64 s0, .slice a5 n0 cap5] 29)).cell? ⟨w3.heap.size, 1, none⟩ = some (.slice a3 n0 cap3) := HD_38.out.cell (b := w3.heap.size) (vs := [.int .i64 s0, .slice a3 n0 cap3]) (i := 1) (by simp) (by simp)
  go_wp2_with fail
  refine (eqGraph_any (w4.alloc (.cells #[.int .i64 s0, .slice (some ⟨g4, 0, none⟩) n0 n0] 29)).heap.size w5.heap.size w2.heap.size w3.heap.size s0 s0 a5 a3 n0 n0 cap5 cap3 LL LL true _ G0_40.out.toIn W0_40.out.toIn (by have y0 := ZZ2.out; have y1 := ZZ8.out; have y2 := ZZ13.out; have y3 := ZZ17.out; have y4 := ZZ18.out; have y5 := ZZ24.out; have y6 := ZZ28.out; have y7 := ZZ29.out; have y8 := ZZ35.out; have y9 := ZZ39.out; have y10 := ZZ40.out; omega) (by have y0 := ZZ2.out; have y1 := ZZ8.out; have y2 := ZZ13.out; have y3 := ZZ17.out; have y4 := ZZ18.out; have y5 := ZZ24.out; have y6 := ZZ28.out; have y7 := ZZ29.out; have y8 := ZZ35.out; have y9 := ZZ39.out; have y10 := ZZ40.out; omega) HN3.out HN3.out HM.out (by simp)).mono ?_
  rintro e w6 ⟨rfl, B_43⟩
  clear q_41 q_42
  have HD_44 : Hid (Hold w w6 [(w5.heap.size, [.int .i64 s0, .slice a5 n0 cap5]), (w4.heap.size, [.int .i64 s0, .slice (some ⟨g4, 0, none⟩) n0 n0]), (w3.heap.size, [.int .i64 s0, .slice a3 n0 cap3]), (w.heap.size, [.int .i64 s0, .slice a0 n0 cap0])]) := HD_38.out.below B_43.out
  clear HD_38
  have ZZ45 : Hid ((w5.alloc (.cells #[.int .i64 s0, .slice a5 n0 cap5] 29)).heap.size ≤ w6.heap.size) := B_43.out.size
  have W0_45 : Hid (EdgesOwn w2.heap.size w3.heap.size w6 a3 LL) := W0_40.out.below B_43.out (by have y0 := ZZ2.out; have y1 := ZZ8.out; have y2 := ZZ13.out; have y3 := ZZ17.out; have y4 := ZZ18.out; have y5 := ZZ24.out; have y6 := ZZ28.out; have y7 := ZZ29.out; have y8 := ZZ35.out; have y9 := ZZ39.out; have y10 := ZZ40.out; have y11 := ZZ45.out; omega)
  have X0_45 : Hid (EdgesOwn (w3.alloc (.cells #[.int .i64 s0, .slice a3 n0 cap3] 29)).heap.size w4.heap.size w6 (some ⟨g4, 0, none⟩) l0) := X0_40.out.below B_43.out (by have y0 := ZZ2.out; have y1 := ZZ8.out; have y2 := ZZ13.out; have y3 := ZZ17.out; have y4 := ZZ18.out; have y5 := ZZ24.out; have y6 := ZZ28.out; have y7 := ZZ29.out; have y8 := ZZ35.out; have y9 := ZZ39.out; have y10 := ZZ40.out; have y11 := ZZ45.out; omega)
  have G0_45 : Hid (EdgesOwn (w4.alloc (.cells #[.int .i64 s0, .slice (some ⟨g4, 0, none⟩) n0 n0] 29)).heap.size w5.heap.size w6 a5 LL) := G0_40.out.below B_43.out (by have y0 := ZZ2.out; have y1 := ZZ8.out; have y2 := ZZ13.out; have y3 := ZZ17.out; have y4 := ZZ18.out; have y5 := ZZ24.out; have y6 := ZZ28.out; have y7 := ZZ29.out; have y8 := ZZ35.out; have y9 := ZZ39.out; have y10 := ZZ40.out; have y11 := ZZ45.out; omega)
  clear W0_40 X0_40 G0_40
  clear B_43
  have q_46 : w6.cell? ⟨w4.heap.size, 0, none⟩ = some (.int .i64 s0) := HD_44.out.cell (b := w4.heap.size) (vs := [.int .i64 s0, .slice (some ⟨g4, 0, none⟩) n0 n0]) (i := 0) (by simp) (by simp)
  have q_47 : w6.cell? ⟨w4.heap.size, 1, none⟩ = some (.slice (some ⟨g4, 0, none⟩) n0 n0) := HD_44.out.cell (b := w4.heap.size) (vs := [.int .i64 s0, .slice (some ⟨g4, 0, none⟩) n0 n0]) (i := 1) (by simp) (by simp)
  have q_48 : w6.cell? ⟨w.heap.size, 0, none⟩ = some (.int .i64 s0) := HD_44.out.cell (b := w.heap.size) (vs := [.int .i64 s0, .slice a0 n0 cap0]) (i := 0) (by simp) (by simp)
  have q_49 : w6.cell? ⟨w.heap.size, 1, none⟩ = some (.slice a0 n0 cap0) := HD_44.out.cell (b := w.heap.size) (vs := [.int .i64 s0, .slice a0 n0 cap0]) (i := 1) (by simp) (by simp)
  have HC1 : Hid (∀ w0, Below w6.heap.size w6 w0 → Calls Try.prog 11 #[gv s0 a0 n0 cap0] w0 fun e w' => ∃ g : Nat, e = .returned (gv s0 (some ⟨g, 0, none⟩) n0 n0) ∧ Hid (EdgesIn w6.heap.size w'.heap.size w' (some ⟨g, 0, none⟩) l0) ∧ Hid (Below w6.heap.size w6 w') ∧ (w'.cell? ⟨w4.heap.size, 0, none⟩ = some (.int .i64 s0) ∧ w'.cell? ⟨w4.heap.size, 1, none⟩ = some (.slice (some ⟨g4, 0, none⟩) n0 n0) ∧ w'.cell? ⟨w.heap.size, 0, none⟩ = some (.int .i64 s0) ∧ w'.cell? ⟨w.heap.size, 1, none⟩ = some (.slice a0 n0 cap0))) := fun w0 h =>
    (toGraph_any 0 w.heap.size s0 a0 n0 cap0 l0 w0 (HR0.out.below (HD_44.out.below h).bel (Nat.le_refl _)) (HD_44.out.below h).bel.size HL0.out HM.out).mono fun _ w' ⟨g, h1, h2, h4⟩ =>
      have h3 : Hid (Hold w w' [(w5.heap.size, [.int .i64 s0, .slice a5 n0 cap5]), (w4.heap.size, [.int .i64 s0, .slice (some ⟨g4, 0, none⟩) n0 n0]), (w3.heap.size, [.int .i64 s0, .slice a3 n0 cap3]), (w.heap.size, [.int .i64 s0, .slice a0 n0 cap0])]) := (HD_44.out.below h).below h4.out
      ⟨g, h1, h2.out.toIn.wide h.size (Nat.le_refl _), h.trans (h4.out.mono h.size), h3.out.cell (b := w4.heap.size) (vs := [.int .i64 s0, .slice (some ⟨g4, 0, none⟩) n0 n0]) (i := 0) (by simp) (by simp), h3.out.cell (b := w4.heap.size) (vs := [.int .i64 s0, .slice (some ⟨g4, 0, none⟩) n0 n0]) (i := 1) (by simp) (by simp), h3.out.cell (b := w.heap.size) (vs := [.int .i64 s0, .slice a0 n0 cap0]) (i := 0) (by simp) (by simp), h3.out.cell (b := w.heap.size) (vs := [.int .i64 s0, .slice a0 n0 cap0]) (i := 1) (by simp) (by simp)⟩
  have HC2 : Hid (∀ (g : Nat) w0, Below w6.heap.size w6 w0 → EdgesIn w6.heap.size w0.heap.size w0 (some ⟨g, 0, none⟩) l0 → Calls Try.prog 13 #[gv s0 (some ⟨g4, 0, none⟩) n0 n0, gv s0 (some ⟨g, 0, none⟩) n0 n0] w0 fun e w' => e = .returned (.bool true) ∧ Hid (Below w6.heap.size w6 w') ∧ (w'.cell? ⟨w4.heap.size, 0, none⟩ = some (.int .i64 s0) ∧ w'.cell? ⟨w4.heap.size, 1, none⟩ = some (.slice (some ⟨g4, 0, none⟩) n0 n0) ∧ w'.cell? ⟨w.heap.size, 0, none⟩ = some (.int .i64 s0) ∧ w'.cell? ⟨w.heap.size, 1, none⟩ = some (.slice a0 n0 cap0))) := fun g w0 h hx =>
    (eqGraph_any (w3.alloc (.cells #[.int .i64 s0, .slice a3 n0 cap3] 29)).heap.size w4.heap.size w6.heap.size w0.heap.size s0 s0 (some ⟨g4, 0, none⟩) (some ⟨g, 0, none⟩) n0 n0 n0 n0 l0 l0 true w0 (X0_45.out.toIn.below h (by have y0 := ZZ2.out; have y1 := ZZ8.out; have y2 := ZZ13.out; have y3 := ZZ17.out; have y4 := ZZ18.out; have y5 := ZZ24.out; have y6 := ZZ28.out; have y7 := ZZ29.out; have y8 := ZZ35.out; have y9 := ZZ39.out; have y10 := ZZ40.out; have y11 := ZZ45.out; omega)) hx (by have yy := h.size; have y0 := ZZ2.out; have y1 := ZZ8.out; have y2 := ZZ13.out; have y3 := ZZ17.out; have y4 := ZZ18.out; have y5 := ZZ24.out; have y6 := ZZ28.out; have y7 := ZZ29.out; have y8 := ZZ35.out; have y9 := ZZ39.out; have y10 := ZZ40.out; have y11 := ZZ45.out; omega) (Nat.le_refl _) HL0.out HL0.out HM.out (by simp)).mono fun _ w' ⟨h1, h4⟩ =>
      have h3 : Hid (Hold w w' [(w5.heap.size, [.int .i64 s0, .slice a5 n0 cap5]), (w4.heap.size, [.int .i64 s0, .slice (some ⟨g4, 0, none⟩) n0 n0]), (w3.heap.size, [.int .i64 s0, .slice a3 n0 cap3]), (w.heap.size, [.int .i64 s0, .slice a0 n0 cap0])]) := (HD_44.out.below h).below h4.out
      ⟨h1, h.trans (h4.out.mono h.size), h3.out.cell (b := w4.heap.size) (vs := [.int .i64 s0, .slice (some ⟨g4, 0, none⟩) n0 n0]) (i := 0) (by simp) (by simp), h3.out.cell (b := w4.heap.size) (vs := [.int .i64 s0, .slice (some ⟨g4, 0, none⟩) n0 n0]) (i := 1) (by simp) (by simp), h3.out.cell (b := w.heap.size) (vs := [.int .i64 s0, .slice a0 n0 cap0]) (i := 0) (by simp) (by simp), h3.out.cell (b := w.heap.size) (vs := [.int .i64 s0, .slice a0 n0 cap0]) (i := 1) (by simp) (by simp)⟩
  go_wp2_with fail
  go_region_held3 (fun w' => w'.cell? ⟨w4.heap.size, 0, none⟩ = some (.int .i64 s0) ∧ w'.cell? ⟨w4.heap.size, 1, none⟩ = some (.slice (some ⟨g4, 0, none⟩) n0 n0) ∧ w'.cell? ⟨w.heap.size, 0, none⟩ = some (.int .i64 s0) ∧ w'.cell? ⟨w.heap.size, 1, none⟩ = some (.slice a0 n0 cap0)) (first | exact ⟨q_46, q_47, q_48, q_49⟩ | exact hk9 | exact hk10) (first | (go_at_call 11; refine (HC1.out _ ((Below.refl _ _).drew)).mono ?_; rintro e w7 ⟨g9, rfl, X9, B9, hk9⟩) | (go_at_call 13; refine (HC2.out _ _ B9.out X9.out).mono ?_; rintro e w8 ⟨rfl, B10, hk10⟩))
  clear q_46 q_47 q_48 q_49
  clear hk9 hk10 B9 X9 HC1 HC2
  have HD_50 : Hid (Hold w w8 [(w5.heap.size, [.int .i64 s0, .slice a5 n0 cap5]), (w4.heap.size, [.int .i64 s0, .slice (some ⟨g4, 0, none⟩) n0 n0]), (w3.heap.size, [.int .i64 s0, .slice a3 n0 cap3]), (w.heap.size, [.int .i64 s0, .slice a0 n0 cap0])]) := HD_44.out.below B10.out
  clear HD_44
  have ZZ51 : Hid (w6.heap.size ≤ w8.heap.size) := B10.out.size
  have W0_51 : Hid (EdgesOwn w2.heap.size w3.heap.size w8 a3 LL) := W0_45.out.below B10.out (by have y0 := ZZ2.out; have y1 := ZZ8.out; have y2 := ZZ13.out; have y3 := ZZ17.out; have y4 := ZZ18.out; have y5 := ZZ24.out; have y6 := ZZ28.out; have y7 := ZZ29.out; have y8 := ZZ35.out; have y9 := ZZ39.out; have y10 := ZZ40.out; have y11 := ZZ45.out; have y12 := ZZ51.out; omega)
  have X0_51 : Hid (EdgesOwn (w3.alloc (.cells #[.int .i64 s0, .slice a3 n0 cap3] 29)).heap.size w4.heap.size w8 (some ⟨g4, 0, none⟩) l0) := X0_45.out.below B10.out (by have y0 := ZZ2.out; have y1 := ZZ8.out; have y2 := ZZ13.out; have y3 := ZZ17.out; have y4 := ZZ18.out; have y5 := ZZ24.out; have y6 := ZZ28.out; have y7 := ZZ29.out; have y8 := ZZ35.out; have y9 := ZZ39.out; have y10 := ZZ40.out; have y11 := ZZ45.out; have y12 := ZZ51.out; omega)
  have G0_51 : Hid (EdgesOwn (w4.alloc (.cells #[.int .i64 s0, .slice (some ⟨g4, 0, none⟩) n0 n0] 29)).heap.size w5.heap.size w8 a5 LL) := G0_45.out.below B10.out (by have y0 := ZZ2.out; have y1 := ZZ8.out; have y2 := ZZ13.out; have y3 := ZZ17.out; have y4 := ZZ18.out; have y5 := ZZ24.out; have y6 := ZZ28.out; have y7 := ZZ29.out; have y8 := ZZ35.out; have y9 := ZZ39.out; have y10 := ZZ40.out; have y11 := ZZ45.out; have y12 := ZZ51.out; omega)
  clear W0_45 X0_45 G0_45
  clear B10
  have q_52 : w8.cell? ⟨w4.heap.size, 0, none⟩ = some (.int .i64 s0) := HD_50.out.cell (b := w4.heap.size) (vs := [.int .i64 s0, .slice (some ⟨g4, 0, none⟩) n0 n0]) (i := 0) (by simp) (by simp)
  have q_53 : w8.cell? ⟨w4.heap.size, 1, none⟩ = some (.slice (some ⟨g4, 0, none⟩) n0 n0) := HD_50.out.cell (b := w4.heap.size) (vs := [.int .i64 s0, .slice (some ⟨g4, 0, none⟩) n0 n0]) (i := 1) (by simp) (by simp)
  go_wp2_with fail
  refine (markGraph_any (w3.alloc (.cells #[.int .i64 s0, .slice a3 n0 cap3] 29)).heap.size w4.heap.size s0 (some ⟨g4, 0, none⟩) n0 n0 1 l0 _ X0_51.out (by have y0 := ZZ2.out; have y1 := ZZ8.out; have y2 := ZZ13.out; have y3 := ZZ17.out; have y4 := ZZ18.out; have y5 := ZZ24.out; have y6 := ZZ28.out; have y7 := ZZ29.out; have y8 := ZZ35.out; have y9 := ZZ39.out; have y10 := ZZ40.out; have y11 := ZZ45.out; have y12 := ZZ51.out; omega) HL0.out HM.out (by omega)).mono ?_
  rintro e w9 ⟨m9, rfl, HM_m9, X_54, K_54⟩
  clear q_52 q_53
  have HD_55 : Hid (Hold w w9 [(w5.heap.size, [.int .i64 s0, .slice a5 n0 cap5]), (w4.heap.size, [.int .i64 s0, .slice (some ⟨g4, 0, none⟩) n0 n0]), (w3.heap.size, [.int .i64 s0, .slice a3 n0 cap3]), (w.heap.size, [.int .i64 s0, .slice a0 n0 cap0])]) := HD_50.out.kept K_54.out (by intro x hx; simp only [List.mem_cons, List.not_mem_nil, or_false] at hx; have y0 := ZZ2.out; have y1 := ZZ8.out; have y2 := ZZ13.out; have y3 := ZZ17.out; have y4 := ZZ18.out; have y5 := ZZ24.out; have y6 := ZZ28.out; have y7 := ZZ29.out; have y8 := ZZ35.out; have y9 := ZZ39.out; have y10 := ZZ40.out; have y11 := ZZ45.out; have y12 := ZZ51.out; rcases hx with rfl | rfl | rfl | rfl <;> dsimp only <;> omega) (fun k hk => by have y0 := ZZ2.out; have y1 := ZZ8.out; have y2 := ZZ13.out; have y3 := ZZ17.out; have y4 := ZZ18.out; have y5 := ZZ24.out; have y6 := ZZ28.out; have y7 := ZZ29.out; have y8 := ZZ35.out; have y9 := ZZ39.out; have y10 := ZZ40.out; have y11 := ZZ45.out; have y12 := ZZ51.out; omega)
  clear HD_50
  have ZZ56 : Hid (w8.heap.size ≤ w9.heap.size) := K_54.out.size
  have W0_56 : Hid (EdgesOwn w2.heap.size w3.heap.size w9 a3 LL) := W0_51.out.kept K_54.out (fun c h1 h2 h3 => by have y0 := ZZ2.out; have y1 := ZZ8.out; have y2 := ZZ13.out; have y3 := ZZ17.out; have y4 := ZZ18.out; have y5 := ZZ24.out; have y6 := ZZ28.out; have y7 := ZZ29.out; have y8 := ZZ35.out; have y9 := ZZ39.out; have y10 := ZZ40.out; have y11 := ZZ45.out; have y12 := ZZ51.out; have y13 := ZZ56.out; omega)
  have G0_56 : Hid (EdgesOwn (w4.alloc (.cells #[.int .i64 s0, .slice (some ⟨g4, 0, none⟩) n0 n0] 29)).heap.size w5.heap.size w9 a5 LL) := G0_51.out.kept K_54.out (fun c h1 h2 h3 => by have y0 := ZZ2.out; have y1 := ZZ8.out; have y2 := ZZ13.out; have y3 := ZZ17.out; have y4 := ZZ18.out; have y5 := ZZ24.out; have y6 := ZZ28.out; have y7 := ZZ29.out; have y8 := ZZ35.out; have y9 := ZZ39.out; have y10 := ZZ40.out; have y11 := ZZ45.out; have y12 := ZZ51.out; have y13 := ZZ56.out; omega)
  clear W0_51 X0_51 G0_51
  clear K_54
  have hn_m9 : ¬ ((m9 : Nat) : Int) < 0 := by omega
  have q_57 : w9.cell? ⟨w5.heap.size, 0, none⟩ = some (.int .i64 s0) := HD_55.out.cell (b := w5.heap.size) (vs := [.int .i64 s0, .slice a5 n0 cap5]) (i := 0) (by simp) (by simp)
  have q_58 : w9.cell? ⟨w5.heap.size, 1, none⟩ = some (.slice a5 n0 cap5) := HD_55.out.cell (b := w5.heap.size) (vs := [.int .i64 s0, .slice a5 n0 cap5]) (i := 1) (by simp) (by simp)
  have q_59 : w9.cell? ⟨w3.heap.size, 0, none⟩ = some (.int .i64 s0) := HD_55.out.cell (b := w3.heap.size) (vs := [.int .i64 s0, .slice a3 n0 cap3]) (i := 0) (by simp) (by simp)
  have q_60 : w9.cell? ⟨w3.heap.size, 1, none⟩ = some (.slice a3 n0 cap3) := HD_55.out.cell (b := w3.heap.size) (vs := [.int .i64 s0, .slice a3 n0 cap3]) (i := 1) (by simp) (by simp)
  go_wp2_with fail
  refine (eqGraph_any (w4.alloc (.cells #[.int .i64 s0, .slice (some ⟨g4, 0, none⟩) n0 n0] 29)).heap.size w5.heap.size w2.heap.size w3.heap.size s0 s0 a5 a3 n0 n0 cap5 cap3 LL LL true _ G0_56.out.toIn W0_56.out.toIn (by have y0 := ZZ2.out; have y1 := ZZ8.out; have y2 := ZZ13.out; have y3 := ZZ17.out; have y4 := ZZ18.out; have y5 := ZZ24.out; have y6 := ZZ28.out; have y7 := ZZ29.out; have y8 := ZZ35.out; have y9 := ZZ39.out; have y10 := ZZ40.out; have y11 := ZZ45.out; have y12 := ZZ51.out; have y13 := ZZ56.out; omega) (by have y0 := ZZ2.out; have y1 := ZZ8.out; have y2 := ZZ13.out; have y3 := ZZ17.out; have y4 := ZZ18.out; have y5 := ZZ24.out; have y6 := ZZ28.out; have y7 := ZZ29.out; have y8 := ZZ35.out; have y9 := ZZ39.out; have y10 := ZZ40.out; have y11 := ZZ45.out; have y12 := ZZ51.out; have y13 := ZZ56.out; omega) HN3.out HN3.out HM.out (by simp)).mono ?_
  rintro e w10 ⟨rfl, B_61⟩
  clear q_57 q_58 q_59 q_60
  have HD_62 : Hid (Hold w w10 [(w5.heap.size, [.int .i64 s0, .slice a5 n0 cap5]), (w4.heap.size, [.int .i64 s0, .slice (some ⟨g4, 0, none⟩) n0 n0]), (w3.heap.size, [.int .i64 s0, .slice a3 n0 cap3]), (w.heap.size, [.int .i64 s0, .slice a0 n0 cap0])]) := HD_55.out.below B_61.out
  clear HD_55
  have ZZ63 : Hid (w9.heap.size ≤ w10.heap.size) := B_61.out.size
  have W0_63 : Hid (EdgesOwn w2.heap.size w3.heap.size w10 a3 LL) := W0_56.out.below B_61.out (by have y0 := ZZ2.out; have y1 := ZZ8.out; have y2 := ZZ13.out; have y3 := ZZ17.out; have y4 := ZZ18.out; have y5 := ZZ24.out; have y6 := ZZ28.out; have y7 := ZZ29.out; have y8 := ZZ35.out; have y9 := ZZ39.out; have y10 := ZZ40.out; have y11 := ZZ45.out; have y12 := ZZ51.out; have y13 := ZZ56.out; have y14 := ZZ63.out; omega)
  have G0_63 : Hid (EdgesOwn (w4.alloc (.cells #[.int .i64 s0, .slice (some ⟨g4, 0, none⟩) n0 n0] 29)).heap.size w5.heap.size w10 a5 LL) := G0_56.out.below B_61.out (by have y0 := ZZ2.out; have y1 := ZZ8.out; have y2 := ZZ13.out; have y3 := ZZ17.out; have y4 := ZZ18.out; have y5 := ZZ24.out; have y6 := ZZ28.out; have y7 := ZZ29.out; have y8 := ZZ35.out; have y9 := ZZ39.out; have y10 := ZZ40.out; have y11 := ZZ45.out; have y12 := ZZ51.out; have y13 := ZZ56.out; have y14 := ZZ63.out; omega)
  clear W0_56 G0_56
  clear B_61
  have q_64 : w10.cell? ⟨w5.heap.size, 0, none⟩ = some (.int .i64 s0) := HD_62.out.cell (b := w5.heap.size) (vs := [.int .i64 s0, .slice a5 n0 cap5]) (i := 0) (by simp) (by simp)
  have q_65 : w10.cell? ⟨w5.heap.size, 1, none⟩ = some (.slice a5 n0 cap5) := HD_62.out.cell (b := w5.heap.size) (vs := [.int .i64 s0, .slice a5 n0 cap5]) (i := 1) (by simp) (by simp)
  go_wp2_with fail
  refine (markGraph_any (w4.alloc (.cells #[.int .i64 s0, .slice (some ⟨g4, 0, none⟩) n0 n0] 29)).heap.size w5.heap.size s0 a5 n0 cap5 1 LL _ G0_63.out (by have y0 := ZZ2.out; have y1 := ZZ8.out; have y2 := ZZ13.out; have y3 := ZZ17.out; have y4 := ZZ18.out; have y5 := ZZ24.out; have y6 := ZZ28.out; have y7 := ZZ29.out; have y8 := ZZ35.out; have y9 := ZZ39.out; have y10 := ZZ40.out; have y11 := ZZ45.out; have y12 := ZZ51.out; have y13 := ZZ56.out; have y14 := ZZ63.out; omega) HN3.out HM.out (by omega)).mono ?_
  rintro e w11 ⟨m11, rfl, HM_m11, X_66, K_66⟩
  clear q_64 q_65
  have HD_67 : Hid (Hold w w11 [(w5.heap.size, [.int .i64 s0, .slice a5 n0 cap5]), (w4.heap.size, [.int .i64 s0, .slice (some ⟨g4, 0, none⟩) n0 n0]), (w3.heap.size, [.int .i64 s0, .slice a3 n0 cap3]), (w.heap.size, [.int .i64 s0, .slice a0 n0 cap0])]) := HD_62.out.kept K_66.out (by intro x hx; simp only [List.mem_cons, List.not_mem_nil, or_false] at hx; have y0 := ZZ2.out; have y1 := ZZ8.out; have y2 := ZZ13.out; have y3 := ZZ17.out; have y4 := ZZ18.out; have y5 := ZZ24.out; have y6 := ZZ28.out; have y7 := ZZ29.out; have y8 := ZZ35.out; have y9 := ZZ39.out; have y10 := ZZ40.out; have y11 := ZZ45.out; have y12 := ZZ51.out; have y13 := ZZ56.out; have y14 := ZZ63.out; rcases hx with rfl | rfl | rfl | rfl <;> dsimp only <;> omega) (fun k hk => by have y0 := ZZ2.out; have y1 := ZZ8.out; have y2 := ZZ13.out; have y3 := ZZ17.out; have y4 := ZZ18.out; have y5 := ZZ24.out; have y6 := ZZ28.out; have y7 := ZZ29.out; have y8 := ZZ35.out; have y9 := ZZ39.out; have y10 := ZZ40.out; have y11 := ZZ45.out; have y12 := ZZ51.out; have y13 := ZZ56.out; have y14 := ZZ63.out; omega)
  clear HD_62
  have ZZ68 : Hid (w10.heap.size ≤ w11.heap.size) := K_66.out.size
  have W0_68 : Hid (EdgesOwn w2.heap.size w3.heap.size w11 a3 LL) := W0_63.out.kept K_66.out (fun c h1 h2 h3 => by have y0 := ZZ2.out; have y1 := ZZ8.out; have y2 := ZZ13.out; have y3 := ZZ17.out; have y4 := ZZ18.out; have y5 := ZZ24.out; have y6 := ZZ28.out; have y7 := ZZ29.out; have y8 := ZZ35.out; have y9 := ZZ39.out; have y10 := ZZ40.out; have y11 := ZZ45.out; have y12 := ZZ51.out; have y13 := ZZ56.out; have y14 := ZZ63.out; have y15 := ZZ68.out; omega)
  clear W0_63 G0_63
  clear K_66
  have G0_69 : Hid (EdgesOwn (w4.alloc (.cells #[.int .i64 s0, .slice (some ⟨g4, 0, none⟩) n0 n0] 29)).heap.size w5.heap.size w11 a5 (marksE 1 n0)) := X_66.out
  clear X_66
  have q_70 : w11.cell? ⟨w5.heap.size, 0, none⟩ = some (.int .i64 s0) := HD_67.out.cell (b := w5.heap.size) (vs := [.int .i64 s0, .slice a5 n0 cap5]) (i := 0) (by simp) (by simp)
  have q_71 : w11.cell? ⟨w5.heap.size, 1, none⟩ = some (.slice a5 n0 cap5) := HD_67.out.cell (b := w5.heap.size) (vs := [.int .i64 s0, .slice a5 n0 cap5]) (i := 1) (by simp) (by simp)
  go_wp2_with fail
  refine (heldGraph_any (w4.alloc (.cells #[.int .i64 s0, .slice (some ⟨g4, 0, none⟩) n0 n0] 29)).heap.size w5.heap.size s0 a5 n0 cap5 1 _ G0_69.out.toIn (by have y0 := ZZ2.out; have y1 := ZZ8.out; have y2 := ZZ13.out; have y3 := ZZ17.out; have y4 := ZZ18.out; have y5 := ZZ24.out; have y6 := ZZ28.out; have y7 := ZZ29.out; have y8 := ZZ35.out; have y9 := ZZ39.out; have y10 := ZZ40.out; have y11 := ZZ45.out; have y12 := ZZ51.out; have y13 := ZZ56.out; have y14 := ZZ63.out; have y15 := ZZ68.out; omega) HM.out (by omega)).mono ?_
  rintro e w12 ⟨m12, rfl, HM_m12, B_72⟩
  clear q_70 q_71
  have HD_73 : Hid (Hold w w12 [(w5.heap.size, [.int .i64 s0, .slice a5 n0 cap5]), (w4.heap.size, [.int .i64 s0, .slice (some ⟨g4, 0, none⟩) n0 n0]), (w3.heap.size, [.int .i64 s0, .slice a3 n0 cap3]), (w.heap.size, [.int .i64 s0, .slice a0 n0 cap0])]) := HD_67.out.below B_72.out
  clear HD_67
  have ZZ74 : Hid (w11.heap.size ≤ w12.heap.size) := B_72.out.size
  have W0_74 : Hid (EdgesOwn w2.heap.size w3.heap.size w12 a3 LL) := W0_68.out.below B_72.out (by have y0 := ZZ2.out; have y1 := ZZ8.out; have y2 := ZZ13.out; have y3 := ZZ17.out; have y4 := ZZ18.out; have y5 := ZZ24.out; have y6 := ZZ28.out; have y7 := ZZ29.out; have y8 := ZZ35.out; have y9 := ZZ39.out; have y10 := ZZ40.out; have y11 := ZZ45.out; have y12 := ZZ51.out; have y13 := ZZ56.out; have y14 := ZZ63.out; have y15 := ZZ68.out; have y16 := ZZ74.out; omega)
  have G0_74 : Hid (EdgesOwn (w4.alloc (.cells #[.int .i64 s0, .slice (some ⟨g4, 0, none⟩) n0 n0] 29)).heap.size w5.heap.size w12 a5 (marksE 1 n0)) := G0_69.out.below B_72.out (by have y0 := ZZ2.out; have y1 := ZZ8.out; have y2 := ZZ13.out; have y3 := ZZ17.out; have y4 := ZZ18.out; have y5 := ZZ24.out; have y6 := ZZ28.out; have y7 := ZZ29.out; have y8 := ZZ35.out; have y9 := ZZ39.out; have y10 := ZZ40.out; have y11 := ZZ45.out; have y12 := ZZ51.out; have y13 := ZZ56.out; have y14 := ZZ63.out; have y15 := ZZ68.out; have y16 := ZZ74.out; omega)
  clear W0_68 G0_69
  clear B_72
  obtain rfl : m11 = m12 := by rw [HM_m12.out, HM_m11.out]
  clear HM_m12
  have hn_m12 : ¬ ((m11 : Nat) : Int) < 0 := by omega
  have q_76 : w12.cell? ⟨w.heap.size, 0, none⟩ = some (.int .i64 s0) := HD_73.out.cell (b := w.heap.size) (vs := [.int .i64 s0, .slice a0 n0 cap0]) (i := 0) (by simp) (by simp)
  have q_77 : w12.cell? ⟨w.heap.size, 1, none⟩ = some (.slice a0 n0 cap0) := HD_73.out.cell (b := w.heap.size) (vs := [.int .i64 s0, .slice a0 n0 cap0]) (i := 1) (by simp) (by simp)
  go_wp2_with fail
  refine (toGraph_any 0 w.heap.size s0 a0 n0 cap0 l0 _ (HR0.out.below HD_73.out.bel (Nat.le_refl _)) HD_73.out.bel.size HL0.out HM.out).mono ?_
  rintro e w13 ⟨g13, rfl, X_75, B_78⟩
  clear q_76 q_77
  have HD_79 : Hid (Hold w w13 [(w5.heap.size, [.int .i64 s0, .slice a5 n0 cap5]), (w4.heap.size, [.int .i64 s0, .slice (some ⟨g4, 0, none⟩) n0 n0]), (w3.heap.size, [.int .i64 s0, .slice a3 n0 cap3]), (w.heap.size, [.int .i64 s0, .slice a0 n0 cap0])]) := HD_73.out.below B_78.out
  clear HD_73
  have ZZ80 : Hid (w12.heap.size ≤ w13.heap.size) := B_78.out.size
  have W0_80 : Hid (EdgesOwn w2.heap.size w3.heap.size w13 a3 LL) := W0_74.out.below B_78.out (by have y0 := ZZ2.out; have y1 := ZZ8.out; have y2 := ZZ13.out; have y3 := ZZ17.out; have y4 := ZZ18.out; have y5 := ZZ24.out; have y6 := ZZ28.out; have y7 := ZZ29.out; have y8 := ZZ35.out; have y9 := ZZ39.out; have y10 := ZZ40.out; have y11 := ZZ45.out; have y12 := ZZ51.out; have y13 := ZZ56.out; have y14 := ZZ63.out; have y15 := ZZ68.out; have y16 := ZZ74.out; have y17 := ZZ80.out; omega)
  have G0_80 : Hid (EdgesOwn (w4.alloc (.cells #[.int .i64 s0, .slice (some ⟨g4, 0, none⟩) n0 n0] 29)).heap.size w5.heap.size w13 a5 (marksE 1 n0)) := G0_74.out.below B_78.out (by have y0 := ZZ2.out; have y1 := ZZ8.out; have y2 := ZZ13.out; have y3 := ZZ17.out; have y4 := ZZ18.out; have y5 := ZZ24.out; have y6 := ZZ28.out; have y7 := ZZ29.out; have y8 := ZZ35.out; have y9 := ZZ39.out; have y10 := ZZ40.out; have y11 := ZZ45.out; have y12 := ZZ51.out; have y13 := ZZ56.out; have y14 := ZZ63.out; have y15 := ZZ68.out; have y16 := ZZ74.out; have y17 := ZZ80.out; omega)
  clear W0_74 G0_74
  clear B_78
  have T2_81 : Hid (EdgesOwn w12.heap.size w13.heap.size w13 (some ⟨g13, 0, none⟩) l0) := X_75.out
  clear X_75
  go_wp2_with fail
  refine (turned_any w12.heap.size w13.heap.size s0 (some ⟨g13, 0, none⟩) n0 n0 l0 _ T2_81.out.toIn (by have y0 := ZZ2.out; have y1 := ZZ8.out; have y2 := ZZ13.out; have y3 := ZZ17.out; have y4 := ZZ18.out; have y5 := ZZ24.out; have y6 := ZZ28.out; have y7 := ZZ29.out; have y8 := ZZ35.out; have y9 := ZZ39.out; have y10 := ZZ40.out; have y11 := ZZ45.out; have y12 := ZZ51.out; have y13 := ZZ56.out; have y14 := ZZ63.out; have y15 := ZZ68.out; have y16 := ZZ74.out; have y17 := ZZ80.out; omega) HL0.out HM.out).mono ?_
  rintro e w14 ⟨a14, n14, cap14, rfl, HN_82, X_82, B_83⟩
  have HD_84 : Hid (Hold w w14 [(w5.heap.size, [.int .i64 s0, .slice a5 n0 cap5]), (w4.heap.size, [.int .i64 s0, .slice (some ⟨g4, 0, none⟩) n0 n0]), (w3.heap.size, [.int .i64 s0, .slice a3 n0 cap3]), (w.heap.size, [.int .i64 s0, .slice a0 n0 cap0])]) := HD_79.out.below B_83.out
  clear HD_79
  have ZZ85 : Hid (w13.heap.size ≤ w14.heap.size) := B_83.out.size
  have W0_85 : Hid (EdgesOwn w2.heap.size w3.heap.size w14 a3 LL) := W0_80.out.below B_83.out (by have y0 := ZZ2.out; have y1 := ZZ8.out; have y2 := ZZ13.out; have y3 := ZZ17.out; have y4 := ZZ18.out; have y5 := ZZ24.out; have y6 := ZZ28.out; have y7 := ZZ29.out; have y8 := ZZ35.out; have y9 := ZZ39.out; have y10 := ZZ40.out; have y11 := ZZ45.out; have y12 := ZZ51.out; have y13 := ZZ56.out; have y14 := ZZ63.out; have y15 := ZZ68.out; have y16 := ZZ74.out; have y17 := ZZ80.out; have y18 := ZZ85.out; omega)
  have G0_85 : Hid (EdgesOwn (w4.alloc (.cells #[.int .i64 s0, .slice (some ⟨g4, 0, none⟩) n0 n0] 29)).heap.size w5.heap.size w14 a5 (marksE 1 n0)) := G0_80.out.below B_83.out (by have y0 := ZZ2.out; have y1 := ZZ8.out; have y2 := ZZ13.out; have y3 := ZZ17.out; have y4 := ZZ18.out; have y5 := ZZ24.out; have y6 := ZZ28.out; have y7 := ZZ29.out; have y8 := ZZ35.out; have y9 := ZZ39.out; have y10 := ZZ40.out; have y11 := ZZ45.out; have y12 := ZZ51.out; have y13 := ZZ56.out; have y14 := ZZ63.out; have y15 := ZZ68.out; have y16 := ZZ74.out; have y17 := ZZ80.out; have y18 := ZZ85.out; omega)
  have T2_85 : Hid (EdgesOwn w12.heap.size w13.heap.size w14 (some ⟨g13, 0, none⟩) l0) := T2_81.out.below B_83.out (by have y0 := ZZ2.out; have y1 := ZZ8.out; have y2 := ZZ13.out; have y3 := ZZ17.out; have y4 := ZZ18.out; have y5 := ZZ24.out; have y6 := ZZ28.out; have y7 := ZZ29.out; have y8 := ZZ35.out; have y9 := ZZ39.out; have y10 := ZZ40.out; have y11 := ZZ45.out; have y12 := ZZ51.out; have y13 := ZZ56.out; have y14 := ZZ63.out; have y15 := ZZ68.out; have y16 := ZZ74.out; have y17 := ZZ80.out; have y18 := ZZ85.out; omega)
  clear W0_80 G0_80 T2_81
  clear B_83
  obtain rfl : n0 = n14 := (gturn_len HL0.out HN_82.out).symm
  rw [← HLL.out] at HN_82 X_82
  have H0_86 : Hid (EdgesOwn w13.heap.size w14.heap.size w14 a14 LL) := X_82.out
  clear X_82
  clear HN_82
  clear T2_85
  have BA_87 : Hid (Below w14.heap.size w14 (w14.alloc (.cells #[.int .i64 s0, .slice a14 n0 cap14] 29))) := below1' w14 _
  have HD_88 : Hid (Hold w (w14.alloc (.cells #[.int .i64 s0, .slice a14 n0 cap14] 29)) [(w14.heap.size, [.int .i64 s0, .slice a14 n0 cap14]), (w5.heap.size, [.int .i64 s0, .slice a5 n0 cap5]), (w4.heap.size, [.int .i64 s0, .slice (some ⟨g4, 0, none⟩) n0 n0]), (w3.heap.size, [.int .i64 s0, .slice a3 n0 cap3]), (w.heap.size, [.int .i64 s0, .slice a0 n0 cap0])]) := HD_84.out.more [.int .i64 s0, .slice a14 n0 cap14] 29
  clear HD_84
  have ZZ89 : Hid ((w14.alloc (.cells #[.int .i64 s0, .slice a14 n0 cap14] 29)).heap.size = w14.heap.size + 1) := by show _ = _; simp
  have ZZ90 : Hid (w14.heap.size ≤ (w14.alloc (.cells #[.int .i64 s0, .slice a14 n0 cap14] 29)).heap.size) := BA_87.out.size
  have W0_90 : Hid (EdgesOwn w2.heap.size w3.heap.size (w14.alloc (.cells #[.int .i64 s0, .slice a14 n0 cap14] 29)) a3 LL) := W0_85.out.below BA_87.out (by have y0 := ZZ2.out; have y1 := ZZ8.out; have y2 := ZZ13.out; have y3 := ZZ17.out; have y4 := ZZ18.out; have y5 := ZZ24.out; have y6 := ZZ28.out; have y7 := ZZ29.out; have y8 := ZZ35.out; have y9 := ZZ39.out; have y10 := ZZ40.out; have y11 := ZZ45.out; have y12 := ZZ51.out; have y13 := ZZ56.out; have y14 := ZZ63.out; have y15 := ZZ68.out; have y16 := ZZ74.out; have y17 := ZZ80.out; have y18 := ZZ85.out; have y19 := ZZ89.out; have y20 := ZZ90.out; omega)
  have G0_90 : Hid (EdgesOwn (w4.alloc (.cells #[.int .i64 s0, .slice (some ⟨g4, 0, none⟩) n0 n0] 29)).heap.size w5.heap.size (w14.alloc (.cells #[.int .i64 s0, .slice a14 n0 cap14] 29)) a5 (marksE 1 n0)) := G0_85.out.below BA_87.out (by have y0 := ZZ2.out; have y1 := ZZ8.out; have y2 := ZZ13.out; have y3 := ZZ17.out; have y4 := ZZ18.out; have y5 := ZZ24.out; have y6 := ZZ28.out; have y7 := ZZ29.out; have y8 := ZZ35.out; have y9 := ZZ39.out; have y10 := ZZ40.out; have y11 := ZZ45.out; have y12 := ZZ51.out; have y13 := ZZ56.out; have y14 := ZZ63.out; have y15 := ZZ68.out; have y16 := ZZ74.out; have y17 := ZZ80.out; have y18 := ZZ85.out; have y19 := ZZ89.out; have y20 := ZZ90.out; omega)
  have H0_90 : Hid (EdgesOwn w13.heap.size w14.heap.size (w14.alloc (.cells #[.int .i64 s0, .slice a14 n0 cap14] 29)) a14 LL) := H0_86.out.below BA_87.out (by have y0 := ZZ2.out; have y1 := ZZ8.out; have y2 := ZZ13.out; have y3 := ZZ17.out; have y4 := ZZ18.out; have y5 := ZZ24.out; have y6 := ZZ28.out; have y7 := ZZ29.out; have y8 := ZZ35.out; have y9 := ZZ39.out; have y10 := ZZ40.out; have y11 := ZZ45.out; have y12 := ZZ51.out; have y13 := ZZ56.out; have y14 := ZZ63.out; have y15 := ZZ68.out; have y16 := ZZ74.out; have y17 := ZZ80.out; have y18 := ZZ85.out; have y19 := ZZ89.out; have y20 := ZZ90.out; omega)
  clear W0_85 G0_85 H0_86
  clear BA_87
  have q_91 : (w14.alloc (.cells #[.int .i64 s0, .slice a14 n0 cap14] 29)).cell? ⟨w3.heap.size, 0, none⟩ = some (.int .i64 s0) := HD_88.out.cell (b := w3.heap.size) (vs := [.int .i64 s0, .slice a3 n0 cap3]) (i := 0) (by simp) (by simp)
  have q_92 : (w14.alloc (.cells #[.int .i64 s0, .slice a14 n0 cap14] 29)).cell? ⟨w3.heap.size, 1, none⟩ = some (.slice a3 n0 cap3) := HD_88.out.cell (b := w3.heap.size) (vs := [.int .i64 s0, .slice a3 n0 cap3]) (i := 1) (by simp) (by simp)
  go_wp2_with fail
  refine (eqGraph_any w13.heap.size w14.heap.size w2.heap.size w3.heap.size s0 s0 a14 a3 n0 n0 cap14 cap3 LL LL true _ H0_90.out.toIn W0_90.out.toIn (by have y0 := ZZ2.out; have y1 := ZZ8.out; have y2 := ZZ13.out; have y3 := ZZ17.out; have y4 := ZZ18.out; have y5 := ZZ24.out; have y6 := ZZ28.out; have y7 := ZZ29.out; have y8 := ZZ35.out; have y9 := ZZ39.out; have y10 := ZZ40.out; have y11 := ZZ45.out; have y12 := ZZ51.out; have y13 := ZZ56.out; have y14 := ZZ63.out; have y15 := ZZ68.out; have y16 := ZZ74.out; have y17 := ZZ80.out; have y18 := ZZ85.out; have y19 := ZZ89.out; have y20 := ZZ90.out; omega) (by have y0 := ZZ2.out; have y1 := ZZ8.out; have y2 := ZZ13.out; have y3 := ZZ17.out; have y4 := ZZ18.out; have y5 := ZZ24.out; have y6 := ZZ28.out; have y7 := ZZ29.out; have y8 := ZZ35.out; have y9 := ZZ39.out; have y10 := ZZ40.out; have y11 := ZZ45.out; have y12 := ZZ51.out; have y13 := ZZ56.out; have y14 := ZZ63.out; have y15 := ZZ68.out; have y16 := ZZ74.out; have y17 := ZZ80.out; have y18 := ZZ85.out; have y19 := ZZ89.out; have y20 := ZZ90.out; omega) HN3.out HN3.out HM.out (by simp)).mono ?_
  rintro e w15 ⟨rfl, B_93⟩
  clear q_91 q_92
  have HD_94 : Hid (Hold w w15 [(w14.heap.size, [.int .i64 s0, .slice a14 n0 cap14]), (w5.heap.size, [.int .i64 s0, .slice a5 n0 cap5]), (w4.heap.size, [.int .i64 s0, .slice (some ⟨g4, 0, none⟩) n0 n0]), (w3.heap.size, [.int .i64 s0, .slice a3 n0 cap3]), (w.heap.size, [.int .i64 s0, .slice a0 n0 cap0])]) := HD_88.out.below B_93.out
  clear HD_88
  have ZZ95 : Hid ((w14.alloc (.cells #[.int .i64 s0, .slice a14 n0 cap14] 29)).heap.size ≤ w15.heap.size) := B_93.out.size
  have W0_95 : Hid (EdgesOwn w2.heap.size w3.heap.size w15 a3 LL) := W0_90.out.below B_93.out (by have y0 := ZZ2.out; have y1 := ZZ8.out; have y2 := ZZ13.out; have y3 := ZZ17.out; have y4 := ZZ18.out; have y5 := ZZ24.out; have y6 := ZZ28.out; have y7 := ZZ29.out; have y8 := ZZ35.out; have y9 := ZZ39.out; have y10 := ZZ40.out; have y11 := ZZ45.out; have y12 := ZZ51.out; have y13 := ZZ56.out; have y14 := ZZ63.out; have y15 := ZZ68.out; have y16 := ZZ74.out; have y17 := ZZ80.out; have y18 := ZZ85.out; have y19 := ZZ89.out; have y20 := ZZ90.out; have y21 := ZZ95.out; omega)
  have G0_95 : Hid (EdgesOwn (w4.alloc (.cells #[.int .i64 s0, .slice (some ⟨g4, 0, none⟩) n0 n0] 29)).heap.size w5.heap.size w15 a5 (marksE 1 n0)) := G0_90.out.below B_93.out (by have y0 := ZZ2.out; have y1 := ZZ8.out; have y2 := ZZ13.out; have y3 := ZZ17.out; have y4 := ZZ18.out; have y5 := ZZ24.out; have y6 := ZZ28.out; have y7 := ZZ29.out; have y8 := ZZ35.out; have y9 := ZZ39.out; have y10 := ZZ40.out; have y11 := ZZ45.out; have y12 := ZZ51.out; have y13 := ZZ56.out; have y14 := ZZ63.out; have y15 := ZZ68.out; have y16 := ZZ74.out; have y17 := ZZ80.out; have y18 := ZZ85.out; have y19 := ZZ89.out; have y20 := ZZ90.out; have y21 := ZZ95.out; omega)
  have H0_95 : Hid (EdgesOwn w13.heap.size w14.heap.size w15 a14 LL) := H0_90.out.below B_93.out (by have y0 := ZZ2.out; have y1 := ZZ8.out; have y2 := ZZ13.out; have y3 := ZZ17.out; have y4 := ZZ18.out; have y5 := ZZ24.out; have y6 := ZZ28.out; have y7 := ZZ29.out; have y8 := ZZ35.out; have y9 := ZZ39.out; have y10 := ZZ40.out; have y11 := ZZ45.out; have y12 := ZZ51.out; have y13 := ZZ56.out; have y14 := ZZ63.out; have y15 := ZZ68.out; have y16 := ZZ74.out; have y17 := ZZ80.out; have y18 := ZZ85.out; have y19 := ZZ89.out; have y20 := ZZ90.out; have y21 := ZZ95.out; omega)
  clear W0_90 G0_90 H0_90
  clear B_93
  have q_96 : w15.cell? ⟨w5.heap.size, 0, none⟩ = some (.int .i64 s0) := HD_94.out.cell (b := w5.heap.size) (vs := [.int .i64 s0, .slice a5 n0 cap5]) (i := 0) (by simp) (by simp)
  have q_97 : w15.cell? ⟨w5.heap.size, 1, none⟩ = some (.slice a5 n0 cap5) := HD_94.out.cell (b := w5.heap.size) (vs := [.int .i64 s0, .slice a5 n0 cap5]) (i := 1) (by simp) (by simp)
  go_wp2_with fail
  refine (heldGraph_any (w4.alloc (.cells #[.int .i64 s0, .slice (some ⟨g4, 0, none⟩) n0 n0] 29)).heap.size w5.heap.size s0 a5 n0 cap5 1 _ G0_95.out.toIn (by have y0 := ZZ2.out; have y1 := ZZ8.out; have y2 := ZZ13.out; have y3 := ZZ17.out; have y4 := ZZ18.out; have y5 := ZZ24.out; have y6 := ZZ28.out; have y7 := ZZ29.out; have y8 := ZZ35.out; have y9 := ZZ39.out; have y10 := ZZ40.out; have y11 := ZZ45.out; have y12 := ZZ51.out; have y13 := ZZ56.out; have y14 := ZZ63.out; have y15 := ZZ68.out; have y16 := ZZ74.out; have y17 := ZZ80.out; have y18 := ZZ85.out; have y19 := ZZ89.out; have y20 := ZZ90.out; have y21 := ZZ95.out; omega) HM.out (by omega)).mono ?_
  rintro e w16 ⟨m16, rfl, HM_m16, B_98⟩
  clear q_96 q_97
  have HD_99 : Hid (Hold w w16 [(w14.heap.size, [.int .i64 s0, .slice a14 n0 cap14]), (w5.heap.size, [.int .i64 s0, .slice a5 n0 cap5]), (w4.heap.size, [.int .i64 s0, .slice (some ⟨g4, 0, none⟩) n0 n0]), (w3.heap.size, [.int .i64 s0, .slice a3 n0 cap3]), (w.heap.size, [.int .i64 s0, .slice a0 n0 cap0])]) := HD_94.out.below B_98.out
  clear HD_94
  have ZZ100 : Hid (w15.heap.size ≤ w16.heap.size) := B_98.out.size
  have W0_100 : Hid (EdgesOwn w2.heap.size w3.heap.size w16 a3 LL) := W0_95.out.below B_98.out (by have y0 := ZZ2.out; have y1 := ZZ8.out; have y2 := ZZ13.out; have y3 := ZZ17.out; have y4 := ZZ18.out; have y5 := ZZ24.out; have y6 := ZZ28.out; have y7 := ZZ29.out; have y8 := ZZ35.out; have y9 := ZZ39.out; have y10 := ZZ40.out; have y11 := ZZ45.out; have y12 := ZZ51.out; have y13 := ZZ56.out; have y14 := ZZ63.out; have y15 := ZZ68.out; have y16 := ZZ74.out; have y17 := ZZ80.out; have y18 := ZZ85.out; have y19 := ZZ89.out; have y20 := ZZ90.out; have y21 := ZZ95.out; have y22 := ZZ100.out; omega)
  have G0_100 : Hid (EdgesOwn (w4.alloc (.cells #[.int .i64 s0, .slice (some ⟨g4, 0, none⟩) n0 n0] 29)).heap.size w5.heap.size w16 a5 (marksE 1 n0)) := G0_95.out.below B_98.out (by have y0 := ZZ2.out; have y1 := ZZ8.out; have y2 := ZZ13.out; have y3 := ZZ17.out; have y4 := ZZ18.out; have y5 := ZZ24.out; have y6 := ZZ28.out; have y7 := ZZ29.out; have y8 := ZZ35.out; have y9 := ZZ39.out; have y10 := ZZ40.out; have y11 := ZZ45.out; have y12 := ZZ51.out; have y13 := ZZ56.out; have y14 := ZZ63.out; have y15 := ZZ68.out; have y16 := ZZ74.out; have y17 := ZZ80.out; have y18 := ZZ85.out; have y19 := ZZ89.out; have y20 := ZZ90.out; have y21 := ZZ95.out; have y22 := ZZ100.out; omega)
  have H0_100 : Hid (EdgesOwn w13.heap.size w14.heap.size w16 a14 LL) := H0_95.out.below B_98.out (by have y0 := ZZ2.out; have y1 := ZZ8.out; have y2 := ZZ13.out; have y3 := ZZ17.out; have y4 := ZZ18.out; have y5 := ZZ24.out; have y6 := ZZ28.out; have y7 := ZZ29.out; have y8 := ZZ35.out; have y9 := ZZ39.out; have y10 := ZZ40.out; have y11 := ZZ45.out; have y12 := ZZ51.out; have y13 := ZZ56.out; have y14 := ZZ63.out; have y15 := ZZ68.out; have y16 := ZZ74.out; have y17 := ZZ80.out; have y18 := ZZ85.out; have y19 := ZZ89.out; have y20 := ZZ90.out; have y21 := ZZ95.out; have y22 := ZZ100.out; omega)
  clear W0_95 G0_95 H0_95
  clear B_98
  obtain rfl : m11 = m16 := by rw [HM_m16.out, HM_m11.out]
  clear HM_m16
  have hn_m16 : ¬ ((m11 : Nat) : Int) < 0 := by omega
  go_wp2
  go_ret
  exact ⟨rfl, HD_99.out.bel⟩
end Go.Proofs.Ytfeimdlkpiacoaa
