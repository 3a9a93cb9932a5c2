/-
  The walk of FnExactTurnedPath.
-/
import Derived.Test.YteepbmgdjghfjaaTnS
import Derived.Test.YteepbmgdjghfjaaHld
namespace Go.Proofs.Yteepbmgdjghfjaa
open Go.RowKit

set_option maxHeartbeats 16000000 in
set_option maxRecDepth 100000 in
theorem law_11 (a1 : Option Addr) (n1 cap1 : Nat) (l1 : List Pc) (w : World) (hm1 : n1 ≤ maxLen) (hl1 : l1.length = n1 ∧ ∀ i, i < n1 → (pat l1 i).2.2.length ≤ maxLen) (hr1 : PathIn 0 w.heap.size w a1 l1) :
    Calls Try.prog 11 #[pv a1 n1 cap1] w fun e w' => e = .returned (.bool true) ∧ Below w.heap.size w w' := by
  have HR1 : Hid (PathIn 0 w.heap.size w a1 l1) := hr1
  have HL1 : Hid (l1.length = n1) := hl1.1
  have HLM1 : Hid (∀ i, i < n1 → (pat l1 i).2.2.length ≤ maxLen) := hl1.2
  have HMX1 : Hid (n1 ≤ maxLen) := hm1
  clear hr1 hl1 hm1
  obtain ⟨LL, HLL⟩ : ∃ LL, Hid (LL = turnP l1) := ⟨_, rfl⟩
  have HLN : Hid (LL.length = n1) := by show _ = _; rw [HLL.out, turnP_len, HL1.out]
  have HLR : Hid (∀ i, i < n1 → (pat LL i).2.2.length = (pat l1 i).2.2.length) := fun i hi => by rw [HLL.out]; exact turnP_row (by rw [HL1.out]; exact hi)
  have HLK : Hid (kidsLen LL n1 = kidsLen l1 n1) := by show _ = _; rw [HLL.out]; exact turnP_kids (by rw [HL1.out]; exact Nat.le_refl _)
  unfold pv
  go_enter Try.func11, Try.ntmps11
  go_wp2_with fail
  refine (szPath_any 0 w.heap.size a1 n1 cap1 1048576 l1 _ (HR1.out.below (below1 w _) (Nat.le_refl _)) (by simp) HL1.out HMX1.out HLM1.out (by omega)).mono ?_
  rintro e w1 ⟨x, rfl, HX1, hb1⟩
  have HD_1 : Hid (Hold w w1 [(w.heap.size, [.slice a1 n1 cap1])]) := ((Hold.none w).more [.slice a1 n1 cap1] 49).below hb1.out
  clear hb1
  by_cases hx : x < 0
  · go_wp2
    go_ret
    exact ⟨rfl, HD_1.out.bel⟩
  have HM1 : Hid (n1 ≤ 1048576 ∧ (∀ i, i < n1 → (pat l1 i).2.2.length ≤ 1048576) ∧ kidsLen l1 n1 ≤ 1048576) := by
    rcases HX1.out with h | ⟨h1, h2⟩
    · omega
    · refine ⟨by omega, fun i hi => ?_, by omega⟩
      have := kids_le l1 hi
      omega
  clear HX1 HMX1 HLM1
  have ZZ2 : Hid (w.heap.size < w1.heap.size) := HD_1.out.lt (vs := [.slice a1 n1 cap1]) (by simp)
  have HM2 : Hid (n1 ≤ 1048576 ∧ (∀ i, i < n1 → (pat LL i).2.2.length ≤ 1048576) ∧ kidsLen LL n1 ≤ 1048576) := ⟨HM1.out.1, fun i hi => by rw [HLR.out i hi]; exact HM1.out.2.1 i hi, by rw [HLK.out]; exact HM1.out.2.2⟩
  have q_4 : w1.cell? ⟨w.heap.size, 0, none⟩ = some (.slice a1 n1 cap1) := HD_1.out.cell (b := w.heap.size) (vs := [.slice a1 n1 cap1]) (i := 0) (by simp) (by simp)
  go_wp2_with fail
  refine (toPath_any 0 w.heap.size a1 n1 cap1 l1 _ (HR1.out.below HD_1.out.bel (Nat.le_refl _)) HD_1.out.bel.size HL1.out HM1.out.1 HM1.out.2.1).mono ?_
  rintro e w2 ⟨g2, rfl, X_3, B_5⟩
  clear q_4
  have HD_6 : Hid (Hold w w2 [(w.heap.size, [.slice a1 n1 cap1])]) := HD_1.out.below B_5.out
  clear HD_1
  have ZZ7 : Hid (w1.heap.size ≤ w2.heap.size) := B_5.out.size
  clear B_5
  have T1_8 : Hid (PathOwn w1.heap.size w2.heap.size w2 (some ⟨g2, 0, none⟩) l1) := X_3.out
  clear X_3
  go_wp2_with fail
  refine (specTurned_path w1.heap.size w2.heap.size (some ⟨g2, 0, none⟩) n1 n1 l1 _ T1_8.out.toIn (by have y0 := ZZ2.out; have y1 := ZZ7.out; omega) HL1.out HM1.out.1 HM1.out.2.1).mono ?_
  rintro e w3 ⟨a3, cap3, rfl, X_9, B_10⟩
  have HD_11 : Hid (Hold w w3 [(w.heap.size, [.slice a1 n1 cap1])]) := HD_6.out.below B_10.out
  clear HD_6
  have ZZ12 : Hid (w2.heap.size ≤ w3.heap.size) := B_10.out.size
  have T1_12 : Hid (PathOwn w1.heap.size w2.heap.size w3 (some ⟨g2, 0, none⟩) l1) := T1_8.out.below B_10.out (by have y0 := ZZ2.out; have y1 := ZZ7.out; have y2 := ZZ12.out; omega)
  clear T1_8
  clear B_10
  rw [← HLL.out] at X_9
  have W0_13 : Hid (PathOwn w2.heap.size w3.heap.size w3 a3 LL) := X_9.out
  clear X_9
  clear T1_12
  have BA_14 : Hid (Below w3.heap.size w3 (w3.alloc (.cells #[.slice a3 n1 cap3] 36))) := below1' w3 _
  have HD_15 : Hid (Hold w (w3.alloc (.cells #[.slice a3 n1 cap3] 36)) [(w3.heap.size, [.slice a3 n1 cap3]), (w.heap.size, [.slice a1 n1 cap1])]) := HD_11.out.more [.slice a3 n1 cap3] 36
  clear HD_11
  have ZZ16 : Hid ((w3.alloc (.cells #[.slice a3 n1 cap3] 36)).heap.size = w3.heap.size + 1) := by show _ = _; simp
  have ZZ17 : Hid (w3.heap.size ≤ (w3.alloc (.cells #[.slice a3 n1 cap3] 36)).heap.size) := BA_14.out.size
  have W0_17 : Hid (PathOwn w2.heap.size w3.heap.size (w3.alloc (.cells #[.slice a3 n1 cap3] 36)) a3 LL) := W0_13.out.below BA_14.out (by have y0 := ZZ2.out; have y1 := ZZ7.out; have y2 := ZZ12.out; have y3 := ZZ16.out; have y4 := ZZ17.out; omega)
  clear W0_13
  clear BA_14
  have q_19 : (w3.alloc (.cells #[.slice a3 n1 cap3] 36)).cell? ⟨w.heap.size, 0, none⟩ = some (.slice a1 n1 cap1) := HD_15.out.cell (b := w.heap.size) (vs := [.slice a1 n1 cap1]) (i := 0) (by simp) (by simp)
  go_wp2_with fail
  refine (toPath_any 0 w.heap.size a1 n1 cap1 l1 _ (HR1.out.below HD_15.out.bel (Nat.le_refl _)) HD_15.out.bel.size HL1.out HM1.out.1 HM1.out.2.1).mono ?_
  rintro e w4 ⟨g4, rfl, X_18, B_20⟩
  clear q_19
  have HD_21 : Hid (Hold w w4 [(w3.heap.size, [.slice a3 n1 cap3]), (w.heap.size, [.slice a1 n1 cap1])]) := HD_15.out.below B_20.out
  clear HD_15
  have ZZ22 : Hid ((w3.alloc (.cells #[.slice a3 n1 cap3] 36)).heap.size ≤ w4.heap.size) := B_20.out.size
  have W0_22 : Hid (PathOwn w2.heap.size w3.heap.size w4 a3 LL) := W0_17.out.below B_20.out (by have y0 := ZZ2.out; have y1 := ZZ7.out; have y2 := ZZ12.out; have y3 := ZZ16.out; have y4 := ZZ17.out; have y5 := ZZ22.out; omega)
  clear W0_17
  clear B_20
  have X0_23 : Hid (PathOwn (w3.alloc (.cells #[.slice a3 n1 cap3] 36)).heap.size w4.heap.size w4 (some ⟨g4, 0, none⟩) l1) := X_18.out
  clear X_18
  have BA_24 : Hid (Below w4.heap.size w4 (w4.alloc (.cells #[.slice (some ⟨g4, 0, none⟩) n1 n1] 36))) := below1' w4 _
  have HD_25 : Hid (Hold w (w4.alloc (.cells #[.slice (some ⟨g4, 0, none⟩) n1 n1] 36)) [(w4.heap.size, [.slice (some ⟨g4, 0, none⟩) n1 n1]), (w3.heap.size, [.slice a3 n1 cap3]), (w.heap.size, [.slice a1 n1 cap1])]) := HD_21.out.more [.slice (some ⟨g4, 0, none⟩) n1 n1] 36
  clear HD_21
  have ZZ26 : Hid ((w4.alloc (.cells #[.slice (some ⟨g4, 0, none⟩) n1 n1] 36)).heap.size = w4.heap.size + 1) := by show _ = _; simp
  have ZZ27 : Hid (w4.heap.size ≤ (w4.alloc (.cells #[.slice (some ⟨g4, 0, none⟩) n1 n1] 36)).heap.size) := BA_24.out.size
  have W0_27 : Hid (PathOwn w2.heap.size w3.heap.size (w4.alloc (.cells #[.slice (some ⟨g4, 0, none⟩) n1 n1] 36)) a3 LL) := W0_22.out.below BA_24.out (by have y0 := ZZ2.out; have y1 := ZZ7.out; have y2 := ZZ12.out; have y3 := ZZ16.out; have y4 := ZZ17.out; have y5 := ZZ22.out; have y6 := ZZ26.out; have y7 := ZZ27.out; omega)
  have X0_27 : Hid (PathOwn (w3.alloc (.cells #[.slice a3 n1 cap3] 36)).heap.size w4.heap.size (w4.alloc (.cells #[.slice (some ⟨g4, 0, none⟩) n1 n1] 36)) (some ⟨g4, 0, none⟩) l1) := X0_23.out.below BA_24.out (by have y0 := ZZ2.out; have y1 := ZZ7.out; have y2 := ZZ12.out; have y3 := ZZ16.out; have y4 := ZZ17.out; have y5 := ZZ22.out; have y6 := ZZ26.out; have y7 := ZZ27.out; omega)
  clear W0_22 X0_23
  clear BA_24
  have q_29 : (w4.alloc (.cells #[.slice (some ⟨g4, 0, none⟩) n1 n1] 36)).cell? ⟨w4.heap.size, 0, none⟩ = some (.slice (some ⟨g4, 0, none⟩) n1 n1) := HD_25.out.cell (b := w4.heap.size) (vs := [.slice (some ⟨g4, 0, none⟩) n1 n1]) (i := 0) (by simp) (by simp)
  go_wp2_with fail
  refine (turnedPath_any (w3.alloc (.cells #[.slice a3 n1 cap3] 36)).heap.size w4.heap.size (some ⟨g4, 0, none⟩) n1 n1 l1 _ X0_27.out.toIn (by have y0 := ZZ2.out; have y1 := ZZ7.out; have y2 := ZZ12.out; have y3 := ZZ16.out; have y4 := ZZ17.out; have y5 := ZZ22.out; have y6 := ZZ26.out; have y7 := ZZ27.out; omega) HL1.out HM1.out.1 HM1.out.2.1).mono ?_
  rintro e w5 ⟨a5, cap5, rfl, X_28, B_30⟩
  clear q_29
  have HD_31 : Hid (Hold w w5 [(w4.heap.size, [.slice (some ⟨g4, 0, none⟩) n1 n1]), (w3.heap.size, [.slice a3 n1 cap3]), (w.heap.size, [.slice a1 n1 cap1])]) := HD_25.out.below B_30.out
  clear HD_25
  have ZZ32 : Hid ((w4.alloc (.cells #[.slice (some ⟨g4, 0, none⟩) n1 n1] 36)).heap.size ≤ w5.heap.size) := B_30.out.size
  have W0_32 : Hid (PathOwn w2.heap.size w3.heap.size w5 a3 LL) := W0_27.out.below B_30.out (by have y0 := ZZ2.out; have y1 := ZZ7.out; have y2 := ZZ12.out; have y3 := ZZ16.out; have y4 := ZZ17.out; have y5 := ZZ22.out; have y6 := ZZ26.out; have y7 := ZZ27.out; have y8 := ZZ32.out; omega)
  have X0_32 : Hid (PathOwn (w3.alloc (.cells #[.slice a3 n1 cap3] 36)).heap.size w4.heap.size w5 (some ⟨g4, 0, none⟩) l1) := X0_27.out.below B_30.out (by have y0 := ZZ2.out; have y1 := ZZ7.out; have y2 := ZZ12.out; have y3 := ZZ16.out; have y4 := ZZ17.out; have y5 := ZZ22.out; have y6 := ZZ26.out; have y7 := ZZ27.out; have y8 := ZZ32.out; omega)
  clear W0_27 X0_27
  clear B_30
  rw [← HLL.out] at X_28
  have G0_33 : Hid (PathOwn (w4.alloc (.cells #[.slice (some ⟨g4, 0, none⟩) n1 n1] 36)).heap.size w5.heap.size w5 a5 LL) := X_28.out
  clear X_28
  have BA_34 : Hid (Below w5.heap.size w5 (w5.alloc (.cells #[.slice a5 n1 cap5] 36))) := below1' w5 _
  have HD_35 : Hid (Hold w (w5.alloc (.cells #[.slice a5 n1 cap5] 36)) [(w5.heap.size, [.slice a5 n1 cap5]), (w4.heap.size, [.slice (some ⟨g4, 0, none⟩) n1 n1]), (w3.heap.size, [.slice a3 n1 cap3]), (w.heap.size, [.slice a1 n1 cap1])]) := HD_31.out.more [.slice a5 n1 cap5] 36
  clear HD_31
  have ZZ36 : Hid ((w5.alloc (.cells #[.slice a5 n1 cap5] 36)).heap.size = w5.heap.size + 1) := by show _ = _; simp
  have ZZ37 : Hid (w5.heap.size ≤ (w5.alloc (.cells #[.slice a5 n1 cap5] 36)).heap.size) := BA_34.out.size
  have W0_37 : Hid (PathOwn w2.heap.size w3.heap.size (w5.alloc (.cells #[.slice a5 n1 cap5] 36)) a3 LL) := W0_32.out.below BA_34.out (by have y0 := ZZ2.out; have y1 := ZZ7.out; have y2 := ZZ12.out; have y3 := ZZ16.out; have y4 := ZZ17.out; have y5 := ZZ22.out; have y6 := ZZ26.out; have y7 := ZZ27.out; have y8 := ZZ32.out; have y9 := ZZ36.out; have y10 := ZZ37.out; omega)
  have X0_37 : Hid (PathOwn (w3.alloc (.cells #[.slice a3 n1 cap3] 36)).heap.size w4.heap.size (w5.alloc (.cells #[.slice a5 n1 cap5] 36)) (some ⟨g4, 0, none⟩) l1) := X0_32.out.below BA_34.out (by have y0 := ZZ2.out; have y1 := ZZ7.out; have y2 := ZZ12.out; have y3 := ZZ16.out; have y4 := ZZ17.out; have y5 := ZZ22.out; have y6 := ZZ26.out; have y7 := ZZ27.out; have y8 := ZZ32.out; have y9 := ZZ36.out; have y10 := ZZ37.out; omega)
  have G0_37 : Hid (PathOwn (w4.alloc (.cells #[.slice (some ⟨g4, 0, none⟩) n1 n1] 36)).heap.size w5.heap.size (w5.alloc (.cells #[.slice a5 n1 cap5] 36)) a5 LL) := G0_33.out.below BA_34.out (by have y0 := ZZ2.out; have y1 := ZZ7.out; have y2 := ZZ12.out; have y3 := ZZ16.out; have y4 := ZZ17.out; have y5 := ZZ22.out; have y6 := ZZ26.out; have y7 := ZZ27.out; have y8 := ZZ32.out; have y9 := ZZ36.out; have y10 := ZZ37.out; omega)
  clear W0_32 X0_32 G0_33
  clear BA_34
  have q_38 : (w5.alloc (.cells #[.slice a5 n1 cap5] 36)).cell? ⟨w3.heap.size, 0, none⟩ = some (.slice a3 n1 cap3) := HD_35.out.cell (b := w3.heap.size) (vs := [.slice a3 n1 cap3]) (i := 0) (by simp) (by simp)
  go_wp2_with fail
  refine (eqPath_any (w4.alloc (.cells #[.slice (some ⟨g4, 0, none⟩) n1 n1] 36)).heap.size w5.heap.size w2.heap.size w3.heap.size a5 a3 n1 n1 cap5 cap3 LL LL true _ G0_37.out.toIn W0_37.out.toIn (by have y0 := ZZ2.out; have y1 := ZZ7.out; have y2 := ZZ12.out; have y3 := ZZ16.out; have y4 := ZZ17.out; have y5 := ZZ22.out; have y6 := ZZ26.out; have y7 := ZZ27.out; have y8 := ZZ32.out; have y9 := ZZ36.out; have y10 := ZZ37.out; omega) (by have y0 := ZZ2.out; have y1 := ZZ7.out; have y2 := ZZ12.out; have y3 := ZZ16.out; have y4 := ZZ17.out; have y5 := ZZ22.out; have y6 := ZZ26.out; have y7 := ZZ27.out; have y8 := ZZ32.out; have y9 := ZZ36.out; have y10 := ZZ37.out; omega) HLN.out HLN.out HM2.out.1 HM2.out.2.1 (by simp)).mono ?_
  rintro e w6 ⟨rfl, B_39⟩
  clear q_38
  have HD_40 : Hid (Hold w w6 [(w5.heap.size, [.slice a5 n1 cap5]), (w4.heap.size, [.slice (some ⟨g4, 0, none⟩) n1 n1]), (w3.heap.size, [.slice a3 n1 cap3]), (w.heap.size, [.slice a1 n1 cap1])]) := HD_35.out.below B_39.out
  clear HD_35
  have ZZ41 : Hid ((w5.alloc (.cells #[.slice a5 n1 cap5] 36)).heap.size ≤ w6.heap.size) := B_39.out.size
  have W0_41 : Hid (PathOwn w2.heap.size w3.heap.size w6 a3 LL) := W0_37.out.below B_39.out (by have y0 := ZZ2.out; have y1 := ZZ7.out; have y2 := ZZ12.out; have y3 := ZZ16.out; have y4 := ZZ17.out; have y5 := ZZ22.out; have y6 := ZZ26.out; have y7 := ZZ27.out; have y8 := ZZ32.out; have y9 := ZZ36.out; have y10 := ZZ37.out; have y11 := ZZ41.out; omega)
  have X0_41 : Hid (PathOwn (w3.alloc (.cells #[.slice a3 n1 cap3] 36)).heap.size w4.heap.size w6 (some ⟨g4, 0, none⟩) l1) := X0_37.out.below B_39.out (by have y0 := ZZ2.out; have y1 := ZZ7.out; have y2 := ZZ12.out; have y3 := ZZ16.out; have y4 := ZZ17.out; have y5 := ZZ22.out; have y6 := ZZ26.out; have y7 := ZZ27.out; have y8 := ZZ32.out; have y9 := ZZ36.out; have y10 := ZZ37.out; have y11 := ZZ41.out; omega)
  have G0_41 : Hid (PathOwn (w4.alloc (.cells #[.slice (some ⟨g4, 0, none⟩) n1 n1] 36)).heap.size w5.heap.size w6 a5 LL) := G0_37.out.below B_39.out (by have y0 := ZZ2.out; have y1 := ZZ7.out; have y2 := ZZ12.out; have y3 := ZZ16.out; have y4 := ZZ17.out; have y5 := ZZ22.out; have y6 := ZZ26.out; have y7 := ZZ27.out; have y8 := ZZ32.out; have y9 := ZZ36.out; have y10 := ZZ37.out; have y11 := ZZ41.out; omega)
  clear W0_37 X0_37 G0_37
  clear B_39
  have q_42 : w6.cell? ⟨w4.heap.size, 0, none⟩ = some (.slice (some ⟨g4, 0, none⟩) n1 n1) := HD_40.out.cell (b := w4.heap.size) (vs := [.slice (some ⟨g4, 0, none⟩) n1 n1]) (i := 0) (by simp) (by simp)
  have q_43 : w6.cell? ⟨w.heap.size, 0, none⟩ = some (.slice a1 n1 cap1) := HD_40.out.cell (b := w.heap.size) (vs := [.slice a1 n1 cap1]) (i := 0) (by simp) (by simp)
  have HC1 : Hid (∀ w0, Below w6.heap.size w6 w0 → Calls Try.prog 31 #[.agg #[.slice a1 n1 cap1]] w0 fun e w' => ∃ g : Nat, e = .returned (.agg #[.slice (some ⟨g, 0, none⟩) n1 n1]) ∧ Hid (PathIn w6.heap.size w'.heap.size w' (some ⟨g, 0, none⟩) l1) ∧ Hid (Below w6.heap.size w6 w') ∧ (w'.cell? ⟨w4.heap.size, 0, none⟩ = some (.slice (some ⟨g4, 0, none⟩) n1 n1) ∧ w'.cell? ⟨w.heap.size, 0, none⟩ = some (.slice a1 n1 cap1))) := fun w0 h =>
    (toPath_any 0 w.heap.size a1 n1 cap1 l1 w0 (HR1.out.below (HD_40.out.below h).bel (Nat.le_refl _)) (HD_40.out.below h).bel.size HL1.out HM1.out.1 HM1.out.2.1).mono fun _ w' ⟨g, h1, h2, h4⟩ =>
      have h3 : Hid (Hold w w' [(w5.heap.size, [.slice a5 n1 cap5]), (w4.heap.size, [.slice (some ⟨g4, 0, none⟩) n1 n1]), (w3.heap.size, [.slice a3 n1 cap3]), (w.heap.size, [.slice a1 n1 cap1])]) := (HD_40.out.below h).below h4.out
      ⟨g, h1, h2.out.toIn.wide h.size (Nat.le_refl _), h.trans (h4.out.mono h.size), h3.out.cell (b := w4.heap.size) (vs := [.slice (some ⟨g4, 0, none⟩) n1 n1]) (i := 0) (by simp) (by simp), h3.out.cell (b := w.heap.size) (vs := [.slice a1 n1 cap1]) (i := 0) (by simp) (by simp)⟩
  have HC2 : Hid (∀ (g : Nat) w0, Below w6.heap.size w6 w0 → PathIn w6.heap.size w0.heap.size w0 (some ⟨g, 0, none⟩) l1 → Calls Try.prog 32 #[.agg #[.slice (some ⟨g4, 0, none⟩) n1 n1], .agg #[.slice (some ⟨g, 0, none⟩) n1 n1]] w0 fun e w' => e = .returned (.bool true) ∧ Hid (Below w6.heap.size w6 w') ∧ (w'.cell? ⟨w4.heap.size, 0, none⟩ = some (.slice (some ⟨g4, 0, none⟩) n1 n1) ∧ w'.cell? ⟨w.heap.size, 0, none⟩ = some (.slice a1 n1 cap1))) := fun g w0 h hx =>
    (eqPath_any (w3.alloc (.cells #[.slice a3 n1 cap3] 36)).heap.size w4.heap.size w6.heap.size w0.heap.size (some ⟨g4, 0, none⟩) (some ⟨g, 0, none⟩) n1 n1 n1 n1 l1 l1 true w0 (X0_41.out.toIn.below h (by have y0 := ZZ2.out; have y1 := ZZ7.out; have y2 := ZZ12.out; have y3 := ZZ16.out; have y4 := ZZ17.out; have y5 := ZZ22.out; have y6 := ZZ26.out; have y7 := ZZ27.out; have y8 := ZZ32.out; have y9 := ZZ36.out; have y10 := ZZ37.out; have y11 := ZZ41.out; omega)) hx (by have yy := h.size; have y0 := ZZ2.out; have y1 := ZZ7.out; have y2 := ZZ12.out; have y3 := ZZ16.out; have y4 := ZZ17.out; have y5 := ZZ22.out; have y6 := ZZ26.out; have y7 := ZZ27.out; have y8 := ZZ32.out; have y9 := ZZ36.out; have y10 := ZZ37.out; have y11 := ZZ41.out; omega) (Nat.le_refl _) HL1.out HL1.out HM1.out.1 HM1.out.2.1 (by simp)).mono fun _ w' ⟨h1, h4⟩ =>
      have h3 : Hid (Hold w w' [(w5.heap.size, [.slice a5 n1 cap5]), (w4.heap.size, [.slice (some ⟨g4, 0, none⟩) n1 n1]), (w3.heap.size, [.slice a3 n1 cap3]), (w.heap.size, [.slice a1 n1 cap1])]) := (HD_40.out.below h).below h4.out
      ⟨h1, h.trans (h4.out.mono h.size), h3.out.cell (b := w4.heap.size) (vs := [.slice (some ⟨g4, 0, none⟩) n1 n1]) (i := 0) (by simp) (by simp), h3.out.cell (b := w.heap.size) (vs := [.slice a1 n1 cap1]) (i := 0) (by simp) (by simp)⟩
  go_wp2_with fail
  go_region_held3 (fun w' => w'.cell? ⟨w4.heap.size, 0, none⟩ = some (.slice (some ⟨g4, 0, none⟩) n1 n1) ∧ w'.cell? ⟨w.heap.size, 0, none⟩ = some (.slice a1 n1 cap1)) (first | exact ⟨q_42, q_43⟩ | exact hk9 | exact hk10) (first | (go_at_call 31; refine (HC1.out _ ((Below.refl _ _).drew)).mono ?_; rintro e w7 ⟨g9, rfl, X9, B9, hk9⟩) | (go_at_call 32; refine (HC2.out _ _ B9.out X9.out).mono ?_; rintro e w8 ⟨rfl, B10, hk10⟩))
  clear q_42 q_43
  clear hk9 hk10 B9 X9 HC1 HC2
  have HD_44 : Hid (Hold w w8 [(w5.heap.size, [.slice a5 n1 cap5]), (w4.heap.size, [.slice (some ⟨g4, 0, none⟩) n1 n1]), (w3.heap.size, [.slice a3 n1 cap3]), (w.heap.size, [.slice a1 n1 cap1])]) := HD_40.out.below B10.out
  clear HD_40
  have ZZ45 : Hid (w6.heap.size ≤ w8.heap.size) := B10.out.size
  have W0_45 : Hid (PathOwn w2.heap.size w3.heap.size w8 a3 LL) := W0_41.out.below B10.out (by have y0 := ZZ2.out; have y1 := ZZ7.out; have y2 := ZZ12.out; have y3 := ZZ16.out; have y4 := ZZ17.out; have y5 := ZZ22.out; have y6 := ZZ26.out; have y7 := ZZ27.out; have y8 := ZZ32.out; have y9 := ZZ36.out; have y10 := ZZ37.out; have y11 := ZZ41.out; have y12 := ZZ45.out; omega)
  have X0_45 : Hid (PathOwn (w3.alloc (.cells #[.slice a3 n1 cap3] 36)).heap.size w4.heap.size w8 (some ⟨g4, 0, none⟩) l1) := X0_41.out.below B10.out (by have y0 := ZZ2.out; have y1 := ZZ7.out; have y2 := ZZ12.out; have y3 := ZZ16.out; have y4 := ZZ17.out; have y5 := ZZ22.out; have y6 := ZZ26.out; have y7 := ZZ27.out; have y8 := ZZ32.out; have y9 := ZZ36.out; have y10 := ZZ37.out; have y11 := ZZ41.out; have y12 := ZZ45.out; omega)
  have G0_45 : Hid (PathOwn (w4.alloc (.cells #[.slice (some ⟨g4, 0, none⟩) n1 n1] 36)).heap.size w5.heap.size w8 a5 LL) := G0_41.out.below B10.out (by have y0 := ZZ2.out; have y1 := ZZ7.out; have y2 := ZZ12.out; have y3 := ZZ16.out; have y4 := ZZ17.out; have y5 := ZZ22.out; have y6 := ZZ26.out; have y7 := ZZ27.out; have y8 := ZZ32.out; have y9 := ZZ36.out; have y10 := ZZ37.out; have y11 := ZZ41.out; have y12 := ZZ45.out; omega)
  clear W0_41 X0_41 G0_41
  clear B10
  have q_46 : w8.cell? ⟨w4.heap.size, 0, none⟩ = some (.slice (some ⟨g4, 0, none⟩) n1 n1) := HD_44.out.cell (b := w4.heap.size) (vs := [.slice (some ⟨g4, 0, none⟩) n1 n1]) (i := 0) (by simp) (by simp)
  go_wp2_with fail
  refine (markPath_any (w3.alloc (.cells #[.slice a3 n1 cap3] 36)).heap.size w4.heap.size (some ⟨g4, 0, none⟩) n1 n1 1 l1 _ X0_45.out (by have y0 := ZZ2.out; have y1 := ZZ7.out; have y2 := ZZ12.out; have y3 := ZZ16.out; have y4 := ZZ17.out; have y5 := ZZ22.out; have y6 := ZZ26.out; have y7 := ZZ27.out; have y8 := ZZ32.out; have y9 := ZZ36.out; have y10 := ZZ37.out; have y11 := ZZ41.out; have y12 := ZZ45.out; omega) HL1.out HM1.out.1 HM1.out.2.2 (by omega)).mono ?_
  rintro e w9 ⟨m9, rfl, HM_m9, X_47, K_47⟩
  clear q_46
  have HD_48 : Hid (Hold w w9 [(w5.heap.size, [.slice a5 n1 cap5]), (w4.heap.size, [.slice (some ⟨g4, 0, none⟩) n1 n1]), (w3.heap.size, [.slice a3 n1 cap3]), (w.heap.size, [.slice a1 n1 cap1])]) := HD_44.out.kept K_47.out (by intro x hx; simp only [List.mem_cons, List.not_mem_nil, or_false] at hx; have y0 := ZZ2.out; have y1 := ZZ7.out; have y2 := ZZ12.out; have y3 := ZZ16.out; have y4 := ZZ17.out; have y5 := ZZ22.out; have y6 := ZZ26.out; have y7 := ZZ27.out; have y8 := ZZ32.out; have y9 := ZZ36.out; have y10 := ZZ37.out; have y11 := ZZ41.out; have y12 := ZZ45.out; rcases hx with rfl | rfl | rfl | rfl <;> dsimp only <;> omega) (fun k hk => by have y0 := ZZ2.out; have y1 := ZZ7.out; have y2 := ZZ12.out; have y3 := ZZ16.out; have y4 := ZZ17.out; have y5 := ZZ22.out; have y6 := ZZ26.out; have y7 := ZZ27.out; have y8 := ZZ32.out; have y9 := ZZ36.out; have y10 := ZZ37.out; have y11 := ZZ41.out; have y12 := ZZ45.out; omega)
  clear HD_44
  have ZZ49 : Hid (w8.heap.size ≤ w9.heap.size) := K_47.out.size
  have W0_49 : Hid (PathOwn w2.heap.size w3.heap.size w9 a3 LL) := W0_45.out.kept K_47.out (by have y0 := ZZ2.out; have y1 := ZZ7.out; have y2 := ZZ12.out; have y3 := ZZ16.out; have y4 := ZZ17.out; have y5 := ZZ22.out; have y6 := ZZ26.out; have y7 := ZZ27.out; have y8 := ZZ32.out; have y9 := ZZ36.out; have y10 := ZZ37.out; have y11 := ZZ41.out; have y12 := ZZ45.out; have y13 := ZZ49.out; omega) (fun c h1 h2 h3 => by have y0 := ZZ2.out; have y1 := ZZ7.out; have y2 := ZZ12.out; have y3 := ZZ16.out; have y4 := ZZ17.out; have y5 := ZZ22.out; have y6 := ZZ26.out; have y7 := ZZ27.out; have y8 := ZZ32.out; have y9 := ZZ36.out; have y10 := ZZ37.out; have y11 := ZZ41.out; have y12 := ZZ45.out; have y13 := ZZ49.out; omega)
  have G0_49 : Hid (PathOwn (w4.alloc (.cells #[.slice (some ⟨g4, 0, none⟩) n1 n1] 36)).heap.size w5.heap.size w9 a5 LL) := G0_45.out.kept K_47.out (by have y0 := ZZ2.out; have y1 := ZZ7.out; have y2 := ZZ12.out; have y3 := ZZ16.out; have y4 := ZZ17.out; have y5 := ZZ22.out; have y6 := ZZ26.out; have y7 := ZZ27.out; have y8 := ZZ32.out; have y9 := ZZ36.out; have y10 := ZZ37.out; have y11 := ZZ41.out; have y12 := ZZ45.out; have y13 := ZZ49.out; omega) (fun c h1 h2 h3 => by have y0 := ZZ2.out; have y1 := ZZ7.out; have y2 := ZZ12.out; have y3 := ZZ16.out; have y4 := ZZ17.out; have y5 := ZZ22.out; have y6 := ZZ26.out; have y7 := ZZ27.out; have y8 := ZZ32.out; have y9 := ZZ36.out; have y10 := ZZ37.out; have y11 := ZZ41.out; have y12 := ZZ45.out; have y13 := ZZ49.out; omega)
  clear W0_45 X0_45 G0_45
  clear K_47
  have hn_m9 : ¬ ((m9 : Nat) : Int) < 0 := by omega
  have q_50 : w9.cell? ⟨w5.heap.size, 0, none⟩ = some (.slice a5 n1 cap5) := HD_48.out.cell (b := w5.heap.size) (vs := [.slice a5 n1 cap5]) (i := 0) (by simp) (by simp)
  have q_51 : w9.cell? ⟨w3.heap.size, 0, none⟩ = some (.slice a3 n1 cap3) := HD_48.out.cell (b := w3.heap.size) (vs := [.slice a3 n1 cap3]) (i := 0) (by simp) (by simp)
  go_wp2_with fail
  refine (eqPath_any (w4.alloc (.cells #[.slice (some ⟨g4, 0, none⟩) n1 n1] 36)).heap.size w5.heap.size w2.heap.size w3.heap.size a5 a3 n1 n1 cap5 cap3 LL LL true _ G0_49.out.toIn W0_49.out.toIn (by have y0 := ZZ2.out; have y1 := ZZ7.out; have y2 := ZZ12.out; have y3 := ZZ16.out; have y4 := ZZ17.out; have y5 := ZZ22.out; have y6 := ZZ26.out; have y7 := ZZ27.out; have y8 := ZZ32.out; have y9 := ZZ36.out; have y10 := ZZ37.out; have y11 := ZZ41.out; have y12 := ZZ45.out; have y13 := ZZ49.out; omega) (by have y0 := ZZ2.out; have y1 := ZZ7.out; have y2 := ZZ12.out; have y3 := ZZ16.out; have y4 := ZZ17.out; have y5 := ZZ22.out; have y6 := ZZ26.out; have y7 := ZZ27.out; have y8 := ZZ32.out; have y9 := ZZ36.out; have y10 := ZZ37.out; have y11 := ZZ41.out; have y12 := ZZ45.out; have y13 := ZZ49.out; omega) HLN.out HLN.out HM2.out.1 HM2.out.2.1 (by simp)).mono ?_
  rintro e w10 ⟨rfl, B_52⟩
  clear q_50 q_51
  have HD_53 : Hid (Hold w w10 [(w5.heap.size, [.slice a5 n1 cap5]), (w4.heap.size, [.slice (some ⟨g4, 0, none⟩) n1 n1]), (w3.heap.size, [.slice a3 n1 cap3]), (w.heap.size, [.slice a1 n1 cap1])]) := HD_48.out.below B_52.out
  clear HD_48
  have ZZ54 : Hid (w9.heap.size ≤ w10.heap.size) := B_52.out.size
  have W0_54 : Hid (PathOwn w2.heap.size w3.heap.size w10 a3 LL) := W0_49.out.below B_52.out (by have y0 := ZZ2.out; have y1 := ZZ7.out; have y2 := ZZ12.out; have y3 := ZZ16.out; have y4 := ZZ17.out; have y5 := ZZ22.out; have y6 := ZZ26.out; have y7 := ZZ27.out; have y8 := ZZ32.out; have y9 := ZZ36.out; have y10 := ZZ37.out; have y11 := ZZ41.out; have y12 := ZZ45.out; have y13 := ZZ49.out; have y14 := ZZ54.out; omega)
  have G0_54 : Hid (PathOwn (w4.alloc (.cells #[.slice (some ⟨g4, 0, none⟩) n1 n1] 36)).heap.size w5.heap.size w10 a5 LL) := G0_49.out.below B_52.out (by have y0 := ZZ2.out; have y1 := ZZ7.out; have y2 := ZZ12.out; have y3 := ZZ16.out; have y4 := ZZ17.out; have y5 := ZZ22.out; have y6 := ZZ26.out; have y7 := ZZ27.out; have y8 := ZZ32.out; have y9 := ZZ36.out; have y10 := ZZ37.out; have y11 := ZZ41.out; have y12 := ZZ45.out; have y13 := ZZ49.out; have y14 := ZZ54.out; omega)
  clear W0_49 G0_49
  clear B_52
  have q_55 : w10.cell? ⟨w5.heap.size, 0, none⟩ = some (.slice a5 n1 cap5) := HD_53.out.cell (b := w5.heap.size) (vs := [.slice a5 n1 cap5]) (i := 0) (by simp) (by simp)
  go_wp2_with fail
  refine (markPath_any (w4.alloc (.cells #[.slice (some ⟨g4, 0, none⟩) n1 n1] 36)).heap.size w5.heap.size a5 n1 cap5 1 LL _ G0_54.out (by have y0 := ZZ2.out; have y1 := ZZ7.out; have y2 := ZZ12.out; have y3 := ZZ16.out; have y4 := ZZ17.out; have y5 := ZZ22.out; have y6 := ZZ26.out; have y7 := ZZ27.out; have y8 := ZZ32.out; have y9 := ZZ36.out; have y10 := ZZ37.out; have y11 := ZZ41.out; have y12 := ZZ45.out; have y13 := ZZ49.out; have y14 := ZZ54.out; omega) HLN.out HM2.out.1 HM2.out.2.2 (by omega)).mono ?_
  rintro e w11 ⟨m11, rfl, HM_m11, X_56, K_56⟩
  clear q_55
  have HD_57 : Hid (Hold w w11 [(w5.heap.size, [.slice a5 n1 cap5]), (w4.heap.size, [.slice (some ⟨g4, 0, none⟩) n1 n1]), (w3.heap.size, [.slice a3 n1 cap3]), (w.heap.size, [.slice a1 n1 cap1])]) := HD_53.out.kept K_56.out (by intro x hx; simp only [List.mem_cons, List.not_mem_nil, or_false] at hx; have y0 := ZZ2.out; have y1 := ZZ7.out; have y2 := ZZ12.out; have y3 := ZZ16.out; have y4 := ZZ17.out; have y5 := ZZ22.out; have y6 := ZZ26.out; have y7 := ZZ27.out; have y8 := ZZ32.out; have y9 := ZZ36.out; have y10 := ZZ37.out; have y11 := ZZ41.out; have y12 := ZZ45.out; have y13 := ZZ49.out; have y14 := ZZ54.out; rcases hx with rfl | rfl | rfl | rfl <;> dsimp only <;> omega) (fun k hk => by have y0 := ZZ2.out; have y1 := ZZ7.out; have y2 := ZZ12.out; have y3 := ZZ16.out; have y4 := ZZ17.out; have y5 := ZZ22.out; have y6 := ZZ26.out; have y7 := ZZ27.out; have y8 := ZZ32.out; have y9 := ZZ36.out; have y10 := ZZ37.out; have y11 := ZZ41.out; have y12 := ZZ45.out; have y13 := ZZ49.out; have y14 := ZZ54.out; omega)
  clear HD_53
  have ZZ58 : Hid (w10.heap.size ≤ w11.heap.size) := K_56.out.size
  have W0_58 : Hid (PathOwn w2.heap.size w3.heap.size w11 a3 LL) := W0_54.out.kept K_56.out (by have y0 := ZZ2.out; have y1 := ZZ7.out; have y2 := ZZ12.out; have y3 := ZZ16.out; have y4 := ZZ17.out; have y5 := ZZ22.out; have y6 := ZZ26.out; have y7 := ZZ27.out; have y8 := ZZ32.out; have y9 := ZZ36.out; have y10 := ZZ37.out; have y11 := ZZ41.out; have y12 := ZZ45.out; have y13 := ZZ49.out; have y14 := ZZ54.out; have y15 := ZZ58.out; omega) (fun c h1 h2 h3 => by have y0 := ZZ2.out; have y1 := ZZ7.out; have y2 := ZZ12.out; have y3 := ZZ16.out; have y4 := ZZ17.out; have y5 := ZZ22.out; have y6 := ZZ26.out; have y7 := ZZ27.out; have y8 := ZZ32.out; have y9 := ZZ36.out; have y10 := ZZ37.out; have y11 := ZZ41.out; have y12 := ZZ45.out; have y13 := ZZ49.out; have y14 := ZZ54.out; have y15 := ZZ58.out; omega)
  clear W0_54 G0_54
  clear K_56
  have G0_59 : Hid (PathOwn (w4.alloc (.cells #[.slice (some ⟨g4, 0, none⟩) n1 n1] 36)).heap.size w5.heap.size w11 a5 (mkToP 1 LL n1)) := X_56.out
  clear X_56
  have q_60 : w11.cell? ⟨w5.heap.size, 0, none⟩ = some (.slice a5 n1 cap5) := HD_57.out.cell (b := w5.heap.size) (vs := [.slice a5 n1 cap5]) (i := 0) (by simp) (by simp)
  go_wp2_with fail
  refine (heldPath_any (w4.alloc (.cells #[.slice (some ⟨g4, 0, none⟩) n1 n1] 36)).heap.size w5.heap.size a5 n1 cap5 1 LL _ G0_59.out.toIn (by have y0 := ZZ2.out; have y1 := ZZ7.out; have y2 := ZZ12.out; have y3 := ZZ16.out; have y4 := ZZ17.out; have y5 := ZZ22.out; have y6 := ZZ26.out; have y7 := ZZ27.out; have y8 := ZZ32.out; have y9 := ZZ36.out; have y10 := ZZ37.out; have y11 := ZZ41.out; have y12 := ZZ45.out; have y13 := ZZ49.out; have y14 := ZZ54.out; have y15 := ZZ58.out; omega) HLN.out HM2.out.1 HM2.out.2.2 (by omega)).mono ?_
  rintro e w12 ⟨m12, rfl, HM_m12, B_61⟩
  clear q_60
  have HD_62 : Hid (Hold w w12 [(w5.heap.size, [.slice a5 n1 cap5]), (w4.heap.size, [.slice (some ⟨g4, 0, none⟩) n1 n1]), (w3.heap.size, [.slice a3 n1 cap3]), (w.heap.size, [.slice a1 n1 cap1])]) := HD_57.out.below B_61.out
  clear HD_57
  have ZZ63 : Hid (w11.heap.size ≤ w12.heap.size) := B_61.out.size
  have W0_63 : Hid (PathOwn w2.heap.size w3.heap.size w12 a3 LL) := W0_58.out.below B_61.out (by have y0 := ZZ2.out; have y1 := ZZ7.out; have y2 := ZZ12.out; have y3 := ZZ16.out; have y4 := ZZ17.out; have y5 := ZZ22.out; have y6 := ZZ26.out; have y7 := ZZ27.out; have y8 := ZZ32.out; have y9 := ZZ36.out; have y10 := ZZ37.out; have y11 := ZZ41.out; have y12 := ZZ45.out; have y13 := ZZ49.out; have y14 := ZZ54.out; have y15 := ZZ58.out; have y16 := ZZ63.out; omega)
  have G0_63 : Hid (PathOwn (w4.alloc (.cells #[.slice (some ⟨g4, 0, none⟩) n1 n1] 36)).heap.size w5.heap.size w12 a5 (mkToP 1 LL n1)) := G0_59.out.below B_61.out (by have y0 := ZZ2.out; have y1 := ZZ7.out; have y2 := ZZ12.out; have y3 := ZZ16.out; have y4 := ZZ17.out; have y5 := ZZ22.out; have y6 := ZZ26.out; have y7 := ZZ27.out; have y8 := ZZ32.out; have y9 := ZZ36.out; have y10 := ZZ37.out; have y11 := ZZ41.out; have y12 := ZZ45.out; have y13 := ZZ49.out; have y14 := ZZ54.out; have y15 := ZZ58.out; have y16 := ZZ63.out; omega)
  clear W0_58 G0_59
  clear B_61
  obtain rfl : m11 = m12 := by rw [HM_m12.out, HM_m11.out]
  clear HM_m12
  have hn_m12 : ¬ ((m11 : Nat) : Int) < 0 := by omega
  have q_65 : w12.cell? ⟨w.heap.size, 0, none⟩ = some (.slice a1 n1 cap1) := HD_62.out.cell (b := w.heap.size) (vs := [.slice a1 n1 cap1]) (i := 0) (by simp) (by simp)
  go_wp2_with fail
  refine (toPath_any 0 w.heap.size a1 n1 cap1 l1 _ (HR1.out.below HD_62.out.bel (Nat.le_refl _)) HD_62.out.bel.size HL1.out HM1.out.1 HM1.out.2.1).mono ?_
  rintro e w13 ⟨g13, rfl, X_64, B_66⟩
  clear q_65
  have HD_67 : Hid (Hold w w13 [(w5.heap.size, [.slice a5 n1 cap5]), (w4.heap.size, [.slice (some ⟨g4, 0, none⟩) n1 n1]), (w3.heap.size, [.slice a3 n1 cap3]), (w.heap.size, [.slice a1 n1 cap1])]) := HD_62.out.below B_66.out
  clear HD_62
  have ZZ68 : Hid (w12.heap.size ≤ w13.heap.size) := B_66.out.size
  have W0_68 : Hid (PathOwn w2.heap.size w3.heap.size w13 a3 LL) := W0_63.out.below B_66.out (by have y0 := ZZ2.out; have y1 := ZZ7.out; have y2 := ZZ12.out; have y3 := ZZ16.out; have y4 := ZZ17.out; have y5 := ZZ22.out; have y6 := ZZ26.out; have y7 := ZZ27.out; have y8 := ZZ32.out; have y9 := ZZ36.out; have y10 := ZZ37.out; have y11 := ZZ41.out; have y12 := ZZ45.out; have y13 := ZZ49.out; have y14 := ZZ54.out; have y15 := ZZ58.out; have y16 := ZZ63.out; have y17 := ZZ68.out; omega)
  have G0_68 : Hid (PathOwn (w4.alloc (.cells #[.slice (some ⟨g4, 0, none⟩) n1 n1] 36)).heap.size w5.heap.size w13 a5 (mkToP 1 LL n1)) := G0_63.out.below B_66.out (by have y0 := ZZ2.out; have y1 := ZZ7.out; have y2 := ZZ12.out; have y3 := ZZ16.out; have y4 := ZZ17.out; have y5 := ZZ22.out; have y6 := ZZ26.out; have y7 := ZZ27.out; have y8 := ZZ32.out; have y9 := ZZ36.out; have y10 := ZZ37.out; have y11 := ZZ41.out; have y12 := ZZ45.out; have y13 := ZZ49.out; have y14 := ZZ54.out; have y15 := ZZ58.out; have y16 := ZZ63.out; have y17 := ZZ68.out; omega)
  clear W0_63 G0_63
  clear B_66
  have T2_69 : Hid (PathOwn w12.heap.size w13.heap.size w13 (some ⟨g13, 0, none⟩) l1) := X_64.out
  clear X_64
  go_wp2_with fail
  refine (turnedPath_any w12.heap.size w13.heap.size (some ⟨g13, 0, none⟩) n1 n1 l1 _ T2_69.out.toIn (by have y0 := ZZ2.out; have y1 := ZZ7.out; have y2 := ZZ12.out; have y3 := ZZ16.out; have y4 := ZZ17.out; have y5 := ZZ22.out; have y6 := ZZ26.out; have y7 := ZZ27.out; have y8 := ZZ32.out; have y9 := ZZ36.out; have y10 := ZZ37.out; have y11 := ZZ41.out; have y12 := ZZ45.out; have y13 := ZZ49.out; have y14 := ZZ54.out; have y15 := ZZ58.out; have y16 := ZZ63.out; have y17 := ZZ68.out; omega) HL1.out HM1.out.1 HM1.out.2.1).mono ?_
  rintro e w14 ⟨a14, cap14, rfl, X_70, B_71⟩
  have HD_72 : Hid (Hold w w14 [(w5.heap.size, [.slice a5 n1 cap5]), (w4.heap.size, [.slice (some ⟨g4, 0, none⟩) n1 n1]), (w3.heap.size, [.slice a3 n1 cap3]), (w.heap.size, [.slice a1 n1 cap1])]) := HD_67.out.below B_71.out
  clear HD_67
  have ZZ73 : Hid (w13.heap.size ≤ w14.heap.size) := B_71.out.size
  have W0_73 : Hid (PathOwn w2.heap.size w3.heap.size w14 a3 LL) := W0_68.out.below B_71.out (by have y0 := ZZ2.out; have y1 := ZZ7.out; have y2 := ZZ12.out; have y3 := ZZ16.out; have y4 := ZZ17.out; have y5 := ZZ22.out; have y6 := ZZ26.out; have y7 := ZZ27.out; have y8 := ZZ32.out; have y9 := ZZ36.out; have y10 := ZZ37.out; have y11 := ZZ41.out; have y12 := ZZ45.out; have y13 := ZZ49.out; have y14 := ZZ54.out; have y15 := ZZ58.out; have y16 := ZZ63.out; have y17 := ZZ68.out; have y18 := ZZ73.out; omega)
  have G0_73 : Hid (PathOwn (w4.alloc (.cells #[.slice (some ⟨g4, 0, none⟩) n1 n1] 36)).heap.size w5.heap.size w14 a5 (mkToP 1 LL n1)) := G0_68.out.below B_71.out (by have y0 := ZZ2.out; have y1 := ZZ7.out; have y2 := ZZ12.out; have y3 := ZZ16.out; have y4 := ZZ17.out; have y5 := ZZ22.out; have y6 := ZZ26.out; have y7 := ZZ27.out; have y8 := ZZ32.out; have y9 := ZZ36.out; have y10 := ZZ37.out; have y11 := ZZ41.out; have y12 := ZZ45.out; have y13 := ZZ49.out; have y14 := ZZ54.out; have y15 := ZZ58.out; have y16 := ZZ63.out; have y17 := ZZ68.out; have y18 := ZZ73.out; omega)
  have T2_73 : Hid (PathOwn w12.heap.size w13.heap.size w14 (some ⟨g13, 0, none⟩) l1) := T2_69.out.below B_71.out (by have y0 := ZZ2.out; have y1 := ZZ7.out; have y2 := ZZ12.out; have y3 := ZZ16.out; have y4 := ZZ17.out; have y5 := ZZ22.out; have y6 := ZZ26.out; have y7 := ZZ27.out; have y8 := ZZ32.out; have y9 := ZZ36.out; have y10 := ZZ37.out; have y11 := ZZ41.out; have y12 := ZZ45.out; have y13 := ZZ49.out; have y14 := ZZ54.out; have y15 := ZZ58.out; have y16 := ZZ63.out; have y17 := ZZ68.out; have y18 := ZZ73.out; omega)
  clear W0_68 G0_68 T2_69
  clear B_71
  rw [← HLL.out] at X_70
  have H0_74 : Hid (PathOwn w13.heap.size w14.heap.size w14 a14 LL) := X_70.out
  clear X_70
  clear T2_73
  have BA_75 : Hid (Below w14.heap.size w14 (w14.alloc (.cells #[.slice a14 n1 cap14] 36))) := below1' w14 _
  have HD_76 : Hid (Hold w (w14.alloc (.cells #[.slice a14 n1 cap14] 36)) [(w14.heap.size, [.slice a14 n1 cap14]), (w5.heap.size, [.slice a5 n1 cap5]), (w4.heap.size, [.slice (some ⟨g4, 0, none⟩) n1 n1]), (w3.heap.size, [.slice a3 n1 cap3]), (w.heap.size, [.slice a1 n1 cap1])]) := HD_72.out.more [.slice a14 n1 cap14] 36
  clear HD_72
  have ZZ77 : Hid ((w14.alloc (.cells #[.slice a14 n1 cap14] 36)).heap.size = w14.heap.size + 1) := by show _ = _; simp
  have ZZ78 : Hid (w14.heap.size ≤ (w14.alloc (.cells #[.slice a14 n1 cap14] 36)).heap.size) := BA_75.out.size
  have W0_78 : Hid (PathOwn w2.heap.size w3.heap.size (w14.alloc (.cells #[.slice a14 n1 cap14] 36)) a3 LL) := W0_73.out.below BA_75.out (by have y0 := ZZ2.out; have y1 := ZZ7.out; have y2 := ZZ12.out; have y3 := ZZ16.out; have y4 := ZZ17.out; have y5 := ZZ22.out; have y6 := ZZ26.out; have y7 := ZZ27.out; have y8 := ZZ32.out; have y9 := ZZ36.out; have y10 := ZZ37.out; have y11 := ZZ41.out; have y12 := ZZ45.out; have y13 := ZZ49.out; have y14 := ZZ54.out; have y15 := ZZ58.out; have y16 := ZZ63.out; have y17 := ZZ68.out; have y18 := ZZ73.out; have y19 := ZZ77.out; have y20 := ZZ78.out; omega)
  have G0_78 : Hid (PathOwn (w4.alloc (.cells #[.slice (some ⟨g4, 0, none⟩) n1 n1] 36)).heap.size w5.heap.size (w14.alloc (.cells #[.slice a14 n1 cap14] 36)) a5 (mkToP 1 LL n1)) := G0_73.out.below BA_75.out (by have y0 := ZZ2.out; have y1 := ZZ7.out; have y2 := ZZ12.out; have y3 := ZZ16.out; have y4 := ZZ17.out; have y5 := ZZ22.out; have y6 := ZZ26.out; have y7 := ZZ27.out; have y8 := ZZ32.out; have y9 := ZZ36.out; have y10 := ZZ37.out; have y11 := ZZ41.out; have y12 := ZZ45.out; have y13 := ZZ49.out; have y14 := ZZ54.out; have y15 := ZZ58.out; have y16 := ZZ63.out; have y17 := ZZ68.out; have y18 := ZZ73.out; have y19 := ZZ77.out; have y20 := ZZ78.out; omega)
  have H0_78 : Hid (PathOwn w13.heap.size w14.heap.size (w14.alloc (.cells #[.slice a14 n1 cap14] 36)) a14 LL) := H0_74.out.below BA_75.out (by have y0 := ZZ2.out; have y1 := ZZ7.out; have y2 := ZZ12.out; have y3 := ZZ16.out; have y4 := ZZ17.out; have y5 := ZZ22.out; have y6 := ZZ26.out; have y7 := ZZ27.out; have y8 := ZZ32.out; have y9 := ZZ36.out; have y10 := ZZ37.out; have y11 := ZZ41.out; have y12 := ZZ45.out; have y13 := ZZ49.out; have y14 := ZZ54.out; have y15 := ZZ58.out; have y16 := ZZ63.out; have y17 := ZZ68.out; have y18 := ZZ73.out; have y19 := ZZ77.out; have y20 := ZZ78.out; omega)
  clear W0_73 G0_73 H0_74
  clear BA_75
  have q_79 : (w14.alloc (.cells #[.slice a14 n1 cap14] 36)).cell? ⟨w3.heap.size, 0, none⟩ = some (.slice a3 n1 cap3) := HD_76.out.cell (b := w3.heap.size) (vs := [.slice a3 n1 cap3]) (i := 0) (by simp) (by simp)
  go_wp2_with fail
  refine (eqPath_any w13.heap.size w14.heap.size w2.heap.size w3.heap.size a14 a3 n1 n1 cap14 cap3 LL LL true _ H0_78.out.toIn W0_78.out.toIn (by have y0 := ZZ2.out; have y1 := ZZ7.out; have y2 := ZZ12.out; have y3 := ZZ16.out; have y4 := ZZ17.out; have y5 := ZZ22.out; have y6 := ZZ26.out; have y7 := ZZ27.out; have y8 := ZZ32.out; have y9 := ZZ36.out; have y10 := ZZ37.out; have y11 := ZZ41.out; have y12 := ZZ45.out; have y13 := ZZ49.out; have y14 := ZZ54.out; have y15 := ZZ58.out; have y16 := ZZ63.out; have y17 := ZZ68.out; have y18 := ZZ73.out; have y19 := ZZ77.out; have y20 := ZZ78.out; omega) (by have y0 := ZZ2.out; have y1 := ZZ7.out; have y2 := ZZ12.out; have y3 := ZZ16.out; have y4 := ZZ17.out; have y5 := ZZ22.out; have y6 := ZZ26.out; have y7 := ZZ27.out; have y8 := ZZ32.out; have y9 := ZZ36.out; have y10 := ZZ37.out; have y11 := ZZ41.out; have y12 := ZZ45.out; have y13 := ZZ49.out; have y14 := ZZ54.out; have y15 := ZZ58.out; have y16 := ZZ63.out; have y17 := ZZ68.out; have y18 := ZZ73.out; have y19 := ZZ77.out; have y20 := ZZ78.out; omega) HLN.out HLN.out HM2.out.1 HM2.out.2.1 (by simp)).mono ?_
  rintro e w15 ⟨rfl, B_80⟩
  clear q_79
  have HD_81 : Hid (Hold w w15 [(w14.heap.size, [.slice a14 n1 cap14]), (w5.heap.size, [.slice a5 n1 cap5]), (w4.heap.size, [.slice (some ⟨g4, 0, none⟩) n1 n1]), (w3.heap.size, [.slice a3 n1 cap3]), (w.heap.size, [.slice a1 n1 cap1])]) := HD_76.out.below B_80.out
  clear HD_76
  have ZZ82 : Hid ((w14.alloc (.cells #[.slice a14 n1 cap14] 36)).heap.size ≤ w15.heap.size) := B_80.out.size
  have W0_82 : Hid (PathOwn w2.heap.size w3.heap.size w15 a3 LL) := W0_78.out.below B_80.out (by have y0 := ZZ2.out; have y1 := ZZ7.out; have y2 := ZZ12.out; have y3 := ZZ16.out; have y4 := ZZ17.out; have y5 := ZZ22.out; have y6 := ZZ26.out; have y7 := ZZ27.out; have y8 := ZZ32.out; have y9 := ZZ36.out; have y10 := ZZ37.out; have y11 := ZZ41.out; have y12 := ZZ45.out; have y13 := ZZ49.out; have y14 := ZZ54.out; have y15 := ZZ58.out; have y16 := ZZ63.out; have y17 := ZZ68.out; have y18 := ZZ73.out; have y19 := ZZ77.out; have y20 := ZZ78.out; have y21 := ZZ82.out; omega)
  have G0_82 : Hid (PathOwn (w4.alloc (.cells #[.slice (some ⟨g4, 0, none⟩) n1 n1] 36)).heap.size w5.heap.size w15 a5 (mkToP 1 LL n1)) := G0_78.out.below B_80.out (by have y0 := ZZ2.out; have y1 := ZZ7.out; have y2 := ZZ12.out; have y3 := ZZ16.out; have y4 := ZZ17.out; have y5 := ZZ22.out; have y6 := ZZ26.out; have y7 := ZZ27.out; have y8 := ZZ32.out; have y9 := ZZ36.out; have y10 := ZZ37.out; have y11 := ZZ41.out; have y12 := ZZ45.out; have y13 := ZZ49.out; have y14 := ZZ54.out; have y15 := ZZ58.out; have y16 := ZZ63.out; have y17 := ZZ68.out; have y18 := ZZ73.out; have y19 := ZZ77.out; have y20 := ZZ78.out; have y21 := ZZ82.out; omega)
  have H0_82 : Hid (PathOwn w13.heap.size w14.heap.size w15 a14 LL) := H0_78.out.below B_80.out (by have y0 := ZZ2.out; have y1 := ZZ7.out; have y2 := ZZ12.out; have y3 := ZZ16.out; have y4 := ZZ17.out; have y5 := ZZ22.out; have y6 := ZZ26.out; have y7 := ZZ27.out; have y8 := ZZ32.out; have y9 := ZZ36.out; have y10 := ZZ37.out; have y11 := ZZ41.out; have y12 := ZZ45.out; have y13 := ZZ49.out; have y14 := ZZ54.out; have y15 := ZZ58.out; have y16 := ZZ63.out; have y17 := ZZ68.out; have y18 := ZZ73.out; have y19 := ZZ77.out; have y20 := ZZ78.out; have y21 := ZZ82.out; omega)
  clear W0_78 G0_78 H0_78
  clear B_80
  have q_83 : w15.cell? ⟨w5.heap.size, 0, none⟩ = some (.slice a5 n1 cap5) := HD_81.out.cell (b := w5.heap.size) (vs := [.slice a5 n1 cap5]) (i := 0) (by simp) (by simp)
  go_wp2_with fail
  refine (heldPath_any (w4.alloc (.cells #[.slice (some ⟨g4, 0, none⟩) n1 n1] 36)).heap.size w5.heap.size a5 n1 cap5 1 LL _ G0_82.out.toIn (by have y0 := ZZ2.out; have y1 := ZZ7.out; have y2 := ZZ12.out; have y3 := ZZ16.out; have y4 := ZZ17.out; have y5 := ZZ22.out; have y6 := ZZ26.out; have y7 := ZZ27.out; have y8 := ZZ32.out; have y9 := ZZ36.out; have y10 := ZZ37.out; have y11 := ZZ41.out; have y12 := ZZ45.out; have y13 := ZZ49.out; have y14 := ZZ54.out; have y15 := ZZ58.out; have y16 := ZZ63.out; have y17 := ZZ68.out; have y18 := ZZ73.out; have y19 := ZZ77.out; have y20 := ZZ78.out; have y21 := ZZ82.out; omega) HLN.out HM2.out.1 HM2.out.2.2 (by omega)).mono ?_
  rintro e w16 ⟨m16, rfl, HM_m16, B_84⟩
  clear q_83
  have HD_85 : Hid (Hold w w16 [(w14.heap.size, [.slice a14 n1 cap14]), (w5.heap.size, [.slice a5 n1 cap5]), (w4.heap.size, [.slice (some ⟨g4, 0, none⟩) n1 n1]), (w3.heap.size, [.slice a3 n1 cap3]), (w.heap.size, [.slice a1 n1 cap1])]) := HD_81.out.below B_84.out
  clear HD_81
  have ZZ86 : Hid (w15.heap.size ≤ w16.heap.size) := B_84.out.size
  have W0_86 : Hid (PathOwn w2.heap.size w3.heap.size w16 a3 LL) := W0_82.out.below B_84.out (by have y0 := ZZ2.out; have y1 := ZZ7.out; have y2 := ZZ12.out; have y3 := ZZ16.out; have y4 := ZZ17.out; have y5 := ZZ22.out; have y6 := ZZ26.out; have y7 := ZZ27.out; have y8 := ZZ32.out; have y9 := ZZ36.out; have y10 := ZZ37.out; have y11 := ZZ41.out; have y12 := ZZ45.out; have y13 := ZZ49.out; have y14 := ZZ54.out; have y15 := ZZ58.out; have y16 := ZZ63.out; have y17 := ZZ68.out; have y18 := ZZ73.out; have y19 := ZZ77.out; have y20 := ZZ78.out; have y21 := ZZ82.out; have y22 := ZZ86.out; omega)
  have G0_86 : Hid (PathOwn (w4.alloc (.cells #[.slice (some ⟨g4, 0, none⟩) n1 n1] 36)).heap.size w5.heap.size w16 a5 (mkToP 1 LL n1)) := G0_82.out.below B_84.out (by have y0 := ZZ2.out; have y1 := ZZ7.out; have y2 := ZZ12.out; have y3 := ZZ16.out; have y4 := ZZ17.out; have y5 := ZZ22.out; have y6 := ZZ26.out; have y7 := ZZ27.out; have y8 := ZZ32.out; have y9 := ZZ36.out; have y10 := ZZ37.out; have y11 := ZZ41.out; have y12 := ZZ45.out; have y13 := ZZ49.out; have y14 := ZZ54.out; have y15 := ZZ58.out; have y16 := ZZ63.out; have y17 := ZZ68.out; have y18 := ZZ73.out; have y19 := ZZ77.out; have y20 := ZZ78.out; have y21 := ZZ82.out; have y22 := ZZ86.out; omega)
  have H0_86 : Hid (PathOwn w13.heap.size w14.heap.size w16 a14 LL) := H0_82.out.below B_84.out (by have y0 := ZZ2.out; have y1 := ZZ7.out; have y2 := ZZ12.out; have y3 := ZZ16.out; have y4 := ZZ17.out; have y5 := ZZ22.out; have y6 := ZZ26.out; have y7 := ZZ27.out; have y8 := ZZ32.out; have y9 := ZZ36.out; have y10 := ZZ37.out; have y11 := ZZ41.out; have y12 := ZZ45.out; have y13 := ZZ49.out; have y14 := ZZ54.out; have y15 := ZZ58.out; have y16 := ZZ63.out; have y17 := ZZ68.out; have y18 := ZZ73.out; have y19 := ZZ77.out; have y20 := ZZ78.out; have y21 := ZZ82.out; have y22 := ZZ86.out; omega)
  clear W0_82 G0_82 H0_82
  clear B_84
  obtain rfl : m11 = m16 := by rw [HM_m16.out, HM_m11.out]
  clear HM_m16
  have hn_m16 : ¬ ((m11 : Nat) : Int) < 0 := by omega
  go_wp2
  go_ret
  exact ⟨rfl, HD_85.out.bel⟩
end Go.Proofs.Yteepbmgdjghfjaa
