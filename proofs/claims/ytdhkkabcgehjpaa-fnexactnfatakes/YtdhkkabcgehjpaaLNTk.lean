/-
  The walk of FnExactNfaTakes.
-/
import Derived.Test.YtdhkkabcgehjpaaNfC
import Derived.Test.YtdhkkabcgehjpaaNtI
import Derived.Test.YtdhkkabcgehjpaaNtS
import Derived.Test.YtdhkkabcgehjpaaHld
import Derived.Deep.RegionHeld3
namespace Go.Proofs.Ytdhkkabcgehjpaa
open Go.RowKit

set_option maxHeartbeats 16000000 in
set_option maxRecDepth 100000 in
theorem law_3 (s1 : Int) (a1 : Option Addr) (n1 cap1 : Nat) (l1 : List Ed) (b1 : Option Addr) (m1 mc1 : Nat) (e1 : List Bool) (s2 : ByteArray) (w : World) (hm1 : n1 ≤ maxLen) (hl1 : l1.length = n1) (hk1 : m1 ≤ maxLen) (hj1 : e1.length = m1) (hr1 : NfaIn 0 w.heap.size w a1 b1 l1 e1) (hs2 : s2.size ≤ maxLen) :
    Calls Try.prog 3 #[nv s1 a1 n1 cap1 b1 m1 mc1, .string s2] w fun e w' => e = .returned (.bool true) ∧ Below w.heap.size w w' := by
  have HR1 : Hid (NfaIn 0 w.heap.size w a1 b1 l1 e1) := hr1
  have HL1 : Hid (l1.length = n1) := hl1
  have HJ1 : Hid (e1.length = m1) := hj1
  have HMX1 : Hid (n1 ≤ 9223372036854775807 ∧ m1 ≤ 9223372036854775807) := by unfold maxLen at hm1 hk1; show _ ∧ _; omega
  clear hr1 hl1 hm1 hk1 hj1
  unfold maxLen at hs2
  by_cases hbig : s2.size ≤ 1048576
  · have hgt : ¬ (s2.size : Int) > 1048576 := by omega
    have hgt2 : ¬ (1048576 : Int) < (s2.size : Int) := by omega
    obtain ⟨sn, HSN⟩ : ∃ sn, Hid (s2.size = sn) := ⟨_, rfl⟩
    obtain ⟨r, HRR⟩ : ∃ r : Bool, Hid (r = takesN s1 l1 m1 e1 s2 sn) := ⟨_, rfl⟩
    clear hs2 hbig
    go_enter Try.func3, Try.ntmps3
    go_wp2_with fail
    refine (szNfa_any s1 a1 b1 n1 cap1 m1 mc1 1048576 _ HMX1.out.1 HMX1.out.2 (by omega)).mono ?_
    rintro e w1 ⟨x, rfl, HX1, hb1⟩
    have HD_1 : Hid (Hold w w1 [(w.heap.size, [.int .i64 s1, .slice a1 n1 cap1, .slice b1 m1 mc1])]) := ((Hold.none w).more [.int .i64 s1, .slice a1 n1 cap1, .slice b1 m1 mc1] 25).below hb1.out
    clear hb1
    by_cases hx : x < 0
    · go_wp2
      go_ret
      exact ⟨rfl, HD_1.out.bel⟩
    have HM1 : Hid (n1 ≤ 1048576 ∧ m1 ≤ 1048576) := by
      rcases HX1.out with h | h
      · omega
      · show _ ∧ _; omega
    clear HX1 HMX1
    have ZZ2 : Hid (w.heap.size < w1.heap.size) := HD_1.out.lt (vs := [.int .i64 s1, .slice a1 n1 cap1, .slice b1 m1 mc1]) (by simp)
    have q_4 : w1.cell? ⟨w.heap.size, 0, none⟩ = some (.int .i64 s1) := HD_1.out.cell (b := w.heap.size) (vs := [.int .i64 s1, .slice a1 n1 cap1, .slice b1 m1 mc1]) (i := 0) (by simp) (by simp)
    have q_5 : w1.cell? ⟨w.heap.size, 1, none⟩ = some (.slice a1 n1 cap1) := HD_1.out.cell (b := w.heap.size) (vs := [.int .i64 s1, .slice a1 n1 cap1, .slice b1 m1 mc1]) (i := 1) (by simp) (by simp)
    have q_6 : w1.cell? ⟨w.heap.size, 2, none⟩ = some (.slice b1 m1 mc1) := HD_1.out.cell (b := w.heap.size) (vs := [.int .i64 s1, .slice a1 n1 cap1, .slice b1 m1 mc1]) (i := 2) (by simp) (by simp)
    go_wp2_with fail
    refine (toNfa_any 0 w.heap.size s1 a1 b1 n1 cap1 m1 mc1 l1 e1 _ (HR1.out.below HD_1.out.bel (Nat.le_refl _)) HD_1.out.bel.size HL1.out HJ1.out HM1.out.1 HM1.out.2).mono ?_
    rintro e w2 ⟨g2, j2, rfl, X_3, B_7⟩
    clear q_4 q_5 q_6
    have HD_8 : Hid (Hold w w2 [(w.heap.size, [.int .i64 s1, .slice a1 n1 cap1, .slice b1 m1 mc1])]) := HD_1.out.below B_7.out
    clear HD_1
    have ZZ9 : Hid (w1.heap.size ≤ w2.heap.size) := B_7.out.size
    clear B_7
    have T1_10 : Hid (NfaOwn w1.heap.size w2.heap.size w2 (some ⟨g2, 0, none⟩) (some ⟨j2, 0, none⟩) l1 e1) := X_3.out
    clear X_3
    go_wp2_with fail
    refine (specTakesN_any w1.heap.size w2.heap.size s1 (some ⟨g2, 0, none⟩) n1 n1 l1 (some ⟨j2, 0, none⟩) m1 m1 e1 s2 sn r _ T1_10.out.toIn.1 T1_10.out.toIn.2 (by have y0 := ZZ2.out; have y1 := ZZ9.out; omega) HL1.out HJ1.out HM1.out.1 HSN.out HRR.out).mono ?_
    rintro e w3 ⟨rfl, B_11⟩
    have HD_12 : Hid (Hold w w3 [(w.heap.size, [.int .i64 s1, .slice a1 n1 cap1, .slice b1 m1 mc1])]) := HD_8.out.below B_11.out
    clear HD_8
    have ZZ13 : Hid (w2.heap.size ≤ w3.heap.size) := B_11.out.size
    have T1_13 : Hid (NfaOwn w1.heap.size w2.heap.size w3 (some ⟨g2, 0, none⟩) (some ⟨j2, 0, none⟩) l1 e1) := T1_10.out.below B_11.out (by have y0 := ZZ2.out; have y1 := ZZ9.out; have y2 := ZZ13.out; omega)
    clear T1_10
    clear B_11
    clear T1_13
    have q_15 : w3.cell? ⟨w.heap.size, 0, none⟩ = some (.int .i64 s1) := HD_12.out.cell (b := w.heap.size) (vs := [.int .i64 s1, .slice a1 n1 cap1, .slice b1 m1 mc1]) (i := 0) (by simp) (by simp)
    have q_16 : w3.cell? ⟨w.heap.size, 1, none⟩ = some (.slice a1 n1 cap1) := HD_12.out.cell (b := w.heap.size) (vs := [.int .i64 s1, .slice a1 n1 cap1, .slice b1 m1 mc1]) (i := 1) (by simp) (by simp)
    have q_17 : w3.cell? ⟨w.heap.size, 2, none⟩ = some (.slice b1 m1 mc1) := HD_12.out.cell (b := w.heap.size) (vs := [.int .i64 s1, .slice a1 n1 cap1, .slice b1 m1 mc1]) (i := 2) (by simp) (by simp)
    go_wp2_with fail
    refine (toNfa_any 0 w.heap.size s1 a1 b1 n1 cap1 m1 mc1 l1 e1 _ (HR1.out.below HD_12.out.bel (Nat.le_refl _)) HD_12.out.bel.size HL1.out HJ1.out HM1.out.1 HM1.out.2).mono ?_
    rintro e w4 ⟨g4, j4, rfl, X_14, B_18⟩
    clear q_15 q_16 q_17
    have HD_19 : Hid (Hold w w4 [(w.heap.size, [.int .i64 s1, .slice a1 n1 cap1, .slice b1 m1 mc1])]) := HD_12.out.below B_18.out
    clear HD_12
    have ZZ20 : Hid (w3.heap.size ≤ w4.heap.size) := B_18.out.size
    clear B_18
    have X0_21 : Hid (NfaOwn w3.heap.size w4.heap.size w4 (some ⟨g4, 0, none⟩) (some ⟨j4, 0, none⟩) l1 e1) := X_14.out
    clear X_14
    have BA_22 : Hid (Below w4.heap.size w4 (w4.alloc (.cells #[.int .i64 s1, .slice (some ⟨g4, 0, none⟩) n1 n1, .slice (some ⟨j4, 0, none⟩) m1 m1] 30))) := below1' w4 _
    have HD_23 : Hid (Hold w (w4.alloc (.cells #[.int .i64 s1, .slice (some ⟨g4, 0, none⟩) n1 n1, .slice (some ⟨j4, 0, none⟩) m1 m1] 30)) [(w4.heap.size, [.int .i64 s1, .slice (some ⟨g4, 0, none⟩) n1 n1, .slice (some ⟨j4, 0, none⟩) m1 m1]), (w.heap.size, [.int .i64 s1, .slice a1 n1 cap1, .slice b1 m1 mc1])]) := HD_19.out.more [.int .i64 s1, .slice (some ⟨g4, 0, none⟩) n1 n1, .slice (some ⟨j4, 0, none⟩) m1 m1] 30
    clear HD_19
    have ZZ24 : Hid ((w4.alloc (.cells #[.int .i64 s1, .slice (some ⟨g4, 0, none⟩) n1 n1, .slice (some ⟨j4, 0, none⟩) m1 m1] 30)).heap.size = w4.heap.size + 1) := by show _ = _; simp
    have ZZ25 : Hid (w4.heap.size ≤ (w4.alloc (.cells #[.int .i64 s1, .slice (some ⟨g4, 0, none⟩) n1 n1, .slice (some ⟨j4, 0, none⟩) m1 m1] 30)).heap.size) := BA_22.out.size
    have X0_25 : Hid (NfaOwn w3.heap.size w4.heap.size (w4.alloc (.cells #[.int .i64 s1, .slice (some ⟨g4, 0, none⟩) n1 n1, .slice (some ⟨j4, 0, none⟩) m1 m1] 30)) (some ⟨g4, 0, none⟩) (some ⟨j4, 0, none⟩) l1 e1) := X0_21.out.below BA_22.out (by have y0 := ZZ2.out; have y1 := ZZ9.out; have y2 := ZZ13.out; have y3 := ZZ20.out; have y4 := ZZ24.out; have y5 := ZZ25.out; omega)
    clear X0_21
    clear BA_22
    have q_26 : (w4.alloc (.cells #[.int .i64 s1, .slice (some ⟨g4, 0, none⟩) n1 n1, .slice (some ⟨j4, 0, none⟩) m1 m1] 30)).cell? ⟨w4.heap.size, 0, none⟩ = some (.int .i64 s1) := HD_23.out.cell (b := w4.heap.size) (vs := [.int .i64 s1, .slice (some ⟨g4, 0, none⟩) n1 n1, .slice (some ⟨j4, 0, none⟩) m1 m1]) (i := 0) (by simp) (by simp)
    have q_27 : (w4.alloc (.cells #[.int .i64 s1, .slice (some ⟨g4, 0, none⟩) n1 n1, .slice (some ⟨j4, 0, none⟩) m1 m1] 30)).cell? ⟨w4.heap.size, 1, none⟩ = some (.slice (some ⟨g4, 0, none⟩) n1 n1) := HD_23.out.cell (b := w4.heap.size) (vs := [.int .i64 s1, .slice (some ⟨g4, 0, none⟩) n1 n1, .slice (some ⟨j4, 0, none⟩) m1 m1]) (i := 1) (by simp) (by simp)
    have q_28 : (w4.alloc (.cells #[.int .i64 s1, .slice (some ⟨g4, 0, none⟩) n1 n1, .slice (some ⟨j4, 0, none⟩) m1 m1] 30)).cell? ⟨w4.heap.size, 2, none⟩ = some (.slice (some ⟨j4, 0, none⟩) m1 m1) := HD_23.out.cell (b := w4.heap.size) (vs := [.int .i64 s1, .slice (some ⟨g4, 0, none⟩) n1 n1, .slice (some ⟨j4, 0, none⟩) m1 m1]) (i := 2) (by simp) (by simp)
    go_wp2_with fail
    refine (nfaTakes_any w3.heap.size w4.heap.size s1 (some ⟨g4, 0, none⟩) n1 n1 l1 (some ⟨j4, 0, none⟩) m1 m1 e1 s2 sn r _ X0_25.out.toIn.1 X0_25.out.toIn.2 (by have y0 := ZZ2.out; have y1 := ZZ9.out; have y2 := ZZ13.out; have y3 := ZZ20.out; have y4 := ZZ24.out; have y5 := ZZ25.out; omega) HL1.out HJ1.out HM1.out.1 HSN.out HRR.out).mono ?_
    rintro e w5 ⟨rfl, B_29⟩
    clear q_26 q_27 q_28
    have HD_30 : Hid (Hold w w5 [(w4.heap.size, [.int .i64 s1, .slice (some ⟨g4, 0, none⟩) n1 n1, .slice (some ⟨j4, 0, none⟩) m1 m1]), (w.heap.size, [.int .i64 s1, .slice a1 n1 cap1, .slice b1 m1 mc1])]) := HD_23.out.below B_29.out
    clear HD_23
    have ZZ31 : Hid ((w4.alloc (.cells #[.int .i64 s1, .slice (some ⟨g4, 0, none⟩) n1 n1, .slice (some ⟨j4, 0, none⟩) m1 m1] 30)).heap.size ≤ w5.heap.size) := B_29.out.size
    have X0_31 : Hid (NfaOwn w3.heap.size w4.heap.size w5 (some ⟨g4, 0, none⟩) (some ⟨j4, 0, none⟩) l1 e1) := X0_25.out.below B_29.out (by have y0 := ZZ2.out; have y1 := ZZ9.out; have y2 := ZZ13.out; have y3 := ZZ20.out; have y4 := ZZ24.out; have y5 := ZZ25.out; have y6 := ZZ31.out; omega)
    clear X0_25
    clear B_29
    have q_32 : w5.cell? ⟨w4.heap.size, 0, none⟩ = some (.int .i64 s1) := HD_30.out.cell (b := w4.heap.size) (vs := [.int .i64 s1, .slice (some ⟨g4, 0, none⟩) n1 n1, .slice (some ⟨j4, 0, none⟩) m1 m1]) (i := 0) (by simp) (by simp)
    have q_33 : w5.cell? ⟨w4.heap.size, 1, none⟩ = some (.slice (some ⟨g4, 0, none⟩) n1 n1) := HD_30.out.cell (b := w4.heap.size) (vs := [.int .i64 s1, .slice (some ⟨g4, 0, none⟩) n1 n1, .slice (some ⟨j4, 0, none⟩) m1 m1]) (i := 1) (by simp) (by simp)
    have q_34 : w5.cell? ⟨w4.heap.size, 2, none⟩ = some (.slice (some ⟨j4, 0, none⟩) m1 m1) := HD_30.out.cell (b := w4.heap.size) (vs := [.int .i64 s1, .slice (some ⟨g4, 0, none⟩) n1 n1, .slice (some ⟨j4, 0, none⟩) m1 m1]) (i := 2) (by simp) (by simp)
    have q_35 : w5.cell? ⟨w.heap.size, 0, none⟩ = some (.int .i64 s1) := HD_30.out.cell (b := w.heap.size) (vs := [.int .i64 s1, .slice a1 n1 cap1, .slice b1 m1 mc1]) (i := 0) (by simp) (by simp)
    have q_36 : w5.cell? ⟨w.heap.size, 1, none⟩ = some (.slice a1 n1 cap1) := HD_30.out.cell (b := w.heap.size) (vs := [.int .i64 s1, .slice a1 n1 cap1, .slice b1 m1 mc1]) (i := 1) (by simp) (by simp)
    have q_37 : w5.cell? ⟨w.heap.size, 2, none⟩ = some (.slice b1 m1 mc1) := HD_30.out.cell (b := w.heap.size) (vs := [.int .i64 s1, .slice a1 n1 cap1, .slice b1 m1 mc1]) (i := 2) (by simp) (by simp)
    have HC1 : Hid (∀ w0, Below w5.heap.size w5 w0 → Calls Try.prog 9 #[nv s1 a1 n1 cap1 b1 m1 mc1] w0 fun e w' => ∃ g g2 : Nat, e = .returned (.agg #[.int .i64 s1, .slice (some ⟨g, 0, none⟩) n1 n1, .slice (some ⟨g2, 0, none⟩) m1 m1]) ∧ Hid (NfaIn w5.heap.size w'.heap.size w' (some ⟨g, 0, none⟩) (some ⟨g2, 0, none⟩) l1 e1) ∧ Hid (Below w5.heap.size w5 w') ∧ (w'.cell? ⟨w4.heap.size, 0, none⟩ = some (.int .i64 s1) ∧ w'.cell? ⟨w4.heap.size, 1, none⟩ = some (.slice (some ⟨g4, 0, none⟩) n1 n1) ∧ w'.cell? ⟨w4.heap.size, 2, none⟩ = some (.slice (some ⟨j4, 0, none⟩) m1 m1) ∧ w'.cell? ⟨w.heap.size, 0, none⟩ = some (.int .i64 s1) ∧ w'.cell? ⟨w.heap.size, 1, none⟩ = some (.slice a1 n1 cap1) ∧ w'.cell? ⟨w.heap.size, 2, none⟩ = some (.slice b1 m1 mc1))) := fun w0 h =>
      (toNfa_any 0 w.heap.size s1 a1 b1 n1 cap1 m1 mc1 l1 e1 w0 (HR1.out.below (HD_30.out.below h).bel (Nat.le_refl _)) (HD_30.out.below h).bel.size HL1.out HJ1.out HM1.out.1 HM1.out.2).mono fun _ w' ⟨g, g2, h1, h2, h4⟩ =>
        have h3 : Hid (Hold w w' [(w4.heap.size, [.int .i64 s1, .slice (some ⟨g4, 0, none⟩) n1 n1, .slice (some ⟨j4, 0, none⟩) m1 m1]), (w.heap.size, [.int .i64 s1, .slice a1 n1 cap1, .slice b1 m1 mc1])]) := (HD_30.out.below h).below h4.out
        ⟨g, g2, h1, h2.out.toIn.wide h.size (Nat.le_refl _), h.trans (h4.out.mono h.size), h3.out.cell (b := w4.heap.size) (vs := [.int .i64 s1, .slice (some ⟨g4, 0, none⟩) n1 n1, .slice (some ⟨j4, 0, none⟩) m1 m1]) (i := 0) (by simp) (by simp), h3.out.cell (b := w4.heap.size) (vs := [.int .i64 s1, .slice (some ⟨g4, 0, none⟩) n1 n1, .slice (some ⟨j4, 0, none⟩) m1 m1]) (i := 1) (by simp) (by simp), h3.out.cell (b := w4.heap.size) (vs := [.int .i64 s1, .slice (some ⟨g4, 0, none⟩) n1 n1, .slice (some ⟨j4, 0, none⟩) m1 m1]) (i := 2) (by simp) (by simp), h3.out.cell (b := w.heap.size) (vs := [.int .i64 s1, .slice a1 n1 cap1, .slice b1 m1 mc1]) (i := 0) (by simp) (by simp), h3.out.cell (b := w.heap.size) (vs := [.int .i64 s1, .slice a1 n1 cap1, .slice b1 m1 mc1]) (i := 1) (by simp) (by simp), h3.out.cell (b := w.heap.size) (vs := [.int .i64 s1, .slice a1 n1 cap1, .slice b1 m1 mc1]) (i := 2) (by simp) (by simp)⟩
    have HC2 : Hid (∀ (g g2 : Nat) w0, Below w5.heap.size w5 w0 → NfaIn w5.heap.size w0.heap.size w0 (some ⟨g, 0, none⟩) (some ⟨g2, 0, none⟩) l1 e1 → Calls Try.prog 11 #[.agg #[.int .i64 s1, .slice (some ⟨g4, 0, none⟩) n1 n1, .slice (some ⟨j4, 0, none⟩) m1 m1], .agg #[.int .i64 s1, .slice (some ⟨g, 0, none⟩) n1 n1, .slice (some ⟨g2, 0, none⟩) m1 m1]] w0 fun e w' => e = .returned (.bool true) ∧ Hid (Below w5.heap.size w5 w') ∧ (w'.cell? ⟨w4.heap.size, 0, none⟩ = some (.int .i64 s1) ∧ w'.cell? ⟨w4.heap.size, 1, none⟩ = some (.slice (some ⟨g4, 0, none⟩) n1 n1) ∧ w'.cell? ⟨w4.heap.size, 2, none⟩ = some (.slice (some ⟨j4, 0, none⟩) m1 m1) ∧ w'.cell? ⟨w.heap.size, 0, none⟩ = some (.int .i64 s1) ∧ w'.cell? ⟨w.heap.size, 1, none⟩ = some (.slice a1 n1 cap1) ∧ w'.cell? ⟨w.heap.size, 2, none⟩ = some (.slice b1 m1 mc1))) := fun g g2 w0 h hx =>
      (eqNfa_any w3.heap.size w4.heap.size w5.heap.size w0.heap.size s1 s1 (some ⟨g4, 0, none⟩) (some ⟨g, 0, none⟩) (some ⟨j4, 0, none⟩) (some ⟨g2, 0, none⟩) n1 n1 n1 n1 m1 m1 m1 m1 l1 l1 e1 e1 true w0 (X0_31.out.below h (by have y0 := ZZ2.out; have y1 := ZZ9.out; have y2 := ZZ13.out; have y3 := ZZ20.out; have y4 := ZZ24.out; have y5 := ZZ25.out; have y6 := ZZ31.out; omega)).toIn hx (by have yy := h.size; have y0 := ZZ2.out; have y1 := ZZ9.out; have y2 := ZZ13.out; have y3 := ZZ20.out; have y4 := ZZ24.out; have y5 := ZZ25.out; have y6 := ZZ31.out; omega) (Nat.le_refl _) HL1.out HL1.out HM1.out.1 HJ1.out HJ1.out HM1.out.2 (by simp)).mono fun _ w' ⟨h1, h4⟩ =>
        have h3 : Hid (Hold w w' [(w4.heap.size, [.int .i64 s1, .slice (some ⟨g4, 0, none⟩) n1 n1, .slice (some ⟨j4, 0, none⟩) m1 m1]), (w.heap.size, [.int .i64 s1, .slice a1 n1 cap1, .slice b1 m1 mc1])]) := (HD_30.out.below h).below h4.out
        ⟨h1, h.trans (h4.out.mono h.size), h3.out.cell (b := w4.heap.size) (vs := [.int .i64 s1, .slice (some ⟨g4, 0, none⟩) n1 n1, .slice (some ⟨j4, 0, none⟩) m1 m1]) (i := 0) (by simp) (by simp), h3.out.cell (b := w4.heap.size) (vs := [.int .i64 s1, .slice (some ⟨g4, 0, none⟩) n1 n1, .slice (some ⟨j4, 0, none⟩) m1 m1]) (i := 1) (by simp) (by simp), h3.out.cell (b := w4.heap.size) (vs := [.int .i64 s1, .slice (some ⟨g4, 0, none⟩) n1 n1, .slice (some ⟨j4, 0, none⟩) m1 m1]) (i := 2) (by simp) (by simp), h3.out.cell (b := w.heap.size) (vs := [.int .i64 s1, .slice a1 n1 cap1, .slice b1 m1 mc1]) (i := 0) (by simp) (by simp), h3.out.cell (b := w.heap.size) (vs := [.int .i64 s1, .slice a1 n1 cap1, .slice b1 m1 mc1]) (i := 1) (by simp) (by simp), h3.out.cell (b := w.heap.size) (vs := [.int .i64 s1, .slice a1 n1 cap1, .slice b1 m1 mc1]) (i := 2) (by simp) (by simp)⟩
    go_wp2_with fail
    go_region_held3 (fun w' => w'.cell? ⟨w4.heap.size, 0, none⟩ = some (.int .i64 s1) ∧ w'.cell? ⟨w4.heap.size, 1, none⟩ = some (.slice (some ⟨g4, 0, none⟩) n1 n1) ∧ w'.cell? ⟨w4.heap.size, 2, none⟩ = some (.slice (some ⟨j4, 0, none⟩) m1 m1) ∧ w'.cell? ⟨w.heap.size, 0, none⟩ = some (.int .i64 s1) ∧ w'.cell? ⟨w.heap.size, 1, none⟩ = some (.slice a1 n1 cap1) ∧ w'.cell? ⟨w.heap.size, 2, none⟩ = some (.slice b1 m1 mc1)) (first | exact ⟨q_32, q_33, q_34, q_35, q_36, q_37⟩ | exact hk9 | exact hk10) (first | (go_at_call 9; refine (HC1.out _ ((Below.refl _ _).drew)).mono ?_; rintro e w6 ⟨g9, g8, rfl, X9, B9, hk9⟩) | (go_at_call 11; refine (HC2.out _ _ _ B9.out X9.out).mono ?_; rintro e w7 ⟨rfl, B10, hk10⟩))
    clear q_32 q_33 q_34 q_35 q_36 q_37
    clear hk9 hk10 B9 X9 HC1 HC2
    have HD_38 : Hid (Hold w w7 [(w4.heap.size, [.int .i64 s1, .slice (some ⟨g4, 0, none⟩) n1 n1, .slice (some ⟨j4, 0, none⟩) m1 m1]), (w.heap.size, [.int .i64 s1, .slice a1 n1 cap1, .slice b1 m1 mc1])]) := HD_30.out.below B10.out
    clear HD_30
    have ZZ39 : Hid (w5.heap.size ≤ w7.heap.size) := B10.out.size
    have X0_39 : Hid (NfaOwn w3.heap.size w4.heap.size w7 (some ⟨g4, 0, none⟩) (some ⟨j4, 0, none⟩) l1 e1) := X0_31.out.below B10.out (by have y0 := ZZ2.out; have y1 := ZZ9.out; have y2 := ZZ13.out; have y3 := ZZ20.out; have y4 := ZZ24.out; have y5 := ZZ25.out; have y6 := ZZ31.out; have y7 := ZZ39.out; omega)
    clear X0_31
    clear B10
    go_wp2
    go_ret
    exact ⟨rfl, HD_38.out.bel⟩
  · have hgt : (s2.size : Int) > 1048576 := by omega
    have hgt2 : (1048576 : Int) < (s2.size : Int) := by omega
    go_enter Try.func3, Try.ntmps3
    go_wp2
    go_ret
    exact ⟨rfl, below1 w _⟩
end Go.Proofs.Ytdhkkabcgehjpaa
