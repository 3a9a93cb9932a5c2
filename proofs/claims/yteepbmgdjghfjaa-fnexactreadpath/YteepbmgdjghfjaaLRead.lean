/-
  The walk of FnExactReadPath.
-/
import Derived.Test.YteepbmgdjghfjaaRpE
import Derived.Test.YteepbmgdjghfjaaSqE
import Derived.Test.YteepbmgdjghfjaaPtC
import Derived.Test.YteepbmgdjghfjaaHld
namespace Go.Proofs.Yteepbmgdjghfjaa
open Go.RowKit

set_option maxHeartbeats 16000000 in
set_option maxRecDepth 100000 in
theorem law_7 (s0 : ByteArray) (w : World) (hs0 : s0.size ≤ maxLen) :
    Calls Try.prog 7 #[.string s0] w fun e w' => e = .returned (.bool true) ∧ Below w.heap.size w w' := by
  unfold maxLen at hs0
  by_cases hs : s0.size ≤ 1048576
  · have hgt : ¬ (s0.size : Int) > 1048576 := by omega
    have hgt2 : ¬ (1048576 : Int) < (s0.size : Int) := by omega
    obtain ⟨LL, HLL⟩ : ∃ LL, Hid (LL = (readP s0).getD []) := ⟨_, rfl⟩
    obtain ⟨OK, HOK⟩ : ∃ OK, Hid (OK = (readP s0).isSome) := ⟨_, rfl⟩
    obtain ⟨n, HN⟩ : ∃ n, Hid (LL.length = n) := ⟨_, rfl⟩
    have HM : Hid (n ≤ 1048576 ∧ (∀ i, i < n → (pat LL i).2.2.length ≤ 1048576) ∧ kidsLen LL n ≤ 1048576) := by
      have hn := HN.out
      cases e : readP s0 with
      | none =>
        have h0 : LL = [] := by rw [HLL.out, e]; rfl
        subst h0
        obtain rfl : 0 = n := hn
        exact ⟨by omega, fun i hi => absurd hi (Nat.not_lt_zero _), by simp [kidsLen]⟩
      | some x =>
        have h0 : LL = x := by rw [HLL.out, e]; rfl
        subst h0
        obtain ⟨h1, h2⟩ := readP_ok e
        unfold okP at h1
        simp only [Bool.and_eq_true, decide_eq_true_eq] at h1
        have h3 := h1.1
        have h4 := h2.kids n (by omega)
        exact ⟨by omega, fun i hi => Nat.le_trans (h2.pat (by omega)) (by omega), by omega⟩
    have HI : Hid (∀ w, Calls Try.prog 18 #[.string s0] w fun e w' => ∃ (a : Option Addr) (c : Nat), e = .returned (.tuple #[.agg #[.slice a n c], .bool OK]) ∧ Hid (PathOwn w.heap.size w'.heap.size w' a LL) ∧ Hid (Below w.heap.size w w')) := fun w =>
      (readPath_any s0 w (by omega)).mono fun _ _ ⟨a, n', c, r, h1, h2, h3, h4, h5⟩ => by
        rw [← HLL.out] at h3 h4
        obtain rfl : n = n' := by rw [← HN.out]; exact h3
        obtain rfl : OK = r := by rw [HOK.out]; exact h2.symm
        exact ⟨a, c, h1, h4, h5⟩
    have HS : Hid (∀ w, Calls Try.prog 21 #[.string s0] w fun e w' => ∃ (a : Option Addr) (c : Nat), e = .returned (.tuple #[.agg #[.slice a n c], .bool OK]) ∧ Hid (PathOwn w.heap.size w'.heap.size w' a LL) ∧ Hid (Below w.heap.size w w')) := fun w =>
      (specRead_any s0 w (by omega)).mono fun _ _ ⟨a, n', c, r, h1, h2, h3, h4, h5⟩ => by
        rw [← HLL.out] at h3 h4
        obtain rfl : n = n' := by rw [← HN.out]; exact h3
        obtain rfl : OK = r := by rw [HOK.out]; exact h2.symm
        exact ⟨a, c, h1, h4, h5⟩
    clear HLL HOK
    go_enter Try.func7, Try.ntmps7
    have HD_0 : Hid (Hold w w []) := Hold.none w
    go_wp2_with fail
    refine (HS.out _).mono ?_
    rintro e w1 ⟨a1, c1, rfl, X_W0, B_1⟩
    have HD_2 : Hid (Hold w w1 []) := HD_0.out.below B_1.out
    clear HD_0
    have ZZ3 : Hid (w.heap.size ≤ w1.heap.size) := B_1.out.size
    clear B_1
    have W0_4 : Hid (PathOwn w.heap.size w1.heap.size w1 a1 LL) := X_W0.out
    clear X_W0
    have BA_5 : Hid (Below w1.heap.size w1 (w1.alloc (.cells #[.slice a1 n c1] 36))) := below1' w1 _
    have HD_6 : Hid (Hold w (w1.alloc (.cells #[.slice a1 n c1] 36)) [(w1.heap.size, [.slice a1 n c1])]) := HD_2.out.more [.slice a1 n c1] 36
    clear HD_2
    have ZZ7 : Hid ((w1.alloc (.cells #[.slice a1 n c1] 36)).heap.size = w1.heap.size + 1) := by show _ = _; simp
    have ZZ8 : Hid (w1.heap.size ≤ (w1.alloc (.cells #[.slice a1 n c1] 36)).heap.size) := BA_5.out.size
    have W0_8 : Hid (PathOwn w.heap.size w1.heap.size (w1.alloc (.cells #[.slice a1 n c1] 36)) a1 LL) := W0_4.out.below BA_5.out (by have y0 := ZZ3.out; have y1 := ZZ7.out; have y2 := ZZ8.out; omega)
    clear W0_4
    clear BA_5
    go_wp2_with fail
    refine (HI.out _).mono ?_
    rintro e w2 ⟨a2, c2, rfl, X_G0, B_9⟩
    have HD_10 : Hid (Hold w w2 [(w1.heap.size, [.slice a1 n c1])]) := HD_6.out.below B_9.out
    clear HD_6
    have ZZ11 : Hid ((w1.alloc (.cells #[.slice a1 n c1] 36)).heap.size ≤ w2.heap.size) := B_9.out.size
    have W0_11 : Hid (PathOwn w.heap.size w1.heap.size w2 a1 LL) := W0_8.out.below B_9.out (by have y0 := ZZ3.out; have y1 := ZZ7.out; have y2 := ZZ8.out; have y3 := ZZ11.out; omega)
    clear W0_8
    clear B_9
    have G0_12 : Hid (PathOwn (w1.alloc (.cells #[.slice a1 n c1] 36)).heap.size w2.heap.size w2 a2 LL) := X_G0.out
    clear X_G0
    have BA_13 : Hid (Below w2.heap.size w2 (w2.alloc (.cells #[.slice a2 n c2] 36))) := below1' w2 _
    have HD_14 : Hid (Hold w (w2.alloc (.cells #[.slice a2 n c2] 36)) [(w2.heap.size, [.slice a2 n c2]), (w1.heap.size, [.slice a1 n c1])]) := HD_10.out.more [.slice a2 n c2] 36
    clear HD_10
    have ZZ15 : Hid ((w2.alloc (.cells #[.slice a2 n c2] 36)).heap.size = w2.heap.size + 1) := by show _ = _; simp
    have ZZ16 : Hid (w2.heap.size ≤ (w2.alloc (.cells #[.slice a2 n c2] 36)).heap.size) := BA_13.out.size
    have W0_16 : Hid (PathOwn w.heap.size w1.heap.size (w2.alloc (.cells #[.slice a2 n c2] 36)) a1 LL) := W0_11.out.below BA_13.out (by have y0 := ZZ3.out; have y1 := ZZ7.out; have y2 := ZZ8.out; have y3 := ZZ11.out; have y4 := ZZ15.out; have y5 := ZZ16.out; omega)
    have G0_16 : Hid (PathOwn (w1.alloc (.cells #[.slice a1 n c1] 36)).heap.size w2.heap.size (w2.alloc (.cells #[.slice a2 n c2] 36)) a2 LL) := G0_12.out.below BA_13.out (by have y0 := ZZ3.out; have y1 := ZZ7.out; have y2 := ZZ8.out; have y3 := ZZ11.out; have y4 := ZZ15.out; have y5 := ZZ16.out; omega)
    clear W0_11 G0_12
    clear BA_13
    have q_17 : (w2.alloc (.cells #[.slice a2 n c2] 36)).cell? ⟨w2.heap.size, 0, none⟩ = some (.slice a2 n c2) := HD_14.out.cell (b := w2.heap.size) (vs := [.slice a2 n c2]) (i := 0) (by simp) (by simp)
    have q_18 : (w2.alloc (.cells #[.slice a2 n c2] 36)).cell? ⟨w1.heap.size, 0, none⟩ = some (.slice a1 n c1) := HD_14.out.cell (b := w1.heap.size) (vs := [.slice a1 n c1]) (i := 0) (by simp) (by simp)
    go_wp2_with fail
    refine (eqPath_any (w1.alloc (.cells #[.slice a1 n c1] 36)).heap.size w2.heap.size w.heap.size w1.heap.size a2 a1 n n c2 c1 LL LL true _ G0_16.out.toIn W0_16.out.toIn (by have y0 := ZZ3.out; have y1 := ZZ7.out; have y2 := ZZ8.out; have y3 := ZZ11.out; have y4 := ZZ15.out; have y5 := ZZ16.out; omega) (by have y0 := ZZ3.out; have y1 := ZZ7.out; have y2 := ZZ8.out; have y3 := ZZ11.out; have y4 := ZZ15.out; have y5 := ZZ16.out; omega) HN.out HN.out HM.out.1 HM.out.2.1 (by simp)).mono ?_
    rintro e w3 ⟨rfl, B_19⟩
    clear q_17 q_18
    have HD_20 : Hid (Hold w w3 [(w2.heap.size, [.slice a2 n c2]), (w1.heap.size, [.slice a1 n c1])]) := HD_14.out.below B_19.out
    clear HD_14
    have ZZ21 : Hid ((w2.alloc (.cells #[.slice a2 n c2] 36)).heap.size ≤ w3.heap.size) := B_19.out.size
    have W0_21 : Hid (PathOwn w.heap.size w1.heap.size w3 a1 LL) := W0_16.out.below B_19.out (by have y0 := ZZ3.out; have y1 := ZZ7.out; have y2 := ZZ8.out; have y3 := ZZ11.out; have y4 := ZZ15.out; have y5 := ZZ16.out; have y6 := ZZ21.out; omega)
    have G0_21 : Hid (PathOwn (w1.alloc (.cells #[.slice a1 n c1] 36)).heap.size w2.heap.size w3 a2 LL) := G0_16.out.below B_19.out (by have y0 := ZZ3.out; have y1 := ZZ7.out; have y2 := ZZ8.out; have y3 := ZZ11.out; have y4 := ZZ15.out; have y5 := ZZ16.out; have y6 := ZZ21.out; omega)
    clear W0_16 G0_16
    clear B_19
    rcases Bool.eq_false_or_eq_true OK with hok | hok <;> subst hok
    · have q_22 : w3.cell? ⟨w2.heap.size, 0, none⟩ = some (.slice a2 n c2) := HD_20.out.cell (b := w2.heap.size) (vs := [.slice a2 n c2]) (i := 0) (by simp) (by simp)
      go_wp2_with fail
      refine (markPath_any (w1.alloc (.cells #[.slice a1 n c1] 36)).heap.size w2.heap.size a2 n c2 1 LL _ G0_21.out (by have y0 := ZZ3.out; have y1 := ZZ7.out; have y2 := ZZ8.out; have y3 := ZZ11.out; have y4 := ZZ15.out; have y5 := ZZ16.out; have y6 := ZZ21.out; omega) HN.out HM.out.1 HM.out.2.2 (by omega)).mono ?_
      rintro e w4 ⟨m4, rfl, HM_m4, X_23, K_23⟩
      clear q_22
      have HD_24 : Hid (Hold w w4 [(w2.heap.size, [.slice a2 n c2]), (w1.heap.size, [.slice a1 n c1])]) := HD_20.out.kept K_23.out (by intro x hx; simp only [List.mem_cons, List.not_mem_nil, or_false] at hx; have y0 := ZZ3.out; have y1 := ZZ7.out; have y2 := ZZ8.out; have y3 := ZZ11.out; have y4 := ZZ15.out; have y5 := ZZ16.out; have y6 := ZZ21.out; rcases hx with rfl | rfl <;> dsimp only <;> omega) (fun k hk => by have y0 := ZZ3.out; have y1 := ZZ7.out; have y2 := ZZ8.out; have y3 := ZZ11.out; have y4 := ZZ15.out; have y5 := ZZ16.out; have y6 := ZZ21.out; omega)
      clear HD_20
      have ZZ25 : Hid (w3.heap.size ≤ w4.heap.size) := K_23.out.size
      have W0_25 : Hid (PathOwn w.heap.size w1.heap.size w4 a1 LL) := W0_21.out.kept K_23.out (by have y0 := ZZ3.out; have y1 := ZZ7.out; have y2 := ZZ8.out; have y3 := ZZ11.out; have y4 := ZZ15.out; have y5 := ZZ16.out; have y6 := ZZ21.out; have y7 := ZZ25.out; omega) (fun c h1 h2 h3 => by have y0 := ZZ3.out; have y1 := ZZ7.out; have y2 := ZZ8.out; have y3 := ZZ11.out; have y4 := ZZ15.out; have y5 := ZZ16.out; have y6 := ZZ21.out; have y7 := ZZ25.out; omega)
      clear W0_21 G0_21
      clear K_23
      have G0_26 : Hid (PathOwn (w1.alloc (.cells #[.slice a1 n c1] 36)).heap.size w2.heap.size w4 a2 (mkToP 1 LL n)) := X_23.out
      clear X_23
      have q_27 : w4.cell? ⟨w2.heap.size, 0, none⟩ = some (.slice a2 n c2) := HD_24.out.cell (b := w2.heap.size) (vs := [.slice a2 n c2]) (i := 0) (by simp) (by simp)
      go_wp2_with fail
      refine (heldPath_any (w1.alloc (.cells #[.slice a1 n c1] 36)).heap.size w2.heap.size a2 n c2 1 LL _ G0_26.out.toIn (by have y0 := ZZ3.out; have y1 := ZZ7.out; have y2 := ZZ8.out; have y3 := ZZ11.out; have y4 := ZZ15.out; have y5 := ZZ16.out; have y6 := ZZ21.out; have y7 := ZZ25.out; omega) HN.out HM.out.1 HM.out.2.2 (by omega)).mono ?_
      rintro e w5 ⟨m5, rfl, HM_m5, B_28⟩
      clear q_27
      have HD_29 : Hid (Hold w w5 [(w2.heap.size, [.slice a2 n c2]), (w1.heap.size, [.slice a1 n c1])]) := HD_24.out.below B_28.out
      clear HD_24
      have ZZ30 : Hid (w4.heap.size ≤ w5.heap.size) := B_28.out.size
      have W0_30 : Hid (PathOwn w.heap.size w1.heap.size w5 a1 LL) := W0_25.out.below B_28.out (by have y0 := ZZ3.out; have y1 := ZZ7.out; have y2 := ZZ8.out; have y3 := ZZ11.out; have y4 := ZZ15.out; have y5 := ZZ16.out; have y6 := ZZ21.out; have y7 := ZZ25.out; have y8 := ZZ30.out; omega)
      have G0_30 : Hid (PathOwn (w1.alloc (.cells #[.slice a1 n c1] 36)).heap.size w2.heap.size w5 a2 (mkToP 1 LL n)) := G0_26.out.below B_28.out (by have y0 := ZZ3.out; have y1 := ZZ7.out; have y2 := ZZ8.out; have y3 := ZZ11.out; have y4 := ZZ15.out; have y5 := ZZ16.out; have y6 := ZZ21.out; have y7 := ZZ25.out; have y8 := ZZ30.out; omega)
      clear W0_25 G0_26
      clear B_28
      obtain rfl : m4 = m5 := by rw [HM_m5.out, HM_m4.out]
      clear HM_m5
      have hn_m5 : ¬ ((m4 : Nat) : Int) < 0 := by omega
      go_wp2_with fail
      refine (HI.out _).mono ?_
      rintro e w6 ⟨a6, c6, rfl, X_H0, B_31⟩
      have HD_32 : Hid (Hold w w6 [(w2.heap.size, [.slice a2 n c2]), (w1.heap.size, [.slice a1 n c1])]) := HD_29.out.below B_31.out
      clear HD_29
      have ZZ33 : Hid (w5.heap.size ≤ w6.heap.size) := B_31.out.size
      have W0_33 : Hid (PathOwn w.heap.size w1.heap.size w6 a1 LL) := W0_30.out.below B_31.out (by have y0 := ZZ3.out; have y1 := ZZ7.out; have y2 := ZZ8.out; have y3 := ZZ11.out; have y4 := ZZ15.out; have y5 := ZZ16.out; have y6 := ZZ21.out; have y7 := ZZ25.out; have y8 := ZZ30.out; have y9 := ZZ33.out; omega)
      have G0_33 : Hid (PathOwn (w1.alloc (.cells #[.slice a1 n c1] 36)).heap.size w2.heap.size w6 a2 (mkToP 1 LL n)) := G0_30.out.below B_31.out (by have y0 := ZZ3.out; have y1 := ZZ7.out; have y2 := ZZ8.out; have y3 := ZZ11.out; have y4 := ZZ15.out; have y5 := ZZ16.out; have y6 := ZZ21.out; have y7 := ZZ25.out; have y8 := ZZ30.out; have y9 := ZZ33.out; omega)
      clear W0_30 G0_30
      clear B_31
      have H0_34 : Hid (PathOwn w5.heap.size w6.heap.size w6 a6 LL) := X_H0.out
      clear X_H0
      have BA_35 : Hid (Below w6.heap.size w6 (w6.alloc (.cells #[.slice a6 n c6] 36))) := below1' w6 _
      have HD_36 : Hid (Hold w (w6.alloc (.cells #[.slice a6 n c6] 36)) [(w6.heap.size, [.slice a6 n c6]), (w2.heap.size, [.slice a2 n c2]), (w1.heap.size, [.slice a1 n c1])]) := HD_32.out.more [.slice a6 n c6] 36
      clear HD_32
      have ZZ37 : Hid ((w6.alloc (.cells #[.slice a6 n c6] 36)).heap.size = w6.heap.size + 1) := by show _ = _; simp
      have ZZ38 : Hid (w6.heap.size ≤ (w6.alloc (.cells #[.slice a6 n c6] 36)).heap.size) := BA_35.out.size
      have W0_38 : Hid (PathOwn w.heap.size w1.heap.size (w6.alloc (.cells #[.slice a6 n c6] 36)) a1 LL) := W0_33.out.below BA_35.out (by have y0 := ZZ3.out; have y1 := ZZ7.out; have y2 := ZZ8.out; have y3 := ZZ11.out; have y4 := ZZ15.out; have y5 := ZZ16.out; have y6 := ZZ21.out; have y7 := ZZ25.out; have y8 := ZZ30.out; have y9 := ZZ33.out; have y10 := ZZ37.out; have y11 := ZZ38.out; omega)
      have G0_38 : Hid (PathOwn (w1.alloc (.cells #[.slice a1 n c1] 36)).heap.size w2.heap.size (w6.alloc (.cells #[.slice a6 n c6] 36)) a2 (mkToP 1 LL n)) := G0_33.out.below BA_35.out (by have y0 := ZZ3.out; have y1 := ZZ7.out; have y2 := ZZ8.out; have y3 := ZZ11.out; have y4 := ZZ15.out; have y5 := ZZ16.out; have y6 := ZZ21.out; have y7 := ZZ25.out; have y8 := ZZ30.out; have y9 := ZZ33.out; have y10 := ZZ37.out; have y11 := ZZ38.out; omega)
      have H0_38 : Hid (PathOwn w5.heap.size w6.heap.size (w6.alloc (.cells #[.slice a6 n c6] 36)) a6 LL) := H0_34.out.below BA_35.out (by have y0 := ZZ3.out; have y1 := ZZ7.out; have y2 := ZZ8.out; have y3 := ZZ11.out; have y4 := ZZ15.out; have y5 := ZZ16.out; have y6 := ZZ21.out; have y7 := ZZ25.out; have y8 := ZZ30.out; have y9 := ZZ33.out; have y10 := ZZ37.out; have y11 := ZZ38.out; omega)
      clear W0_33 G0_33 H0_34
      clear BA_35
      have q_39 : (w6.alloc (.cells #[.slice a6 n c6] 36)).cell? ⟨w6.heap.size, 0, none⟩ = some (.slice a6 n c6) := HD_36.out.cell (b := w6.heap.size) (vs := [.slice a6 n c6]) (i := 0) (by simp) (by simp)
      have q_40 : (w6.alloc (.cells #[.slice a6 n c6] 36)).cell? ⟨w1.heap.size, 0, none⟩ = some (.slice a1 n c1) := HD_36.out.cell (b := w1.heap.size) (vs := [.slice a1 n c1]) (i := 0) (by simp) (by simp)
      go_wp2_with fail
      refine (eqPath_any w5.heap.size w6.heap.size w.heap.size w1.heap.size a6 a1 n n c6 c1 LL LL true _ H0_38.out.toIn W0_38.out.toIn (by have y0 := ZZ3.out; have y1 := ZZ7.out; have y2 := ZZ8.out; have y3 := ZZ11.out; have y4 := ZZ15.out; have y5 := ZZ16.out; have y6 := ZZ21.out; have y7 := ZZ25.out; have y8 := ZZ30.out; have y9 := ZZ33.out; have y10 := ZZ37.out; have y11 := ZZ38.out; omega) (by have y0 := ZZ3.out; have y1 := ZZ7.out; have y2 := ZZ8.out; have y3 := ZZ11.out; have y4 := ZZ15.out; have y5 := ZZ16.out; have y6 := ZZ21.out; have y7 := ZZ25.out; have y8 := ZZ30.out; have y9 := ZZ33.out; have y10 := ZZ37.out; have y11 := ZZ38.out; omega) HN.out HN.out HM.out.1 HM.out.2.1 (by simp)).mono ?_
      rintro e w7 ⟨rfl, B_41⟩
      clear q_39 q_40
      have HD_42 : Hid (Hold w w7 [(w6.heap.size, [.slice a6 n c6]), (w2.heap.size, [.slice a2 n c2]), (w1.heap.size, [.slice a1 n c1])]) := HD_36.out.below B_41.out
      clear HD_36
      have ZZ43 : Hid ((w6.alloc (.cells #[.slice a6 n c6] 36)).heap.size ≤ w7.heap.size) := B_41.out.size
      have W0_43 : Hid (PathOwn w.heap.size w1.heap.size w7 a1 LL) := W0_38.out.below B_41.out (by have y0 := ZZ3.out; have y1 := ZZ7.out; have y2 := ZZ8.out; have y3 := ZZ11.out; have y4 := ZZ15.out; have y5 := ZZ16.out; have y6 := ZZ21.out; have y7 := ZZ25.out; have y8 := ZZ30.out; have y9 := ZZ33.out; have y10 := ZZ37.out; have y11 := ZZ38.out; have y12 := ZZ43.out; omega)
      have G0_43 : Hid (PathOwn (w1.alloc (.cells #[.slice a1 n c1] 36)).heap.size w2.heap.size w7 a2 (mkToP 1 LL n)) := G0_38.out.below B_41.out (by have y0 := ZZ3.out; have y1 := ZZ7.out; have y2 := ZZ8.out; have y3 := ZZ11.out; have y4 := ZZ15.out; have y5 := ZZ16.out; have y6 := ZZ21.out; have y7 := ZZ25.out; have y8 := ZZ30.out; have y9 := ZZ33.out; have y10 := ZZ37.out; have y11 := ZZ38.out; have y12 := ZZ43.out; omega)
      have H0_43 : Hid (PathOwn w5.heap.size w6.heap.size w7 a6 LL) := H0_38.out.below B_41.out (by have y0 := ZZ3.out; have y1 := ZZ7.out; have y2 := ZZ8.out; have y3 := ZZ11.out; have y4 := ZZ15.out; have y5 := ZZ16.out; have y6 := ZZ21.out; have y7 := ZZ25.out; have y8 := ZZ30.out; have y9 := ZZ33.out; have y10 := ZZ37.out; have y11 := ZZ38.out; have y12 := ZZ43.out; omega)
      clear W0_38 G0_38 H0_38
      clear B_41
      have q_44 : w7.cell? ⟨w2.heap.size, 0, none⟩ = some (.slice a2 n c2) := HD_42.out.cell (b := w2.heap.size) (vs := [.slice a2 n c2]) (i := 0) (by simp) (by simp)
      go_wp2_with fail
      refine (heldPath_any (w1.alloc (.cells #[.slice a1 n c1] 36)).heap.size w2.heap.size a2 n c2 1 LL _ G0_43.out.toIn (by have y0 := ZZ3.out; have y1 := ZZ7.out; have y2 := ZZ8.out; have y3 := ZZ11.out; have y4 := ZZ15.out; have y5 := ZZ16.out; have y6 := ZZ21.out; have y7 := ZZ25.out; have y8 := ZZ30.out; have y9 := ZZ33.out; have y10 := ZZ37.out; have y11 := ZZ38.out; have y12 := ZZ43.out; omega) HN.out HM.out.1 HM.out.2.2 (by omega)).mono ?_
      rintro e w8 ⟨m8, rfl, HM_m8, B_45⟩
      clear q_44
      have HD_46 : Hid (Hold w w8 [(w6.heap.size, [.slice a6 n c6]), (w2.heap.size, [.slice a2 n c2]), (w1.heap.size, [.slice a1 n c1])]) := HD_42.out.below B_45.out
      clear HD_42
      have ZZ47 : Hid (w7.heap.size ≤ w8.heap.size) := B_45.out.size
      have W0_47 : Hid (PathOwn w.heap.size w1.heap.size w8 a1 LL) := W0_43.out.below B_45.out (by have y0 := ZZ3.out; have y1 := ZZ7.out; have y2 := ZZ8.out; have y3 := ZZ11.out; have y4 := ZZ15.out; have y5 := ZZ16.out; have y6 := ZZ21.out; have y7 := ZZ25.out; have y8 := ZZ30.out; have y9 := ZZ33.out; have y10 := ZZ37.out; have y11 := ZZ38.out; have y12 := ZZ43.out; have y13 := ZZ47.out; omega)
      have G0_47 : Hid (PathOwn (w1.alloc (.cells #[.slice a1 n c1] 36)).heap.size w2.heap.size w8 a2 (mkToP 1 LL n)) := G0_43.out.below B_45.out (by have y0 := ZZ3.out; have y1 := ZZ7.out; have y2 := ZZ8.out; have y3 := ZZ11.out; have y4 := ZZ15.out; have y5 := ZZ16.out; have y6 := ZZ21.out; have y7 := ZZ25.out; have y8 := ZZ30.out; have y9 := ZZ33.out; have y10 := ZZ37.out; have y11 := ZZ38.out; have y12 := ZZ43.out; have y13 := ZZ47.out; omega)
      have H0_47 : Hid (PathOwn w5.heap.size w6.heap.size w8 a6 LL) := H0_43.out.below B_45.out (by have y0 := ZZ3.out; have y1 := ZZ7.out; have y2 := ZZ8.out; have y3 := ZZ11.out; have y4 := ZZ15.out; have y5 := ZZ16.out; have y6 := ZZ21.out; have y7 := ZZ25.out; have y8 := ZZ30.out; have y9 := ZZ33.out; have y10 := ZZ37.out; have y11 := ZZ38.out; have y12 := ZZ43.out; have y13 := ZZ47.out; omega)
      clear W0_43 G0_43 H0_43
      clear B_45
      obtain rfl : m4 = m8 := by rw [HM_m8.out, HM_m4.out]
      clear HM_m8
      have hn_m8 : ¬ ((m4 : Nat) : Int) < 0 := by omega
      go_wp2
      go_ret
      exact ⟨rfl, HD_46.out.bel⟩
    · have q_22 : w3.cell? ⟨w2.heap.size, 0, none⟩ = some (.slice a2 n c2) := HD_20.out.cell (b := w2.heap.size) (vs := [.slice a2 n c2]) (i := 0) (by simp) (by simp)
      go_wp2_with fail
      refine (markPath_any (w1.alloc (.cells #[.slice a1 n c1] 36)).heap.size w2.heap.size a2 n c2 1 LL _ G0_21.out (by have y0 := ZZ3.out; have y1 := ZZ7.out; have y2 := ZZ8.out; have y3 := ZZ11.out; have y4 := ZZ15.out; have y5 := ZZ16.out; have y6 := ZZ21.out; omega) HN.out HM.out.1 HM.out.2.2 (by omega)).mono ?_
      rintro e w4 ⟨m4, rfl, HM_m4, X_23, K_23⟩
      clear q_22
      have HD_24 : Hid (Hold w w4 [(w2.heap.size, [.slice a2 n c2]), (w1.heap.size, [.slice a1 n c1])]) := HD_20.out.kept K_23.out (by intro x hx; simp only [List.mem_cons, List.not_mem_nil, or_false] at hx; have y0 := ZZ3.out; have y1 := ZZ7.out; have y2 := ZZ8.out; have y3 := ZZ11.out; have y4 := ZZ15.out; have y5 := ZZ16.out; have y6 := ZZ21.out; rcases hx with rfl | rfl <;> dsimp only <;> omega) (fun k hk => by have y0 := ZZ3.out; have y1 := ZZ7.out; have y2 := ZZ8.out; have y3 := ZZ11.out; have y4 := ZZ15.out; have y5 := ZZ16.out; have y6 := ZZ21.out; omega)
      clear HD_20
      have ZZ25 : Hid (w3.heap.size ≤ w4.heap.size) := K_23.out.size
      have W0_25 : Hid (PathOwn w.heap.size w1.heap.size w4 a1 LL) := W0_21.out.kept K_23.out (by have y0 := ZZ3.out; have y1 := ZZ7.out; have y2 := ZZ8.out; have y3 := ZZ11.out; have y4 := ZZ15.out; have y5 := ZZ16.out; have y6 := ZZ21.out; have y7 := ZZ25.out; omega) (fun c h1 h2 h3 => by have y0 := ZZ3.out; have y1 := ZZ7.out; have y2 := ZZ8.out; have y3 := ZZ11.out; have y4 := ZZ15.out; have y5 := ZZ16.out; have y6 := ZZ21.out; have y7 := ZZ25.out; omega)
      clear W0_21 G0_21
      clear K_23
      have G0_26 : Hid (PathOwn (w1.alloc (.cells #[.slice a1 n c1] 36)).heap.size w2.heap.size w4 a2 (mkToP 1 LL n)) := X_23.out
      clear X_23
      have q_27 : w4.cell? ⟨w2.heap.size, 0, none⟩ = some (.slice a2 n c2) := HD_24.out.cell (b := w2.heap.size) (vs := [.slice a2 n c2]) (i := 0) (by simp) (by simp)
      go_wp2_with fail
      refine (heldPath_any (w1.alloc (.cells #[.slice a1 n c1] 36)).heap.size w2.heap.size a2 n c2 1 LL _ G0_26.out.toIn (by have y0 := ZZ3.out; have y1 := ZZ7.out; have y2 := ZZ8.out; have y3 := ZZ11.out; have y4 := ZZ15.out; have y5 := ZZ16.out; have y6 := ZZ21.out; have y7 := ZZ25.out; omega) HN.out HM.out.1 HM.out.2.2 (by omega)).mono ?_
      rintro e w5 ⟨m5, rfl, HM_m5, B_28⟩
      clear q_27
      have HD_29 : Hid (Hold w w5 [(w2.heap.size, [.slice a2 n c2]), (w1.heap.size, [.slice a1 n c1])]) := HD_24.out.below B_28.out
      clear HD_24
      have ZZ30 : Hid (w4.heap.size ≤ w5.heap.size) := B_28.out.size
      have W0_30 : Hid (PathOwn w.heap.size w1.heap.size w5 a1 LL) := W0_25.out.below B_28.out (by have y0 := ZZ3.out; have y1 := ZZ7.out; have y2 := ZZ8.out; have y3 := ZZ11.out; have y4 := ZZ15.out; have y5 := ZZ16.out; have y6 := ZZ21.out; have y7 := ZZ25.out; have y8 := ZZ30.out; omega)
      have G0_30 : Hid (PathOwn (w1.alloc (.cells #[.slice a1 n c1] 36)).heap.size w2.heap.size w5 a2 (mkToP 1 LL n)) := G0_26.out.below B_28.out (by have y0 := ZZ3.out; have y1 := ZZ7.out; have y2 := ZZ8.out; have y3 := ZZ11.out; have y4 := ZZ15.out; have y5 := ZZ16.out; have y6 := ZZ21.out; have y7 := ZZ25.out; have y8 := ZZ30.out; omega)
      clear W0_25 G0_26
      clear B_28
      obtain rfl : m4 = m5 := by rw [HM_m5.out, HM_m4.out]
      clear HM_m5
      have hn_m5 : ¬ ((m4 : Nat) : Int) < 0 := by omega
      go_wp2_with fail
      refine (HI.out _).mono ?_
      rintro e w6 ⟨a6, c6, rfl, X_H0, B_31⟩
      have HD_32 : Hid (Hold w w6 [(w2.heap.size, [.slice a2 n c2]), (w1.heap.size, [.slice a1 n c1])]) := HD_29.out.below B_31.out
      clear HD_29
      have ZZ33 : Hid (w5.heap.size ≤ w6.heap.size) := B_31.out.size
      have W0_33 : Hid (PathOwn w.heap.size w1.heap.size w6 a1 LL) := W0_30.out.below B_31.out (by have y0 := ZZ3.out; have y1 := ZZ7.out; have y2 := ZZ8.out; have y3 := ZZ11.out; have y4 := ZZ15.out; have y5 := ZZ16.out; have y6 := ZZ21.out; have y7 := ZZ25.out; have y8 := ZZ30.out; have y9 := ZZ33.out; omega)
      have G0_33 : Hid (PathOwn (w1.alloc (.cells #[.slice a1 n c1] 36)).heap.size w2.heap.size w6 a2 (mkToP 1 LL n)) := G0_30.out.below B_31.out (by have y0 := ZZ3.out; have y1 := ZZ7.out; have y2 := ZZ8.out; have y3 := ZZ11.out; have y4 := ZZ15.out; have y5 := ZZ16.out; have y6 := ZZ21.out; have y7 := ZZ25.out; have y8 := ZZ30.out; have y9 := ZZ33.out; omega)
      clear W0_30 G0_30
      clear B_31
      have H0_34 : Hid (PathOwn w5.heap.size w6.heap.size w6 a6 LL) := X_H0.out
      clear X_H0
      have BA_35 : Hid (Below w6.heap.size w6 (w6.alloc (.cells #[.slice a6 n c6] 36))) := below1' w6 _
      have HD_36 : Hid (Hold w (w6.alloc (.cells #[.slice a6 n c6] 36)) [(w6.heap.size, [.slice a6 n c6]), (w2.heap.size, [.slice a2 n c2]), (w1.heap.size, [.slice a1 n c1])]) := HD_32.out.more [.slice a6 n c6] 36
      clear HD_32
      have ZZ37 : Hid ((w6.alloc (.cells #[.slice a6 n c6] 36)).heap.size = w6.heap.size + 1) := by show _ = _; simp
      have ZZ38 : Hid (w6.heap.size ≤ (w6.alloc (.cells #[.slice a6 n c6] 36)).heap.size) := BA_35.out.size
      have W0_38 : Hid (PathOwn w.heap.size w1.heap.size (w6.alloc (.cells #[.slice a6 n c6] 36)) a1 LL) := W0_33.out.below BA_35.out (by have y0 := ZZ3.out; have y1 := ZZ7.out; have y2 := ZZ8.out; have y3 := ZZ11.out; have y4 := ZZ15.out; have y5 := ZZ16.out; have y6 := ZZ21.out; have y7 := ZZ25.out; have y8 := ZZ30.out; have y9 := ZZ33.out; have y10 := ZZ37.out; have y11 := ZZ38.out; omega)
      have G0_38 : Hid (PathOwn (w1.alloc (.cells #[.slice a1 n c1] 36)).heap.size w2.heap.size (w6.alloc (.cells #[.slice a6 n c6] 36)) a2 (mkToP 1 LL n)) := G0_33.out.below BA_35.out (by have y0 := ZZ3.out; have y1 := ZZ7.out; have y2 := ZZ8.out; have y3 := ZZ11.out; have y4 := ZZ15.out; have y5 := ZZ16.out; have y6 := ZZ21.out; have y7 := ZZ25.out; have y8 := ZZ30.out; have y9 := ZZ33.out; have y10 := ZZ37.out; have y11 := ZZ38.out; omega)
      have H0_38 : Hid (PathOwn w5.heap.size w6.heap.size (w6.alloc (.cells #[.slice a6 n c6] 36)) a6 LL) := H0_34.out.below BA_35.out (by have y0 := ZZ3.out; have y1 := ZZ7.out; have y2 := ZZ8.out; have y3 := ZZ11.out; have y4 := ZZ15.out; have y5 := ZZ16.out; have y6 := ZZ21.out; have y7 := ZZ25.out; have y8 := ZZ30.out; have y9 := ZZ33.out; have y10 := ZZ37.out; have y11 := ZZ38.out; omega)
      clear W0_33 G0_33 H0_34
      clear BA_35
      have q_39 : (w6.alloc (.cells #[.slice a6 n c6] 36)).cell? ⟨w6.heap.size, 0, none⟩ = some (.slice a6 n c6) := HD_36.out.cell (b := w6.heap.size) (vs := [.slice a6 n c6]) (i := 0) (by simp) (by simp)
      have q_40 : (w6.alloc (.cells #[.slice a6 n c6] 36)).cell? ⟨w1.heap.size, 0, none⟩ = some (.slice a1 n c1) := HD_36.out.cell (b := w1.heap.size) (vs := [.slice a1 n c1]) (i := 0) (by simp) (by simp)
      go_wp2_with fail
      refine (eqPath_any w5.heap.size w6.heap.size w.heap.size w1.heap.size a6 a1 n n c6 c1 LL LL true _ H0_38.out.toIn W0_38.out.toIn (by have y0 := ZZ3.out; have y1 := ZZ7.out; have y2 := ZZ8.out; have y3 := ZZ11.out; have y4 := ZZ15.out; have y5 := ZZ16.out; have y6 := ZZ21.out; have y7 := ZZ25.out; have y8 := ZZ30.out; have y9 := ZZ33.out; have y10 := ZZ37.out; have y11 := ZZ38.out; omega) (by have y0 := ZZ3.out; have y1 := ZZ7.out; have y2 := ZZ8.out; have y3 := ZZ11.out; have y4 := ZZ15.out; have y5 := ZZ16.out; have y6 := ZZ21.out; have y7 := ZZ25.out; have y8 := ZZ30.out; have y9 := ZZ33.out; have y10 := ZZ37.out; have y11 := ZZ38.out; omega) HN.out HN.out HM.out.1 HM.out.2.1 (by simp)).mono ?_
      rintro e w7 ⟨rfl, B_41⟩
      clear q_39 q_40
      have HD_42 : Hid (Hold w w7 [(w6.heap.size, [.slice a6 n c6]), (w2.heap.size, [.slice a2 n c2]), (w1.heap.size, [.slice a1 n c1])]) := HD_36.out.below B_41.out
      clear HD_36
      have ZZ43 : Hid ((w6.alloc (.cells #[.slice a6 n c6] 36)).heap.size ≤ w7.heap.size) := B_41.out.size
      have W0_43 : Hid (PathOwn w.heap.size w1.heap.size w7 a1 LL) := W0_38.out.below B_41.out (by have y0 := ZZ3.out; have y1 := ZZ7.out; have y2 := ZZ8.out; have y3 := ZZ11.out; have y4 := ZZ15.out; have y5 := ZZ16.out; have y6 := ZZ21.out; have y7 := ZZ25.out; have y8 := ZZ30.out; have y9 := ZZ33.out; have y10 := ZZ37.out; have y11 := ZZ38.out; have y12 := ZZ43.out; omega)
      have G0_43 : Hid (PathOwn (w1.alloc (.cells #[.slice a1 n c1] 36)).heap.size w2.heap.size w7 a2 (mkToP 1 LL n)) := G0_38.out.below B_41.out (by have y0 := ZZ3.out; have y1 := ZZ7.out; have y2 := ZZ8.out; have y3 := ZZ11.out; have y4 := ZZ15.out; have y5 := ZZ16.out; have y6 := ZZ21.out; have y7 := ZZ25.out; have y8 := ZZ30.out; have y9 := ZZ33.out; have y10 := ZZ37.out; have y11 := ZZ38.out; have y12 := ZZ43.out; omega)
      have H0_43 : Hid (PathOwn w5.heap.size w6.heap.size w7 a6 LL) := H0_38.out.below B_41.out (by have y0 := ZZ3.out; have y1 := ZZ7.out; have y2 := ZZ8.out; have y3 := ZZ11.out; have y4 := ZZ15.out; have y5 := ZZ16.out; have y6 := ZZ21.out; have y7 := ZZ25.out; have y8 := ZZ30.out; have y9 := ZZ33.out; have y10 := ZZ37.out; have y11 := ZZ38.out; have y12 := ZZ43.out; omega)
      clear W0_38 G0_38 H0_38
      clear B_41
      have q_44 : w7.cell? ⟨w2.heap.size, 0, none⟩ = some (.slice a2 n c2) := HD_42.out.cell (b := w2.heap.size) (vs := [.slice a2 n c2]) (i := 0) (by simp) (by simp)
      go_wp2_with fail
      refine (heldPath_any (w1.alloc (.cells #[.slice a1 n c1] 36)).heap.size w2.heap.size a2 n c2 1 LL _ G0_43.out.toIn (by have y0 := ZZ3.out; have y1 := ZZ7.out; have y2 := ZZ8.out; have y3 := ZZ11.out; have y4 := ZZ15.out; have y5 := ZZ16.out; have y6 := ZZ21.out; have y7 := ZZ25.out; have y8 := ZZ30.out; have y9 := ZZ33.out; have y10 := ZZ37.out; have y11 := ZZ38.out; have y12 := ZZ43.out; omega) HN.out HM.out.1 HM.out.2.2 (by omega)).mono ?_
      rintro e w8 ⟨m8, rfl, HM_m8, B_45⟩
      clear q_44
      have HD_46 : Hid (Hold w w8 [(w6.heap.size, [.slice a6 n c6]), (w2.heap.size, [.slice a2 n c2]), (w1.heap.size, [.slice a1 n c1])]) := HD_42.out.below B_45.out
      clear HD_42
      have ZZ47 : Hid (w7.heap.size ≤ w8.heap.size) := B_45.out.size
      have W0_47 : Hid (PathOwn w.heap.size w1.heap.size w8 a1 LL) := W0_43.out.below B_45.out (by have y0 := ZZ3.out; have y1 := ZZ7.out; have y2 := ZZ8.out; have y3 := ZZ11.out; have y4 := ZZ15.out; have y5 := ZZ16.out; have y6 := ZZ21.out; have y7 := ZZ25.out; have y8 := ZZ30.out; have y9 := ZZ33.out; have y10 := ZZ37.out; have y11 := ZZ38.out; have y12 := ZZ43.out; have y13 := ZZ47.out; omega)
      have G0_47 : Hid (PathOwn (w1.alloc (.cells #[.slice a1 n c1] 36)).heap.size w2.heap.size w8 a2 (mkToP 1 LL n)) := G0_43.out.below B_45.out (by have y0 := ZZ3.out; have y1 := ZZ7.out; have y2 := ZZ8.out; have y3 := ZZ11.out; have y4 := ZZ15.out; have y5 := ZZ16.out; have y6 := ZZ21.out; have y7 := ZZ25.out; have y8 := ZZ30.out; have y9 := ZZ33.out; have y10 := ZZ37.out; have y11 := ZZ38.out; have y12 := ZZ43.out; have y13 := ZZ47.out; omega)
      have H0_47 : Hid (PathOwn w5.heap.size w6.heap.size w8 a6 LL) := H0_43.out.below B_45.out (by have y0 := ZZ3.out; have y1 := ZZ7.out; have y2 := ZZ8.out; have y3 := ZZ11.out; have y4 := ZZ15.out; have y5 := ZZ16.out; have y6 := ZZ21.out; have y7 := ZZ25.out; have y8 := ZZ30.out; have y9 := ZZ33.out; have y10 := ZZ37.out; have y11 := ZZ38.out; have y12 := ZZ43.out; have y13 := ZZ47.out; omega)
      clear W0_43 G0_43 H0_43
      clear B_45
      obtain rfl : m4 = m8 := by rw [HM_m8.out, HM_m4.out]
      clear HM_m8
      have hn_m8 : ¬ ((m4 : Nat) : Int) < 0 := by omega
      go_wp2
      go_ret
      exact ⟨rfl, HD_46.out.bel⟩
  · have hgt : (s0.size : Int) > 1048576 := by omega
    have hgt2 : (1048576 : Int) < (s0.size : Int) := by omega
    go_enter Try.func7, Try.ntmps7
    go_wp2
    go_ret
    exact ⟨rfl, Below.refl _ _⟩
end Go.Proofs.Yteepbmgdjghfjaa
