/-
  The walk of FnExactBagAdd.
-/
import Derived.Test.YtijbngdafgmpaaaAddS
namespace Go.Proofs.Ytijbngdafgmpaaa
open Go.RowKit

theorem rowsLen_le {l : List It} {c : Nat} (h : ∀ i, i < l.length → (at' l i).1.length ≤ c) : ∀ k, k ≤ l.length → rowsLen l k ≤ c * k := by
  intro k
  induction k with
  | zero => intro _; simp [rowsLen]
  | succ k ih => intro hk; have h1 := ih (by omega); have h2 := h k (by omega); simp only [rowsLen]; rw [Nat.mul_succ]; omega
theorem ok_bounds {l : List It} {n : Nat} (h : okBag l = true) (hn : l.length = n) : n ≤ 1048576 ∧ (∀ i, i < n → (at' l i).1.length ≤ 1048576) ∧ rowsLen l n ≤ 1048576 := by
  have h3 := okBag_len h
  have h4 : ∀ i, i < l.length → (at' l i).1.length ≤ 4 := fun i hi => ok_rows h hi
  have h5 := rowsLen_le h4 n (by omega)
  exact ⟨by omega, fun i hi => by have := h4 i (by omega); omega, by omega⟩
theorem add_bounds {l : List It} {r : List Int} {t : Int} {n m : Nat} (hn : l.length = n) (hm : (addL l r t).length = m) (h : n ≤ 1048576 ∧ (∀ i, i < n → (at' l i).1.length ≤ 1048576) ∧ rowsLen l n ≤ 1048576) : m ≤ 1048576 ∧ (∀ i, i < m → (at' (addL l r t) i).1.length ≤ 1048576) ∧ rowsLen (addL l r t) m ≤ 1048576 := by
  rcases hv : addOk l r t with _ | _
  · have e : addL l r t = l := by unfold addL; rw [hv]; rfl
    rw [e] at hm ⊢
    have e2 : m = n := by omega
    rw [e2]; exact h
  · have e : addL l r t = putL r t l := by unfold addL; rw [hv]; rfl
    rw [e] at hm ⊢
    unfold addOk at hv
    simp only [Bool.and_eq_true] at hv
    exact ok_bounds hv.2.2 hm

set_option maxHeartbeats 4000000 in
set_option maxRecDepth 100000 in
theorem law_9 (a0 : Option Addr) (n0 cap0 : Nat) (l0 : List It) (a1 : Option Addr) (n1 cap1 : Nat) (l1 : List Int) (z2 : Int) (w : World) (hl0 : l0.length = n0 ∧ ∀ i, i < n0 → (l0.getD i ([], 0)).1.length ≤ maxLen) (hm0 : n0 ≤ maxLen) (hr0 : BagIn 0 w.heap.size w a0 l0) (hl1 : l1.length = n1) (hr1 : RowIn 0 w.heap.size w a1 l1) :
    Calls Try.prog 9 #[.agg #[.slice a0 n0 cap0], .slice a1 n1 cap1, .int .i64 z2] w fun e w' => e = .returned (.bool true) ∧ Below w.heap.size w w' := by
  have HR0 : Hid (BagIn 0 w.heap.size w a0 l0) := hr0
  have HL0 : Hid (l0.length = n0) := hl0.1
  have HLM : Hid (∀ i, i < n0 → (l0.getD i ([], 0)).1.length ≤ maxLen) := hl0.2
  have HMX : Hid (n0 ≤ maxLen) := hm0
  have HR1 : Hid (RowIn 0 w.heap.size w a1 l1) := hr1
  have HL1 : Hid (l1.length = n1) := hl1
  clear hr0 hl0 hm0 hr1 hl1
  by_cases hb1 : (1048576 : Int) < (n1 : Int)
  · go_enter Try.func9, Try.ntmps9
    go_wp2
    go_ret
    exact ⟨rfl, below1' w _⟩
  have hd1 : decide ((1048576 : Int) < (n1 : Int)) = false := by simp; omega
  have HM1 : Hid (n1 ≤ 1048576) := by show _ ≤ _; omega
  go_enter Try.func9, Try.ntmps9
  go_wp2_with fail
  refine (szBag_any 0 w.heap.size a0 n0 cap0 1048576 l0 _ (HR0.out.below (below1' w _) (Nat.le_refl _)) (by simp) HL0.out HMX.out HLM.out (by omega)).mono ?_
  rintro e w1 ⟨x, rfl, HX, hb1'⟩
  have HD_0 : Hid (Held w w1 [(w.heap.size, .slice a0 n0 cap0)]) := (Held.start w _ _).below hb1'.out
  clear hb1'
  by_cases hx : x < 0
  · go_wp2
    go_ret
    exact ⟨rfl, HD_0.out.bel⟩
  · have HM : Hid (n0 ≤ 1048576 ∧ (∀ i, i < n0 → (at' l0 i).1.length ≤ 1048576) ∧ rowsLen l0 n0 ≤ 1048576) := by
      rcases HX.out with h | ⟨h1, h2⟩
      · omega
      · refine ⟨by omega, fun i hi => ?_, by omega⟩
        have := row_le l0 hi
        omega
    obtain ⟨LL, HLL⟩ : ∃ LL, Hid (LL = addL l0 l1 z2) := ⟨_, rfl⟩
    clear HX hb1 hd1
    have ZZ1 : Hid (w.heap.size < w1.heap.size) := HD_0.out.lt (List.mem_cons_self ..)
    have q_2 := HD_0.out.cell (b := w.heap.size) (v := .slice a0 n0 cap0) (by simp)
    go_wp2_with fail
    refine (toB a0 n0 cap0 l0 HR0.out HD_0.out HL0.out HM.out.1 HM.out.2.1).mono ?_
    rintro e w2 ⟨g2, rfl, X_3, HD_3, B_3⟩
    clear q_2
    clear HD_0
    have ZZ4 : Hid (w1.heap.size ≤ w2.heap.size) := B_3.out.size
    have T1_5 : Hid (BagOwn w1.heap.size w2.heap.size w2 (some ⟨g2, 0, none⟩) l0) := X_3.out
    clear X_3 B_3
    go_wp2_with fail
    refine (toIH a1 n1 cap1 l1 HR1.out HD_3.out HL1.out HM1.out).mono ?_
    rintro e w3 ⟨g3, rfl, X_6, HD_6, B_6⟩
    clear HD_3
    have ZZ7 : Hid (w2.heap.size ≤ w3.heap.size) := B_6.out.size
    have T1_7 : Hid (BagOwn w1.heap.size w2.heap.size w3 (some ⟨g2, 0, none⟩) l0) := T1_5.out.below B_6.out (by have y0 := ZZ1.out; have y1 := ZZ4.out; have y2 := ZZ7.out; omega)
    clear T1_5
    have R1_8 : Hid (RowOwn w2.heap.size w3.heap.size w3 (some ⟨g3, 0, none⟩) l1) := X_6.out
    clear X_6 B_6
    go_wp2_with fail
    refine (specAdd_any w1.heap.size w2.heap.size w2.heap.size w3.heap.size (some ⟨g2, 0, none⟩) (some ⟨g3, 0, none⟩) n0 n0 n1 n1 l0 l1 z2 _ T1_7.out.toIn R1_8.out.toIn (by have y0 := ZZ1.out; have y1 := ZZ4.out; have y2 := ZZ7.out; omega) (by have y0 := ZZ1.out; have y1 := ZZ4.out; have y2 := ZZ7.out; omega) HL0.out HL1.out HM.out.1 HM1.out HM.out.2.1).mono ?_
    rintro e w4 ⟨a4, n4, cap4, ok4, rfl, HOK_9, HN_9, X_9, B_9⟩
    rw [← HLL.out] at HN_9 X_9
    have HD_10 : Hid (Held w w4 [(w.heap.size, .slice a0 n0 cap0)]) := HD_6.out.below B_9.out
    clear HD_6
    have ZZ11 : Hid (w3.heap.size ≤ w4.heap.size) := B_9.out.size
    have T1_11 : Hid (BagOwn w1.heap.size w2.heap.size w4 (some ⟨g2, 0, none⟩) l0) := T1_7.out.below B_9.out (by have y0 := ZZ1.out; have y1 := ZZ4.out; have y2 := ZZ7.out; have y3 := ZZ11.out; omega)
    have R1_11 : Hid (RowOwn w2.heap.size w3.heap.size w4 (some ⟨g3, 0, none⟩) l1) := R1_8.out.below B_9.out (by have y0 := ZZ1.out; have y1 := ZZ4.out; have y2 := ZZ7.out; have y3 := ZZ11.out; omega)
    clear T1_7 R1_8
    have W0_12 : Hid (BagIn w3.heap.size w4.heap.size w4 a4 LL) := X_9.out
    clear X_9 B_9
    have HN4 : Hid (LL.length = n4) := HN_9.out
    have HOK4 : Hid (ok4 = addOk l0 l1 z2) := HOK_9.out
    clear HN_9 HOK_9
    have HE : Hid (n4 ≤ 1048576 ∧ (∀ i, i < n4 → (at' LL i).1.length ≤ 1048576) ∧ rowsLen LL n4 ≤ 1048576) := by rw [HLL.out] at HN4 ⊢; exact add_bounds HL0.out HN4.out HM.out
    clear T1_11
    clear R1_11
    have BA_13 : Hid (Below w4.heap.size w4 (w4.alloc (.cells #[.slice a4 n4 cap4] 26))) := below1' w4 _
    have HD_14 : Hid (Held w (w4.alloc (.cells #[.slice a4 n4 cap4] 26)) [(w4.heap.size, .slice a4 n4 cap4), (w.heap.size, .slice a0 n0 cap0)]) := HD_10.out.more _ _
    clear HD_10
    have ZZ15 : Hid ((w4.alloc (.cells #[.slice a4 n4 cap4] 26)).heap.size = w4.heap.size + 1) := by show _ = _; simp
    have ZZ16 : Hid (w4.heap.size ≤ (w4.alloc (.cells #[.slice a4 n4 cap4] 26)).heap.size) := BA_13.out.size
    have W0_16 : Hid (BagIn w3.heap.size w4.heap.size (w4.alloc (.cells #[.slice a4 n4 cap4] 26)) a4 LL) := W0_12.out.below BA_13.out (by have y0 := ZZ1.out; have y1 := ZZ4.out; have y2 := ZZ7.out; have y3 := ZZ11.out; have y4 := ZZ15.out; have y5 := ZZ16.out; omega)
    clear W0_12
    clear BA_13
    have q_17 := HD_14.out.cell (b := w.heap.size) (v := .slice a0 n0 cap0) (by simp)
    go_wp2_with fail
    refine (toB a0 n0 cap0 l0 HR0.out HD_14.out HL0.out HM.out.1 HM.out.2.1).mono ?_
    rintro e w5 ⟨g5, rfl, X_18, HD_18, B_18⟩
    clear q_17
    clear HD_14
    have ZZ19 : Hid ((w4.alloc (.cells #[.slice a4 n4 cap4] 26)).heap.size ≤ w5.heap.size) := B_18.out.size
    have W0_19 : Hid (BagIn w3.heap.size w4.heap.size w5 a4 LL) := W0_16.out.below B_18.out (by have y0 := ZZ1.out; have y1 := ZZ4.out; have y2 := ZZ7.out; have y3 := ZZ11.out; have y4 := ZZ15.out; have y5 := ZZ16.out; have y6 := ZZ19.out; omega)
    clear W0_16
    have X0_20 : Hid (BagOwn (w4.alloc (.cells #[.slice a4 n4 cap4] 26)).heap.size w5.heap.size w5 (some ⟨g5, 0, none⟩) l0) := X_18.out
    clear X_18 B_18
    have BA_21 : Hid (Below w5.heap.size w5 (w5.alloc (.cells #[.slice (some ⟨g5, 0, none⟩) n0 n0] 26))) := below1' w5 _
    have HD_22 : Hid (Held w (w5.alloc (.cells #[.slice (some ⟨g5, 0, none⟩) n0 n0] 26)) [(w5.heap.size, .slice (some ⟨g5, 0, none⟩) n0 n0), (w4.heap.size, .slice a4 n4 cap4), (w.heap.size, .slice a0 n0 cap0)]) := HD_18.out.more _ _
    clear HD_18
    have ZZ23 : Hid ((w5.alloc (.cells #[.slice (some ⟨g5, 0, none⟩) n0 n0] 26)).heap.size = w5.heap.size + 1) := by show _ = _; simp
    have ZZ24 : Hid (w5.heap.size ≤ (w5.alloc (.cells #[.slice (some ⟨g5, 0, none⟩) n0 n0] 26)).heap.size) := BA_21.out.size
    have W0_24 : Hid (BagIn w3.heap.size w4.heap.size (w5.alloc (.cells #[.slice (some ⟨g5, 0, none⟩) n0 n0] 26)) a4 LL) := W0_19.out.below BA_21.out (by have y0 := ZZ1.out; have y1 := ZZ4.out; have y2 := ZZ7.out; have y3 := ZZ11.out; have y4 := ZZ15.out; have y5 := ZZ16.out; have y6 := ZZ19.out; have y7 := ZZ23.out; have y8 := ZZ24.out; omega)
    have X0_24 : Hid (BagOwn (w4.alloc (.cells #[.slice a4 n4 cap4] 26)).heap.size w5.heap.size (w5.alloc (.cells #[.slice (some ⟨g5, 0, none⟩) n0 n0] 26)) (some ⟨g5, 0, none⟩) l0) := X0_20.out.below BA_21.out (by have y0 := ZZ1.out; have y1 := ZZ4.out; have y2 := ZZ7.out; have y3 := ZZ11.out; have y4 := ZZ15.out; have y5 := ZZ16.out; have y6 := ZZ19.out; have y7 := ZZ23.out; have y8 := ZZ24.out; omega)
    clear W0_19 X0_20
    clear BA_21
    go_wp2_with fail
    refine (toIH a1 n1 cap1 l1 HR1.out HD_22.out HL1.out HM1.out).mono ?_
    rintro e w6 ⟨g6, rfl, X_25, HD_25, B_25⟩
    clear HD_22
    have ZZ26 : Hid ((w5.alloc (.cells #[.slice (some ⟨g5, 0, none⟩) n0 n0] 26)).heap.size ≤ w6.heap.size) := B_25.out.size
    have W0_26 : Hid (BagIn w3.heap.size w4.heap.size w6 a4 LL) := W0_24.out.below B_25.out (by have y0 := ZZ1.out; have y1 := ZZ4.out; have y2 := ZZ7.out; have y3 := ZZ11.out; have y4 := ZZ15.out; have y5 := ZZ16.out; have y6 := ZZ19.out; have y7 := ZZ23.out; have y8 := ZZ24.out; have y9 := ZZ26.out; omega)
    have X0_26 : Hid (BagOwn (w4.alloc (.cells #[.slice a4 n4 cap4] 26)).heap.size w5.heap.size w6 (some ⟨g5, 0, none⟩) l0) := X0_24.out.below B_25.out (by have y0 := ZZ1.out; have y1 := ZZ4.out; have y2 := ZZ7.out; have y3 := ZZ11.out; have y4 := ZZ15.out; have y5 := ZZ16.out; have y6 := ZZ19.out; have y7 := ZZ23.out; have y8 := ZZ24.out; have y9 := ZZ26.out; omega)
    clear W0_24 X0_24
    have X1_27 : Hid (RowOwn (w5.alloc (.cells #[.slice (some ⟨g5, 0, none⟩) n0 n0] 26)).heap.size w6.heap.size w6 (some ⟨g6, 0, none⟩) l1) := X_25.out
    clear X_25 B_25
    have q_28 := HD_25.out.cell (b := w5.heap.size) (v := .slice (some ⟨g5, 0, none⟩) n0 n0) (by simp)
    go_wp2_with fail
    refine (bagAdd_any (w4.alloc (.cells #[.slice a4 n4 cap4] 26)).heap.size w5.heap.size (w5.alloc (.cells #[.slice (some ⟨g5, 0, none⟩) n0 n0] 26)).heap.size w6.heap.size (some ⟨g5, 0, none⟩) (some ⟨g6, 0, none⟩) n0 n0 n1 n1 l0 l1 z2 _ X0_26.out.toIn X1_27.out.toIn (by have y0 := ZZ1.out; have y1 := ZZ4.out; have y2 := ZZ7.out; have y3 := ZZ11.out; have y4 := ZZ15.out; have y5 := ZZ16.out; have y6 := ZZ19.out; have y7 := ZZ23.out; have y8 := ZZ24.out; have y9 := ZZ26.out; omega) (by have y0 := ZZ1.out; have y1 := ZZ4.out; have y2 := ZZ7.out; have y3 := ZZ11.out; have y4 := ZZ15.out; have y5 := ZZ16.out; have y6 := ZZ19.out; have y7 := ZZ23.out; have y8 := ZZ24.out; have y9 := ZZ26.out; omega) HL0.out HL1.out HM.out.1 HM1.out HM.out.2.1).mono ?_
    rintro e w7 ⟨a7, n7, cap7, ok7, rfl, HOK_29, HN_29, X_29, B_29⟩
    rw [← HLL.out] at HN_29 X_29
    have HD_30 : Hid (Held w w7 [(w5.heap.size, .slice (some ⟨g5, 0, none⟩) n0 n0), (w4.heap.size, .slice a4 n4 cap4), (w.heap.size, .slice a0 n0 cap0)]) := HD_25.out.below B_29.out
    clear HD_25
    have ZZ31 : Hid (w6.heap.size ≤ w7.heap.size) := B_29.out.size
    have W0_31 : Hid (BagIn w3.heap.size w4.heap.size w7 a4 LL) := W0_26.out.below B_29.out (by have y0 := ZZ1.out; have y1 := ZZ4.out; have y2 := ZZ7.out; have y3 := ZZ11.out; have y4 := ZZ15.out; have y5 := ZZ16.out; have y6 := ZZ19.out; have y7 := ZZ23.out; have y8 := ZZ24.out; have y9 := ZZ26.out; have y10 := ZZ31.out; omega)
    have X0_31 : Hid (BagOwn (w4.alloc (.cells #[.slice a4 n4 cap4] 26)).heap.size w5.heap.size w7 (some ⟨g5, 0, none⟩) l0) := X0_26.out.below B_29.out (by have y0 := ZZ1.out; have y1 := ZZ4.out; have y2 := ZZ7.out; have y3 := ZZ11.out; have y4 := ZZ15.out; have y5 := ZZ16.out; have y6 := ZZ19.out; have y7 := ZZ23.out; have y8 := ZZ24.out; have y9 := ZZ26.out; have y10 := ZZ31.out; omega)
    have X1_31 : Hid (RowOwn (w5.alloc (.cells #[.slice (some ⟨g5, 0, none⟩) n0 n0] 26)).heap.size w6.heap.size w7 (some ⟨g6, 0, none⟩) l1) := X1_27.out.below B_29.out (by have y0 := ZZ1.out; have y1 := ZZ4.out; have y2 := ZZ7.out; have y3 := ZZ11.out; have y4 := ZZ15.out; have y5 := ZZ16.out; have y6 := ZZ19.out; have y7 := ZZ23.out; have y8 := ZZ24.out; have y9 := ZZ26.out; have y10 := ZZ31.out; omega)
    clear W0_26 X0_26 X1_27
    have G0_32 : Hid (BagOwn w6.heap.size w7.heap.size w7 a7 LL) := X_29.out
    clear X_29 B_29
    clear q_28
    obtain rfl : n4 = n7 := by rw [← HN_29.out, HN4.out]
    obtain rfl : ok4 = ok7 := by rw [HOK_29.out, HOK4.out]
    clear HN_29 HOK_29
    have BA_33 : Hid (Below w7.heap.size w7 (w7.alloc (.cells #[.slice a7 n4 cap7] 26))) := below1' w7 _
    have HD_34 : Hid (Held w (w7.alloc (.cells #[.slice a7 n4 cap7] 26)) [(w7.heap.size, .slice a7 n4 cap7), (w5.heap.size, .slice (some ⟨g5, 0, none⟩) n0 n0), (w4.heap.size, .slice a4 n4 cap4), (w.heap.size, .slice a0 n0 cap0)]) := HD_30.out.more _ _
    clear HD_30
    have ZZ35 : Hid ((w7.alloc (.cells #[.slice a7 n4 cap7] 26)).heap.size = w7.heap.size + 1) := by show _ = _; simp
    have ZZ36 : Hid (w7.heap.size ≤ (w7.alloc (.cells #[.slice a7 n4 cap7] 26)).heap.size) := BA_33.out.size
    have W0_36 : Hid (BagIn w3.heap.size w4.heap.size (w7.alloc (.cells #[.slice a7 n4 cap7] 26)) a4 LL) := W0_31.out.below BA_33.out (by have y0 := ZZ1.out; have y1 := ZZ4.out; have y2 := ZZ7.out; have y3 := ZZ11.out; have y4 := ZZ15.out; have y5 := ZZ16.out; have y6 := ZZ19.out; have y7 := ZZ23.out; have y8 := ZZ24.out; have y9 := ZZ26.out; have y10 := ZZ31.out; have y11 := ZZ35.out; have y12 := ZZ36.out; omega)
    have X0_36 : Hid (BagOwn (w4.alloc (.cells #[.slice a4 n4 cap4] 26)).heap.size w5.heap.size (w7.alloc (.cells #[.slice a7 n4 cap7] 26)) (some ⟨g5, 0, none⟩) l0) := X0_31.out.below BA_33.out (by have y0 := ZZ1.out; have y1 := ZZ4.out; have y2 := ZZ7.out; have y3 := ZZ11.out; have y4 := ZZ15.out; have y5 := ZZ16.out; have y6 := ZZ19.out; have y7 := ZZ23.out; have y8 := ZZ24.out; have y9 := ZZ26.out; have y10 := ZZ31.out; have y11 := ZZ35.out; have y12 := ZZ36.out; omega)
    have X1_36 : Hid (RowOwn (w5.alloc (.cells #[.slice (some ⟨g5, 0, none⟩) n0 n0] 26)).heap.size w6.heap.size (w7.alloc (.cells #[.slice a7 n4 cap7] 26)) (some ⟨g6, 0, none⟩) l1) := X1_31.out.below BA_33.out (by have y0 := ZZ1.out; have y1 := ZZ4.out; have y2 := ZZ7.out; have y3 := ZZ11.out; have y4 := ZZ15.out; have y5 := ZZ16.out; have y6 := ZZ19.out; have y7 := ZZ23.out; have y8 := ZZ24.out; have y9 := ZZ26.out; have y10 := ZZ31.out; have y11 := ZZ35.out; have y12 := ZZ36.out; omega)
    have G0_36 : Hid (BagOwn w6.heap.size w7.heap.size (w7.alloc (.cells #[.slice a7 n4 cap7] 26)) a7 LL) := G0_32.out.below BA_33.out (by have y0 := ZZ1.out; have y1 := ZZ4.out; have y2 := ZZ7.out; have y3 := ZZ11.out; have y4 := ZZ15.out; have y5 := ZZ16.out; have y6 := ZZ19.out; have y7 := ZZ23.out; have y8 := ZZ24.out; have y9 := ZZ26.out; have y10 := ZZ31.out; have y11 := ZZ35.out; have y12 := ZZ36.out; omega)
    clear W0_31 X0_31 X1_31 G0_32
    clear BA_33
    have q_37 := HD_34.out.cell (b := w4.heap.size) (v := .slice a4 n4 cap4) (by simp)
    go_wp2_with fail
    refine (eqH (w := w) (bx := [(w7.heap.size, .slice a7 n4 cap7), (w5.heap.size, .slice (some ⟨g5, 0, none⟩) n0 n0), (w4.heap.size, .slice a4 n4 cap4), (w.heap.size, .slice a0 n0 cap0)]) (lo := w6.heap.size) (hi := w7.heap.size) (lo' := w3.heap.size) (hi' := w4.heap.size) a7 a4 n4 cap7 cap4 LL HD_34.out G0_36.out.toIn W0_36.out (by have y0 := ZZ1.out; have y1 := ZZ4.out; have y2 := ZZ7.out; have y3 := ZZ11.out; have y4 := ZZ15.out; have y5 := ZZ16.out; have y6 := ZZ19.out; have y7 := ZZ23.out; have y8 := ZZ24.out; have y9 := ZZ26.out; have y10 := ZZ31.out; have y11 := ZZ35.out; have y12 := ZZ36.out; omega) (by have y0 := ZZ1.out; have y1 := ZZ4.out; have y2 := ZZ7.out; have y3 := ZZ11.out; have y4 := ZZ15.out; have y5 := ZZ16.out; have y6 := ZZ19.out; have y7 := ZZ23.out; have y8 := ZZ24.out; have y9 := ZZ26.out; have y10 := ZZ31.out; have y11 := ZZ35.out; have y12 := ZZ36.out; omega) HN4.out HE.out.1 HE.out.2.1).mono ?_
    rintro e w8 ⟨rfl, HD_38, B_38⟩
    clear q_37
    clear HD_34
    have ZZ39 : Hid ((w7.alloc (.cells #[.slice a7 n4 cap7] 26)).heap.size ≤ w8.heap.size) := B_38.out.size
    have W0_39 : Hid (BagIn w3.heap.size w4.heap.size w8 a4 LL) := W0_36.out.below B_38.out (by have y0 := ZZ1.out; have y1 := ZZ4.out; have y2 := ZZ7.out; have y3 := ZZ11.out; have y4 := ZZ15.out; have y5 := ZZ16.out; have y6 := ZZ19.out; have y7 := ZZ23.out; have y8 := ZZ24.out; have y9 := ZZ26.out; have y10 := ZZ31.out; have y11 := ZZ35.out; have y12 := ZZ36.out; have y13 := ZZ39.out; omega)
    have X0_39 : Hid (BagOwn (w4.alloc (.cells #[.slice a4 n4 cap4] 26)).heap.size w5.heap.size w8 (some ⟨g5, 0, none⟩) l0) := X0_36.out.below B_38.out (by have y0 := ZZ1.out; have y1 := ZZ4.out; have y2 := ZZ7.out; have y3 := ZZ11.out; have y4 := ZZ15.out; have y5 := ZZ16.out; have y6 := ZZ19.out; have y7 := ZZ23.out; have y8 := ZZ24.out; have y9 := ZZ26.out; have y10 := ZZ31.out; have y11 := ZZ35.out; have y12 := ZZ36.out; have y13 := ZZ39.out; omega)
    have X1_39 : Hid (RowOwn (w5.alloc (.cells #[.slice (some ⟨g5, 0, none⟩) n0 n0] 26)).heap.size w6.heap.size w8 (some ⟨g6, 0, none⟩) l1) := X1_36.out.below B_38.out (by have y0 := ZZ1.out; have y1 := ZZ4.out; have y2 := ZZ7.out; have y3 := ZZ11.out; have y4 := ZZ15.out; have y5 := ZZ16.out; have y6 := ZZ19.out; have y7 := ZZ23.out; have y8 := ZZ24.out; have y9 := ZZ26.out; have y10 := ZZ31.out; have y11 := ZZ35.out; have y12 := ZZ36.out; have y13 := ZZ39.out; omega)
    have G0_39 : Hid (BagOwn w6.heap.size w7.heap.size w8 a7 LL) := G0_36.out.below B_38.out (by have y0 := ZZ1.out; have y1 := ZZ4.out; have y2 := ZZ7.out; have y3 := ZZ11.out; have y4 := ZZ15.out; have y5 := ZZ16.out; have y6 := ZZ19.out; have y7 := ZZ23.out; have y8 := ZZ24.out; have y9 := ZZ26.out; have y10 := ZZ31.out; have y11 := ZZ35.out; have y12 := ZZ36.out; have y13 := ZZ39.out; omega)
    clear W0_36 X0_36 X1_36 G0_36
    clear B_38
    have q_40 := HD_38.out.cell (b := w5.heap.size) (v := .slice (some ⟨g5, 0, none⟩) n0 n0) (by simp)
    have q_41 := HD_38.out.cell (b := w.heap.size) (v := .slice a0 n0 cap0) (by simp)
    have HC1 : Hid (∀ w0, Below w8.heap.size w8 w0 → Calls Try.prog 42 #[.agg #[.slice a0 n0 cap0]] w0 fun e w' => ∃ g : Nat, e = .returned (.agg #[.slice (some ⟨g, 0, none⟩) n0 n0]) ∧ Hid (BagIn w8.heap.size w'.heap.size w' (some ⟨g, 0, none⟩) l0) ∧ Hid (Below w8.heap.size w8 w') ∧ (w'.cell? ⟨w5.heap.size, 0, none⟩ = some (.slice (some ⟨g5, 0, none⟩) n0 n0) ∧ w'.cell? ⟨w.heap.size, 0, none⟩ = some (.slice a0 n0 cap0))) := fun w0 h =>
      (toB a0 n0 cap0 l0 HR0.out (HD_38.out.below h) HL0.out HM.out.1 HM.out.2.1).mono fun _ _ ⟨g, h1, h2, h3, h4⟩ =>
        ⟨g, h1, h2.out.toIn.wide h.size (Nat.le_refl _), h.trans (h4.out.mono h.size), h3.out.cell (by simp), h3.out.cell (by simp)⟩
    have HC2 : Hid (∀ (g : Nat) w0, Below w8.heap.size w8 w0 → BagIn w8.heap.size w0.heap.size w0 (some ⟨g, 0, none⟩) l0 → Calls Try.prog 43 #[.agg #[.slice (some ⟨g5, 0, none⟩) n0 n0], .agg #[.slice (some ⟨g, 0, none⟩) n0 n0]] w0 fun e w' => e = .returned (.bool true) ∧ Hid (Below w8.heap.size w8 w') ∧ (w'.cell? ⟨w5.heap.size, 0, none⟩ = some (.slice (some ⟨g5, 0, none⟩) n0 n0) ∧ w'.cell? ⟨w.heap.size, 0, none⟩ = some (.slice a0 n0 cap0))) := fun g w0 h hx =>
      (eqH (w := w) (bx := [(w7.heap.size, .slice a7 n4 cap7), (w5.heap.size, .slice (some ⟨g5, 0, none⟩) n0 n0), (w4.heap.size, .slice a4 n4 cap4), (w.heap.size, .slice a0 n0 cap0)]) (lo := (w4.alloc (.cells #[.slice a4 n4 cap4] 26)).heap.size) (hi := w5.heap.size) (lo' := w8.heap.size) (hi' := w0.heap.size) (some ⟨g5, 0, none⟩) (some ⟨g, 0, none⟩) n0 n0 n0 l0 (HD_38.out.below h) (X0_39.out.toIn.below h (by have y0 := ZZ1.out; have y1 := ZZ4.out; have y2 := ZZ7.out; have y3 := ZZ11.out; have y4 := ZZ15.out; have y5 := ZZ16.out; have y6 := ZZ19.out; have y7 := ZZ23.out; have y8 := ZZ24.out; have y9 := ZZ26.out; have y10 := ZZ31.out; have y11 := ZZ35.out; have y12 := ZZ36.out; have y13 := ZZ39.out; omega)) hx (by have yy := h.size; have y0 := ZZ1.out; have y1 := ZZ4.out; have y2 := ZZ7.out; have y3 := ZZ11.out; have y4 := ZZ15.out; have y5 := ZZ16.out; have y6 := ZZ19.out; have y7 := ZZ23.out; have y8 := ZZ24.out; have y9 := ZZ26.out; have y10 := ZZ31.out; have y11 := ZZ35.out; have y12 := ZZ36.out; have y13 := ZZ39.out; omega) (Nat.le_refl _) HL0.out HM.out.1 HM.out.2.1).mono fun _ _ ⟨h1, h2, h3⟩ =>
        ⟨h1, h.trans (h3.out.mono h.size), h2.out.cell (by simp), h2.out.cell (by simp)⟩
    go_wp2_with fail
    go_region_held (fun w' => w'.cell? ⟨w5.heap.size, 0, none⟩ = some (.slice (some ⟨g5, 0, none⟩) n0 n0) ∧ w'.cell? ⟨w.heap.size, 0, none⟩ = some (.slice a0 n0 cap0)) (first | exact ⟨q_40, q_41⟩ | exact hk9 | exact hk10) (first | (go_at_call 42; refine (HC1.out _ ((Below.refl _ _).drew)).mono ?_; rintro e w9 ⟨g9, rfl, X9, B9, hk9⟩) | (go_at_call 43; refine (HC2.out _ _ B9.out X9.out).mono ?_; rintro e w10 ⟨rfl, B10, hk10⟩))
    clear q_40 q_41
    clear hk9 hk10 B9 X9 HC1 HC2
    have HD_42 : Hid (Held w w10 [(w7.heap.size, .slice a7 n4 cap7), (w5.heap.size, .slice (some ⟨g5, 0, none⟩) n0 n0), (w4.heap.size, .slice a4 n4 cap4), (w.heap.size, .slice a0 n0 cap0)]) := HD_38.out.below B10.out
    clear HD_38
    have ZZ43 : Hid (w8.heap.size ≤ w10.heap.size) := B10.out.size
    have W0_43 : Hid (BagIn w3.heap.size w4.heap.size w10 a4 LL) := W0_39.out.below B10.out (by have y0 := ZZ1.out; have y1 := ZZ4.out; have y2 := ZZ7.out; have y3 := ZZ11.out; have y4 := ZZ15.out; have y5 := ZZ16.out; have y6 := ZZ19.out; have y7 := ZZ23.out; have y8 := ZZ24.out; have y9 := ZZ26.out; have y10 := ZZ31.out; have y11 := ZZ35.out; have y12 := ZZ36.out; have y13 := ZZ39.out; have y14 := ZZ43.out; omega)
    have X0_43 : Hid (BagOwn (w4.alloc (.cells #[.slice a4 n4 cap4] 26)).heap.size w5.heap.size w10 (some ⟨g5, 0, none⟩) l0) := X0_39.out.below B10.out (by have y0 := ZZ1.out; have y1 := ZZ4.out; have y2 := ZZ7.out; have y3 := ZZ11.out; have y4 := ZZ15.out; have y5 := ZZ16.out; have y6 := ZZ19.out; have y7 := ZZ23.out; have y8 := ZZ24.out; have y9 := ZZ26.out; have y10 := ZZ31.out; have y11 := ZZ35.out; have y12 := ZZ36.out; have y13 := ZZ39.out; have y14 := ZZ43.out; omega)
    have X1_43 : Hid (RowOwn (w5.alloc (.cells #[.slice (some ⟨g5, 0, none⟩) n0 n0] 26)).heap.size w6.heap.size w10 (some ⟨g6, 0, none⟩) l1) := X1_39.out.below B10.out (by have y0 := ZZ1.out; have y1 := ZZ4.out; have y2 := ZZ7.out; have y3 := ZZ11.out; have y4 := ZZ15.out; have y5 := ZZ16.out; have y6 := ZZ19.out; have y7 := ZZ23.out; have y8 := ZZ24.out; have y9 := ZZ26.out; have y10 := ZZ31.out; have y11 := ZZ35.out; have y12 := ZZ36.out; have y13 := ZZ39.out; have y14 := ZZ43.out; omega)
    have G0_43 : Hid (BagOwn w6.heap.size w7.heap.size w10 a7 LL) := G0_39.out.below B10.out (by have y0 := ZZ1.out; have y1 := ZZ4.out; have y2 := ZZ7.out; have y3 := ZZ11.out; have y4 := ZZ15.out; have y5 := ZZ16.out; have y6 := ZZ19.out; have y7 := ZZ23.out; have y8 := ZZ24.out; have y9 := ZZ26.out; have y10 := ZZ31.out; have y11 := ZZ35.out; have y12 := ZZ36.out; have y13 := ZZ39.out; have y14 := ZZ43.out; omega)
    clear W0_39 X0_39 X1_39 G0_39
    clear B10
    go_wp2_with fail
    refine (toIH a1 n1 cap1 l1 HR1.out HD_42.out HL1.out HM1.out).mono ?_
    rintro e w11 ⟨g11, rfl, X_44, HD_44, B_44⟩
    clear HD_42
    have ZZ45 : Hid (w10.heap.size ≤ w11.heap.size) := B_44.out.size
    have W0_45 : Hid (BagIn w3.heap.size w4.heap.size w11 a4 LL) := W0_43.out.below B_44.out (by have y0 := ZZ1.out; have y1 := ZZ4.out; have y2 := ZZ7.out; have y3 := ZZ11.out; have y4 := ZZ15.out; have y5 := ZZ16.out; have y6 := ZZ19.out; have y7 := ZZ23.out; have y8 := ZZ24.out; have y9 := ZZ26.out; have y10 := ZZ31.out; have y11 := ZZ35.out; have y12 := ZZ36.out; have y13 := ZZ39.out; have y14 := ZZ43.out; have y15 := ZZ45.out; omega)
    have X0_45 : Hid (BagOwn (w4.alloc (.cells #[.slice a4 n4 cap4] 26)).heap.size w5.heap.size w11 (some ⟨g5, 0, none⟩) l0) := X0_43.out.below B_44.out (by have y0 := ZZ1.out; have y1 := ZZ4.out; have y2 := ZZ7.out; have y3 := ZZ11.out; have y4 := ZZ15.out; have y5 := ZZ16.out; have y6 := ZZ19.out; have y7 := ZZ23.out; have y8 := ZZ24.out; have y9 := ZZ26.out; have y10 := ZZ31.out; have y11 := ZZ35.out; have y12 := ZZ36.out; have y13 := ZZ39.out; have y14 := ZZ43.out; have y15 := ZZ45.out; omega)
    have X1_45 : Hid (RowOwn (w5.alloc (.cells #[.slice (some ⟨g5, 0, none⟩) n0 n0] 26)).heap.size w6.heap.size w11 (some ⟨g6, 0, none⟩) l1) := X1_43.out.below B_44.out (by have y0 := ZZ1.out; have y1 := ZZ4.out; have y2 := ZZ7.out; have y3 := ZZ11.out; have y4 := ZZ15.out; have y5 := ZZ16.out; have y6 := ZZ19.out; have y7 := ZZ23.out; have y8 := ZZ24.out; have y9 := ZZ26.out; have y10 := ZZ31.out; have y11 := ZZ35.out; have y12 := ZZ36.out; have y13 := ZZ39.out; have y14 := ZZ43.out; have y15 := ZZ45.out; omega)
    have G0_45 : Hid (BagOwn w6.heap.size w7.heap.size w11 a7 LL) := G0_43.out.below B_44.out (by have y0 := ZZ1.out; have y1 := ZZ4.out; have y2 := ZZ7.out; have y3 := ZZ11.out; have y4 := ZZ15.out; have y5 := ZZ16.out; have y6 := ZZ19.out; have y7 := ZZ23.out; have y8 := ZZ24.out; have y9 := ZZ26.out; have y10 := ZZ31.out; have y11 := ZZ35.out; have y12 := ZZ36.out; have y13 := ZZ39.out; have y14 := ZZ43.out; have y15 := ZZ45.out; omega)
    clear W0_43 X0_43 X1_43 G0_43
    have Y1_46 : Hid (RowOwn w10.heap.size w11.heap.size w11 (some ⟨g11, 0, none⟩) l1) := X_44.out
    clear X_44 B_44
    go_wp2_with fail
    refine (eqInts_any (w5.alloc (.cells #[.slice (some ⟨g5, 0, none⟩) n0 n0] 26)).heap.size w6.heap.size w10.heap.size w11.heap.size (some ⟨g6, 0, none⟩) (some ⟨g11, 0, none⟩) n1 n1 n1 n1 l1 l1 true _ X1_45.out.toIn Y1_46.out.toIn HL1.out HL1.out HM1.out (by simp)).mono ?_
    rintro e w12 ⟨rfl, b12⟩
    have B12 : Hid (Below w11.heap.size w11 w12) := b12
    clear b12
    have HD_47 : Hid (Held w w12 [(w7.heap.size, .slice a7 n4 cap7), (w5.heap.size, .slice (some ⟨g5, 0, none⟩) n0 n0), (w4.heap.size, .slice a4 n4 cap4), (w.heap.size, .slice a0 n0 cap0)]) := HD_44.out.below B12.out
    clear HD_44
    have ZZ48 : Hid (w11.heap.size ≤ w12.heap.size) := B12.out.size
    have W0_48 : Hid (BagIn w3.heap.size w4.heap.size w12 a4 LL) := W0_45.out.below B12.out (by have y0 := ZZ1.out; have y1 := ZZ4.out; have y2 := ZZ7.out; have y3 := ZZ11.out; have y4 := ZZ15.out; have y5 := ZZ16.out; have y6 := ZZ19.out; have y7 := ZZ23.out; have y8 := ZZ24.out; have y9 := ZZ26.out; have y10 := ZZ31.out; have y11 := ZZ35.out; have y12 := ZZ36.out; have y13 := ZZ39.out; have y14 := ZZ43.out; have y15 := ZZ45.out; have y16 := ZZ48.out; omega)
    have X0_48 : Hid (BagOwn (w4.alloc (.cells #[.slice a4 n4 cap4] 26)).heap.size w5.heap.size w12 (some ⟨g5, 0, none⟩) l0) := X0_45.out.below B12.out (by have y0 := ZZ1.out; have y1 := ZZ4.out; have y2 := ZZ7.out; have y3 := ZZ11.out; have y4 := ZZ15.out; have y5 := ZZ16.out; have y6 := ZZ19.out; have y7 := ZZ23.out; have y8 := ZZ24.out; have y9 := ZZ26.out; have y10 := ZZ31.out; have y11 := ZZ35.out; have y12 := ZZ36.out; have y13 := ZZ39.out; have y14 := ZZ43.out; have y15 := ZZ45.out; have y16 := ZZ48.out; omega)
    have X1_48 : Hid (RowOwn (w5.alloc (.cells #[.slice (some ⟨g5, 0, none⟩) n0 n0] 26)).heap.size w6.heap.size w12 (some ⟨g6, 0, none⟩) l1) := X1_45.out.below B12.out (by have y0 := ZZ1.out; have y1 := ZZ4.out; have y2 := ZZ7.out; have y3 := ZZ11.out; have y4 := ZZ15.out; have y5 := ZZ16.out; have y6 := ZZ19.out; have y7 := ZZ23.out; have y8 := ZZ24.out; have y9 := ZZ26.out; have y10 := ZZ31.out; have y11 := ZZ35.out; have y12 := ZZ36.out; have y13 := ZZ39.out; have y14 := ZZ43.out; have y15 := ZZ45.out; have y16 := ZZ48.out; omega)
    have G0_48 : Hid (BagOwn w6.heap.size w7.heap.size w12 a7 LL) := G0_45.out.below B12.out (by have y0 := ZZ1.out; have y1 := ZZ4.out; have y2 := ZZ7.out; have y3 := ZZ11.out; have y4 := ZZ15.out; have y5 := ZZ16.out; have y6 := ZZ19.out; have y7 := ZZ23.out; have y8 := ZZ24.out; have y9 := ZZ26.out; have y10 := ZZ31.out; have y11 := ZZ35.out; have y12 := ZZ36.out; have y13 := ZZ39.out; have y14 := ZZ43.out; have y15 := ZZ45.out; have y16 := ZZ48.out; omega)
    have Y1_48 : Hid (RowOwn w10.heap.size w11.heap.size w12 (some ⟨g11, 0, none⟩) l1) := Y1_46.out.below B12.out (by have y0 := ZZ1.out; have y1 := ZZ4.out; have y2 := ZZ7.out; have y3 := ZZ11.out; have y4 := ZZ15.out; have y5 := ZZ16.out; have y6 := ZZ19.out; have y7 := ZZ23.out; have y8 := ZZ24.out; have y9 := ZZ26.out; have y10 := ZZ31.out; have y11 := ZZ35.out; have y12 := ZZ36.out; have y13 := ZZ39.out; have y14 := ZZ43.out; have y15 := ZZ45.out; have y16 := ZZ48.out; omega)
    clear W0_45 X0_45 X1_45 G0_45 Y1_46
    clear B12
    clear Y1_48
    have q_49 := HD_47.out.cell (b := w5.heap.size) (v := .slice (some ⟨g5, 0, none⟩) n0 n0) (by simp)
    go_wp2_with fail
    refine (markH (w := w) (bx := [(w7.heap.size, .slice a7 n4 cap7), (w5.heap.size, .slice (some ⟨g5, 0, none⟩) n0 n0), (w4.heap.size, .slice a4 n4 cap4), (w.heap.size, .slice a0 n0 cap0)]) (lo := (w4.alloc (.cells #[.slice a4 n4 cap4] 26)).heap.size) (hi := w5.heap.size) (some ⟨g5, 0, none⟩) n0 n0 1 l0 HD_47.out X0_48.out (by have y0 := ZZ1.out; have y1 := ZZ4.out; have y2 := ZZ7.out; have y3 := ZZ11.out; have y4 := ZZ15.out; have y5 := ZZ16.out; have y6 := ZZ19.out; have y7 := ZZ23.out; have y8 := ZZ24.out; have y9 := ZZ26.out; have y10 := ZZ31.out; have y11 := ZZ35.out; have y12 := ZZ36.out; have y13 := ZZ39.out; have y14 := ZZ43.out; have y15 := ZZ45.out; have y16 := ZZ48.out; omega) (by have y0 := ZZ1.out; have y1 := ZZ4.out; have y2 := ZZ7.out; have y3 := ZZ11.out; have y4 := ZZ15.out; have y5 := ZZ16.out; have y6 := ZZ19.out; have y7 := ZZ23.out; have y8 := ZZ24.out; have y9 := ZZ26.out; have y10 := ZZ31.out; have y11 := ZZ35.out; have y12 := ZZ36.out; have y13 := ZZ39.out; have y14 := ZZ43.out; have y15 := ZZ45.out; have y16 := ZZ48.out; omega) (by intro x hx; simp only [List.mem_cons, List.not_mem_nil, or_false] at hx; have y0 := ZZ1.out; have y1 := ZZ4.out; have y2 := ZZ7.out; have y3 := ZZ11.out; have y4 := ZZ15.out; have y5 := ZZ16.out; have y6 := ZZ19.out; have y7 := ZZ23.out; have y8 := ZZ24.out; have y9 := ZZ26.out; have y10 := ZZ31.out; have y11 := ZZ35.out; have y12 := ZZ36.out; have y13 := ZZ39.out; have y14 := ZZ43.out; have y15 := ZZ45.out; have y16 := ZZ48.out; rcases hx with rfl | rfl | rfl | rfl <;> dsimp only <;> omega) HL0.out HM.out.1 HM.out.2.2 (by omega)).mono ?_
    rintro e w13 ⟨m13, rfl, HM13, _, HD_50, K13⟩
    clear q_49
    clear HD_47
    have ZZ51 : Hid (w12.heap.size ≤ w13.heap.size) := K13.out.size
    have W0_51 : Hid (BagIn w3.heap.size w4.heap.size w13 a4 LL) := W0_48.out.kept K13.out (by have y0 := ZZ1.out; have y1 := ZZ4.out; have y2 := ZZ7.out; have y3 := ZZ11.out; have y4 := ZZ15.out; have y5 := ZZ16.out; have y6 := ZZ19.out; have y7 := ZZ23.out; have y8 := ZZ24.out; have y9 := ZZ26.out; have y10 := ZZ31.out; have y11 := ZZ35.out; have y12 := ZZ36.out; have y13 := ZZ39.out; have y14 := ZZ43.out; have y15 := ZZ45.out; have y16 := ZZ48.out; have y17 := ZZ51.out; omega) (fun c h1 h2 h3 => by have y0 := ZZ1.out; have y1 := ZZ4.out; have y2 := ZZ7.out; have y3 := ZZ11.out; have y4 := ZZ15.out; have y5 := ZZ16.out; have y6 := ZZ19.out; have y7 := ZZ23.out; have y8 := ZZ24.out; have y9 := ZZ26.out; have y10 := ZZ31.out; have y11 := ZZ35.out; have y12 := ZZ36.out; have y13 := ZZ39.out; have y14 := ZZ43.out; have y15 := ZZ45.out; have y16 := ZZ48.out; have y17 := ZZ51.out; omega)
    have X1_51 : Hid (RowOwn (w5.alloc (.cells #[.slice (some ⟨g5, 0, none⟩) n0 n0] 26)).heap.size w6.heap.size w13 (some ⟨g6, 0, none⟩) l1) := X1_48.out.kept K13.out (fun c h1 h2 h3 => by have y0 := ZZ1.out; have y1 := ZZ4.out; have y2 := ZZ7.out; have y3 := ZZ11.out; have y4 := ZZ15.out; have y5 := ZZ16.out; have y6 := ZZ19.out; have y7 := ZZ23.out; have y8 := ZZ24.out; have y9 := ZZ26.out; have y10 := ZZ31.out; have y11 := ZZ35.out; have y12 := ZZ36.out; have y13 := ZZ39.out; have y14 := ZZ43.out; have y15 := ZZ45.out; have y16 := ZZ48.out; have y17 := ZZ51.out; omega)
    have G0_51 : Hid (BagOwn w6.heap.size w7.heap.size w13 a7 LL) := G0_48.out.kept K13.out (by have y0 := ZZ1.out; have y1 := ZZ4.out; have y2 := ZZ7.out; have y3 := ZZ11.out; have y4 := ZZ15.out; have y5 := ZZ16.out; have y6 := ZZ19.out; have y7 := ZZ23.out; have y8 := ZZ24.out; have y9 := ZZ26.out; have y10 := ZZ31.out; have y11 := ZZ35.out; have y12 := ZZ36.out; have y13 := ZZ39.out; have y14 := ZZ43.out; have y15 := ZZ45.out; have y16 := ZZ48.out; have y17 := ZZ51.out; omega) (fun c h1 h2 h3 => by have y0 := ZZ1.out; have y1 := ZZ4.out; have y2 := ZZ7.out; have y3 := ZZ11.out; have y4 := ZZ15.out; have y5 := ZZ16.out; have y6 := ZZ19.out; have y7 := ZZ23.out; have y8 := ZZ24.out; have y9 := ZZ26.out; have y10 := ZZ31.out; have y11 := ZZ35.out; have y12 := ZZ36.out; have y13 := ZZ39.out; have y14 := ZZ43.out; have y15 := ZZ45.out; have y16 := ZZ48.out; have y17 := ZZ51.out; omega)
    clear W0_48 X0_48 X1_48 G0_48
    clear K13
    have hm13 : m13 ≤ 2097153 := by rw [HM13.out]; unfold pos; have := HM.out; omega
    go_wp2_with fail
    refine (markInts_any (fun c => (w5.alloc (.cells #[.slice (some ⟨g5, 0, none⟩) n0 n0] 26)).heap.size ≤ c ∧ c < w6.heap.size) (w5.alloc (.cells #[.slice (some ⟨g5, 0, none⟩) n0 n0] 26)).heap.size w6.heap.size (some ⟨g6, 0, none⟩) n1 n1 m13 l1 _ X1_51.out HL1.out HM1.out (by omega) (fun b hb hne => ?_)).mono ?_
    · rcases X1_51.out with h | ⟨b', e', h1, h2, _⟩
      · exact absurd h hne
      · rw [hb] at e'
        simp only [Option.some.injEq, Addr.mk.injEq] at e'
        obtain ⟨rfl, _⟩ := e'
        exact ⟨h1, h2⟩
    rintro e w14 ⟨rfl, _, k14, _⟩
    have K14 : Hid (KeptP (fun c => (w5.alloc (.cells #[.slice (some ⟨g5, 0, none⟩) n0 n0] 26)).heap.size ≤ c ∧ c < w6.heap.size) w13 w14) := k14
    clear k14
    have HD_52 : Hid (Held w w14 [(w7.heap.size, .slice a7 n4 cap7), (w5.heap.size, .slice (some ⟨g5, 0, none⟩) n0 n0), (w4.heap.size, .slice a4 n4 cap4), (w.heap.size, .slice a0 n0 cap0)]) := HD_50.out.kept K14.out (by intro x hx; simp only [List.mem_cons, List.not_mem_nil, or_false] at hx; have y0 := ZZ1.out; have y1 := ZZ4.out; have y2 := ZZ7.out; have y3 := ZZ11.out; have y4 := ZZ15.out; have y5 := ZZ16.out; have y6 := ZZ19.out; have y7 := ZZ23.out; have y8 := ZZ24.out; have y9 := ZZ26.out; have y10 := ZZ31.out; have y11 := ZZ35.out; have y12 := ZZ36.out; have y13 := ZZ39.out; have y14 := ZZ43.out; have y15 := ZZ45.out; have y16 := ZZ48.out; have y17 := ZZ51.out; rcases hx with rfl | rfl | rfl | rfl <;> dsimp only <;> omega) (fun k hk => by have y0 := ZZ1.out; have y1 := ZZ4.out; have y2 := ZZ7.out; have y3 := ZZ11.out; have y4 := ZZ15.out; have y5 := ZZ16.out; have y6 := ZZ19.out; have y7 := ZZ23.out; have y8 := ZZ24.out; have y9 := ZZ26.out; have y10 := ZZ31.out; have y11 := ZZ35.out; have y12 := ZZ36.out; have y13 := ZZ39.out; have y14 := ZZ43.out; have y15 := ZZ45.out; have y16 := ZZ48.out; have y17 := ZZ51.out; omega)
    clear HD_50
    have ZZ53 : Hid (w13.heap.size ≤ w14.heap.size) := K14.out.size
    have W0_53 : Hid (BagIn w3.heap.size w4.heap.size w14 a4 LL) := W0_51.out.kept K14.out (by have y0 := ZZ1.out; have y1 := ZZ4.out; have y2 := ZZ7.out; have y3 := ZZ11.out; have y4 := ZZ15.out; have y5 := ZZ16.out; have y6 := ZZ19.out; have y7 := ZZ23.out; have y8 := ZZ24.out; have y9 := ZZ26.out; have y10 := ZZ31.out; have y11 := ZZ35.out; have y12 := ZZ36.out; have y13 := ZZ39.out; have y14 := ZZ43.out; have y15 := ZZ45.out; have y16 := ZZ48.out; have y17 := ZZ51.out; have y18 := ZZ53.out; omega) (fun c h1 h2 h3 => by have y0 := ZZ1.out; have y1 := ZZ4.out; have y2 := ZZ7.out; have y3 := ZZ11.out; have y4 := ZZ15.out; have y5 := ZZ16.out; have y6 := ZZ19.out; have y7 := ZZ23.out; have y8 := ZZ24.out; have y9 := ZZ26.out; have y10 := ZZ31.out; have y11 := ZZ35.out; have y12 := ZZ36.out; have y13 := ZZ39.out; have y14 := ZZ43.out; have y15 := ZZ45.out; have y16 := ZZ48.out; have y17 := ZZ51.out; have y18 := ZZ53.out; omega)
    have G0_53 : Hid (BagOwn w6.heap.size w7.heap.size w14 a7 LL) := G0_51.out.kept K14.out (by have y0 := ZZ1.out; have y1 := ZZ4.out; have y2 := ZZ7.out; have y3 := ZZ11.out; have y4 := ZZ15.out; have y5 := ZZ16.out; have y6 := ZZ19.out; have y7 := ZZ23.out; have y8 := ZZ24.out; have y9 := ZZ26.out; have y10 := ZZ31.out; have y11 := ZZ35.out; have y12 := ZZ36.out; have y13 := ZZ39.out; have y14 := ZZ43.out; have y15 := ZZ45.out; have y16 := ZZ48.out; have y17 := ZZ51.out; have y18 := ZZ53.out; omega) (fun c h1 h2 h3 => by have y0 := ZZ1.out; have y1 := ZZ4.out; have y2 := ZZ7.out; have y3 := ZZ11.out; have y4 := ZZ15.out; have y5 := ZZ16.out; have y6 := ZZ19.out; have y7 := ZZ23.out; have y8 := ZZ24.out; have y9 := ZZ26.out; have y10 := ZZ31.out; have y11 := ZZ35.out; have y12 := ZZ36.out; have y13 := ZZ39.out; have y14 := ZZ43.out; have y15 := ZZ45.out; have y16 := ZZ48.out; have y17 := ZZ51.out; have y18 := ZZ53.out; omega)
    clear W0_51 X1_51 G0_51
    clear K14
    have hm14 : ¬ (((m13 + n1 : Nat) : Int) < 0) := by omega
    have q_54 := HD_52.out.cell (b := w7.heap.size) (v := .slice a7 n4 cap7) (by simp)
    have q_55 := HD_52.out.cell (b := w4.heap.size) (v := .slice a4 n4 cap4) (by simp)
    go_wp2_with fail
    refine (eqH (w := w) (bx := [(w7.heap.size, .slice a7 n4 cap7), (w5.heap.size, .slice (some ⟨g5, 0, none⟩) n0 n0), (w4.heap.size, .slice a4 n4 cap4), (w.heap.size, .slice a0 n0 cap0)]) (lo := w6.heap.size) (hi := w7.heap.size) (lo' := w3.heap.size) (hi' := w4.heap.size) a7 a4 n4 cap7 cap4 LL HD_52.out G0_53.out.toIn W0_53.out (by have y0 := ZZ1.out; have y1 := ZZ4.out; have y2 := ZZ7.out; have y3 := ZZ11.out; have y4 := ZZ15.out; have y5 := ZZ16.out; have y6 := ZZ19.out; have y7 := ZZ23.out; have y8 := ZZ24.out; have y9 := ZZ26.out; have y10 := ZZ31.out; have y11 := ZZ35.out; have y12 := ZZ36.out; have y13 := ZZ39.out; have y14 := ZZ43.out; have y15 := ZZ45.out; have y16 := ZZ48.out; have y17 := ZZ51.out; have y18 := ZZ53.out; omega) (by have y0 := ZZ1.out; have y1 := ZZ4.out; have y2 := ZZ7.out; have y3 := ZZ11.out; have y4 := ZZ15.out; have y5 := ZZ16.out; have y6 := ZZ19.out; have y7 := ZZ23.out; have y8 := ZZ24.out; have y9 := ZZ26.out; have y10 := ZZ31.out; have y11 := ZZ35.out; have y12 := ZZ36.out; have y13 := ZZ39.out; have y14 := ZZ43.out; have y15 := ZZ45.out; have y16 := ZZ48.out; have y17 := ZZ51.out; have y18 := ZZ53.out; omega) HN4.out HE.out.1 HE.out.2.1).mono ?_
    rintro e w15 ⟨rfl, HD_56, B_56⟩
    clear q_54 q_55
    clear HD_52
    have ZZ57 : Hid (w14.heap.size ≤ w15.heap.size) := B_56.out.size
    have W0_57 : Hid (BagIn w3.heap.size w4.heap.size w15 a4 LL) := W0_53.out.below B_56.out (by have y0 := ZZ1.out; have y1 := ZZ4.out; have y2 := ZZ7.out; have y3 := ZZ11.out; have y4 := ZZ15.out; have y5 := ZZ16.out; have y6 := ZZ19.out; have y7 := ZZ23.out; have y8 := ZZ24.out; have y9 := ZZ26.out; have y10 := ZZ31.out; have y11 := ZZ35.out; have y12 := ZZ36.out; have y13 := ZZ39.out; have y14 := ZZ43.out; have y15 := ZZ45.out; have y16 := ZZ48.out; have y17 := ZZ51.out; have y18 := ZZ53.out; have y19 := ZZ57.out; omega)
    have G0_57 : Hid (BagOwn w6.heap.size w7.heap.size w15 a7 LL) := G0_53.out.below B_56.out (by have y0 := ZZ1.out; have y1 := ZZ4.out; have y2 := ZZ7.out; have y3 := ZZ11.out; have y4 := ZZ15.out; have y5 := ZZ16.out; have y6 := ZZ19.out; have y7 := ZZ23.out; have y8 := ZZ24.out; have y9 := ZZ26.out; have y10 := ZZ31.out; have y11 := ZZ35.out; have y12 := ZZ36.out; have y13 := ZZ39.out; have y14 := ZZ43.out; have y15 := ZZ45.out; have y16 := ZZ48.out; have y17 := ZZ51.out; have y18 := ZZ53.out; have y19 := ZZ57.out; omega)
    clear W0_53 G0_53
    clear B_56
    have q_58 := HD_56.out.cell (b := w7.heap.size) (v := .slice a7 n4 cap7) (by simp)
    go_wp2_with fail
    refine (markH (w := w) (bx := [(w7.heap.size, .slice a7 n4 cap7), (w5.heap.size, .slice (some ⟨g5, 0, none⟩) n0 n0), (w4.heap.size, .slice a4 n4 cap4), (w.heap.size, .slice a0 n0 cap0)]) (lo := w6.heap.size) (hi := w7.heap.size) a7 n4 cap7 1 LL HD_56.out G0_57.out (by have y0 := ZZ1.out; have y1 := ZZ4.out; have y2 := ZZ7.out; have y3 := ZZ11.out; have y4 := ZZ15.out; have y5 := ZZ16.out; have y6 := ZZ19.out; have y7 := ZZ23.out; have y8 := ZZ24.out; have y9 := ZZ26.out; have y10 := ZZ31.out; have y11 := ZZ35.out; have y12 := ZZ36.out; have y13 := ZZ39.out; have y14 := ZZ43.out; have y15 := ZZ45.out; have y16 := ZZ48.out; have y17 := ZZ51.out; have y18 := ZZ53.out; have y19 := ZZ57.out; omega) (by have y0 := ZZ1.out; have y1 := ZZ4.out; have y2 := ZZ7.out; have y3 := ZZ11.out; have y4 := ZZ15.out; have y5 := ZZ16.out; have y6 := ZZ19.out; have y7 := ZZ23.out; have y8 := ZZ24.out; have y9 := ZZ26.out; have y10 := ZZ31.out; have y11 := ZZ35.out; have y12 := ZZ36.out; have y13 := ZZ39.out; have y14 := ZZ43.out; have y15 := ZZ45.out; have y16 := ZZ48.out; have y17 := ZZ51.out; have y18 := ZZ53.out; have y19 := ZZ57.out; omega) (by intro x hx; simp only [List.mem_cons, List.not_mem_nil, or_false] at hx; have y0 := ZZ1.out; have y1 := ZZ4.out; have y2 := ZZ7.out; have y3 := ZZ11.out; have y4 := ZZ15.out; have y5 := ZZ16.out; have y6 := ZZ19.out; have y7 := ZZ23.out; have y8 := ZZ24.out; have y9 := ZZ26.out; have y10 := ZZ31.out; have y11 := ZZ35.out; have y12 := ZZ36.out; have y13 := ZZ39.out; have y14 := ZZ43.out; have y15 := ZZ45.out; have y16 := ZZ48.out; have y17 := ZZ51.out; have y18 := ZZ53.out; have y19 := ZZ57.out; rcases hx with rfl | rfl | rfl | rfl <;> dsimp only <;> omega) HN4.out HE.out.1 HE.out.2.2 (by omega)).mono ?_
    rintro e w16 ⟨m16, rfl, HM16, X16, HD_59, K16⟩
    clear q_58
    clear HD_56
    have ZZ60 : Hid (w15.heap.size ≤ w16.heap.size) := K16.out.size
    have W0_60 : Hid (BagIn w3.heap.size w4.heap.size w16 a4 LL) := W0_57.out.kept K16.out (by have y0 := ZZ1.out; have y1 := ZZ4.out; have y2 := ZZ7.out; have y3 := ZZ11.out; have y4 := ZZ15.out; have y5 := ZZ16.out; have y6 := ZZ19.out; have y7 := ZZ23.out; have y8 := ZZ24.out; have y9 := ZZ26.out; have y10 := ZZ31.out; have y11 := ZZ35.out; have y12 := ZZ36.out; have y13 := ZZ39.out; have y14 := ZZ43.out; have y15 := ZZ45.out; have y16 := ZZ48.out; have y17 := ZZ51.out; have y18 := ZZ53.out; have y19 := ZZ57.out; have y20 := ZZ60.out; omega) (fun c h1 h2 h3 => by have y0 := ZZ1.out; have y1 := ZZ4.out; have y2 := ZZ7.out; have y3 := ZZ11.out; have y4 := ZZ15.out; have y5 := ZZ16.out; have y6 := ZZ19.out; have y7 := ZZ23.out; have y8 := ZZ24.out; have y9 := ZZ26.out; have y10 := ZZ31.out; have y11 := ZZ35.out; have y12 := ZZ36.out; have y13 := ZZ39.out; have y14 := ZZ43.out; have y15 := ZZ45.out; have y16 := ZZ48.out; have y17 := ZZ51.out; have y18 := ZZ53.out; have y19 := ZZ57.out; have y20 := ZZ60.out; omega)
    clear W0_57 G0_57
    clear K16
    have G0_61 : Hid (BagOwn w6.heap.size w7.heap.size w16 a7 (mkTo 1 LL n4)) := X16.out
    clear X16
    have q_62 := HD_59.out.cell (b := w7.heap.size) (v := .slice a7 n4 cap7) (by simp)
    go_wp2_with fail
    refine (heldH (w := w) (bx := [(w7.heap.size, .slice a7 n4 cap7), (w5.heap.size, .slice (some ⟨g5, 0, none⟩) n0 n0), (w4.heap.size, .slice a4 n4 cap4), (w.heap.size, .slice a0 n0 cap0)]) (lo := w6.heap.size) (hi := w7.heap.size) a7 n4 cap7 1 LL HD_59.out G0_61.out (by have y0 := ZZ1.out; have y1 := ZZ4.out; have y2 := ZZ7.out; have y3 := ZZ11.out; have y4 := ZZ15.out; have y5 := ZZ16.out; have y6 := ZZ19.out; have y7 := ZZ23.out; have y8 := ZZ24.out; have y9 := ZZ26.out; have y10 := ZZ31.out; have y11 := ZZ35.out; have y12 := ZZ36.out; have y13 := ZZ39.out; have y14 := ZZ43.out; have y15 := ZZ45.out; have y16 := ZZ48.out; have y17 := ZZ51.out; have y18 := ZZ53.out; have y19 := ZZ57.out; have y20 := ZZ60.out; omega) HN4.out HE.out.1 HE.out.2.2 (by omega)).mono ?_
    rintro e w17 ⟨m17, rfl, HM_63, _, HD_63, B_63⟩
    clear q_62
    clear HD_59
    have ZZ64 : Hid (w16.heap.size ≤ w17.heap.size) := B_63.out.size
    have W0_64 : Hid (BagIn w3.heap.size w4.heap.size w17 a4 LL) := W0_60.out.below B_63.out (by have y0 := ZZ1.out; have y1 := ZZ4.out; have y2 := ZZ7.out; have y3 := ZZ11.out; have y4 := ZZ15.out; have y5 := ZZ16.out; have y6 := ZZ19.out; have y7 := ZZ23.out; have y8 := ZZ24.out; have y9 := ZZ26.out; have y10 := ZZ31.out; have y11 := ZZ35.out; have y12 := ZZ36.out; have y13 := ZZ39.out; have y14 := ZZ43.out; have y15 := ZZ45.out; have y16 := ZZ48.out; have y17 := ZZ51.out; have y18 := ZZ53.out; have y19 := ZZ57.out; have y20 := ZZ60.out; have y21 := ZZ64.out; omega)
    have G0_64 : Hid (BagOwn w6.heap.size w7.heap.size w17 a7 (mkTo 1 LL n4)) := G0_61.out.below B_63.out (by have y0 := ZZ1.out; have y1 := ZZ4.out; have y2 := ZZ7.out; have y3 := ZZ11.out; have y4 := ZZ15.out; have y5 := ZZ16.out; have y6 := ZZ19.out; have y7 := ZZ23.out; have y8 := ZZ24.out; have y9 := ZZ26.out; have y10 := ZZ31.out; have y11 := ZZ35.out; have y12 := ZZ36.out; have y13 := ZZ39.out; have y14 := ZZ43.out; have y15 := ZZ45.out; have y16 := ZZ48.out; have y17 := ZZ51.out; have y18 := ZZ53.out; have y19 := ZZ57.out; have y20 := ZZ60.out; have y21 := ZZ64.out; omega)
    clear W0_60 G0_61
    clear B_63
    obtain rfl : m16 = m17 := by rw [HM_63.out, HM16.out]
    clear HM_63
    have hm_63 : ¬ ((m16 : Nat) : Int) < 0 := by omega
    have q_65 := HD_63.out.cell (b := w.heap.size) (v := .slice a0 n0 cap0) (by simp)
    go_wp2_with fail
    refine (toB a0 n0 cap0 l0 HR0.out HD_63.out HL0.out HM.out.1 HM.out.2.1).mono ?_
    rintro e w18 ⟨g18, rfl, X_66, HD_66, B_66⟩
    clear q_65
    clear HD_63
    have ZZ67 : Hid (w17.heap.size ≤ w18.heap.size) := B_66.out.size
    have W0_67 : Hid (BagIn w3.heap.size w4.heap.size w18 a4 LL) := W0_64.out.below B_66.out (by have y0 := ZZ1.out; have y1 := ZZ4.out; have y2 := ZZ7.out; have y3 := ZZ11.out; have y4 := ZZ15.out; have y5 := ZZ16.out; have y6 := ZZ19.out; have y7 := ZZ23.out; have y8 := ZZ24.out; have y9 := ZZ26.out; have y10 := ZZ31.out; have y11 := ZZ35.out; have y12 := ZZ36.out; have y13 := ZZ39.out; have y14 := ZZ43.out; have y15 := ZZ45.out; have y16 := ZZ48.out; have y17 := ZZ51.out; have y18 := ZZ53.out; have y19 := ZZ57.out; have y20 := ZZ60.out; have y21 := ZZ64.out; have y22 := ZZ67.out; omega)
    have G0_67 : Hid (BagOwn w6.heap.size w7.heap.size w18 a7 (mkTo 1 LL n4)) := G0_64.out.below B_66.out (by have y0 := ZZ1.out; have y1 := ZZ4.out; have y2 := ZZ7.out; have y3 := ZZ11.out; have y4 := ZZ15.out; have y5 := ZZ16.out; have y6 := ZZ19.out; have y7 := ZZ23.out; have y8 := ZZ24.out; have y9 := ZZ26.out; have y10 := ZZ31.out; have y11 := ZZ35.out; have y12 := ZZ36.out; have y13 := ZZ39.out; have y14 := ZZ43.out; have y15 := ZZ45.out; have y16 := ZZ48.out; have y17 := ZZ51.out; have y18 := ZZ53.out; have y19 := ZZ57.out; have y20 := ZZ60.out; have y21 := ZZ64.out; have y22 := ZZ67.out; omega)
    clear W0_64 G0_64
    have T2_68 : Hid (BagOwn w17.heap.size w18.heap.size w18 (some ⟨g18, 0, none⟩) l0) := X_66.out
    clear X_66 B_66
    go_wp2_with fail
    refine (toIH a1 n1 cap1 l1 HR1.out HD_66.out HL1.out HM1.out).mono ?_
    rintro e w19 ⟨g19, rfl, X_69, HD_69, B_69⟩
    clear HD_66
    have ZZ70 : Hid (w18.heap.size ≤ w19.heap.size) := B_69.out.size
    have W0_70 : Hid (BagIn w3.heap.size w4.heap.size w19 a4 LL) := W0_67.out.below B_69.out (by have y0 := ZZ1.out; have y1 := ZZ4.out; have y2 := ZZ7.out; have y3 := ZZ11.out; have y4 := ZZ15.out; have y5 := ZZ16.out; have y6 := ZZ19.out; have y7 := ZZ23.out; have y8 := ZZ24.out; have y9 := ZZ26.out; have y10 := ZZ31.out; have y11 := ZZ35.out; have y12 := ZZ36.out; have y13 := ZZ39.out; have y14 := ZZ43.out; have y15 := ZZ45.out; have y16 := ZZ48.out; have y17 := ZZ51.out; have y18 := ZZ53.out; have y19 := ZZ57.out; have y20 := ZZ60.out; have y21 := ZZ64.out; have y22 := ZZ67.out; have y23 := ZZ70.out; omega)
    have G0_70 : Hid (BagOwn w6.heap.size w7.heap.size w19 a7 (mkTo 1 LL n4)) := G0_67.out.below B_69.out (by have y0 := ZZ1.out; have y1 := ZZ4.out; have y2 := ZZ7.out; have y3 := ZZ11.out; have y4 := ZZ15.out; have y5 := ZZ16.out; have y6 := ZZ19.out; have y7 := ZZ23.out; have y8 := ZZ24.out; have y9 := ZZ26.out; have y10 := ZZ31.out; have y11 := ZZ35.out; have y12 := ZZ36.out; have y13 := ZZ39.out; have y14 := ZZ43.out; have y15 := ZZ45.out; have y16 := ZZ48.out; have y17 := ZZ51.out; have y18 := ZZ53.out; have y19 := ZZ57.out; have y20 := ZZ60.out; have y21 := ZZ64.out; have y22 := ZZ67.out; have y23 := ZZ70.out; omega)
    have T2_70 : Hid (BagOwn w17.heap.size w18.heap.size w19 (some ⟨g18, 0, none⟩) l0) := T2_68.out.below B_69.out (by have y0 := ZZ1.out; have y1 := ZZ4.out; have y2 := ZZ7.out; have y3 := ZZ11.out; have y4 := ZZ15.out; have y5 := ZZ16.out; have y6 := ZZ19.out; have y7 := ZZ23.out; have y8 := ZZ24.out; have y9 := ZZ26.out; have y10 := ZZ31.out; have y11 := ZZ35.out; have y12 := ZZ36.out; have y13 := ZZ39.out; have y14 := ZZ43.out; have y15 := ZZ45.out; have y16 := ZZ48.out; have y17 := ZZ51.out; have y18 := ZZ53.out; have y19 := ZZ57.out; have y20 := ZZ60.out; have y21 := ZZ64.out; have y22 := ZZ67.out; have y23 := ZZ70.out; omega)
    clear W0_67 G0_67 T2_68
    have R2_71 : Hid (RowOwn w18.heap.size w19.heap.size w19 (some ⟨g19, 0, none⟩) l1) := X_69.out
    clear X_69 B_69
    go_wp2_with fail
    refine (bagAdd_any w17.heap.size w18.heap.size w18.heap.size w19.heap.size (some ⟨g18, 0, none⟩) (some ⟨g19, 0, none⟩) n0 n0 n1 n1 l0 l1 z2 _ T2_70.out.toIn R2_71.out.toIn (by have y0 := ZZ1.out; have y1 := ZZ4.out; have y2 := ZZ7.out; have y3 := ZZ11.out; have y4 := ZZ15.out; have y5 := ZZ16.out; have y6 := ZZ19.out; have y7 := ZZ23.out; have y8 := ZZ24.out; have y9 := ZZ26.out; have y10 := ZZ31.out; have y11 := ZZ35.out; have y12 := ZZ36.out; have y13 := ZZ39.out; have y14 := ZZ43.out; have y15 := ZZ45.out; have y16 := ZZ48.out; have y17 := ZZ51.out; have y18 := ZZ53.out; have y19 := ZZ57.out; have y20 := ZZ60.out; have y21 := ZZ64.out; have y22 := ZZ67.out; have y23 := ZZ70.out; omega) (by have y0 := ZZ1.out; have y1 := ZZ4.out; have y2 := ZZ7.out; have y3 := ZZ11.out; have y4 := ZZ15.out; have y5 := ZZ16.out; have y6 := ZZ19.out; have y7 := ZZ23.out; have y8 := ZZ24.out; have y9 := ZZ26.out; have y10 := ZZ31.out; have y11 := ZZ35.out; have y12 := ZZ36.out; have y13 := ZZ39.out; have y14 := ZZ43.out; have y15 := ZZ45.out; have y16 := ZZ48.out; have y17 := ZZ51.out; have y18 := ZZ53.out; have y19 := ZZ57.out; have y20 := ZZ60.out; have y21 := ZZ64.out; have y22 := ZZ67.out; have y23 := ZZ70.out; omega) HL0.out HL1.out HM.out.1 HM1.out HM.out.2.1).mono ?_
    rintro e w20 ⟨a20, n20, cap20, ok20, rfl, HOK_72, HN_72, X_72, B_72⟩
    rw [← HLL.out] at HN_72 X_72
    have HD_73 : Hid (Held w w20 [(w7.heap.size, .slice a7 n4 cap7), (w5.heap.size, .slice (some ⟨g5, 0, none⟩) n0 n0), (w4.heap.size, .slice a4 n4 cap4), (w.heap.size, .slice a0 n0 cap0)]) := HD_69.out.below B_72.out
    clear HD_69
    have ZZ74 : Hid (w19.heap.size ≤ w20.heap.size) := B_72.out.size
    have W0_74 : Hid (BagIn w3.heap.size w4.heap.size w20 a4 LL) := W0_70.out.below B_72.out (by have y0 := ZZ1.out; have y1 := ZZ4.out; have y2 := ZZ7.out; have y3 := ZZ11.out; have y4 := ZZ15.out; have y5 := ZZ16.out; have y6 := ZZ19.out; have y7 := ZZ23.out; have y8 := ZZ24.out; have y9 := ZZ26.out; have y10 := ZZ31.out; have y11 := ZZ35.out; have y12 := ZZ36.out; have y13 := ZZ39.out; have y14 := ZZ43.out; have y15 := ZZ45.out; have y16 := ZZ48.out; have y17 := ZZ51.out; have y18 := ZZ53.out; have y19 := ZZ57.out; have y20 := ZZ60.out; have y21 := ZZ64.out; have y22 := ZZ67.out; have y23 := ZZ70.out; have y24 := ZZ74.out; omega)
    have G0_74 : Hid (BagOwn w6.heap.size w7.heap.size w20 a7 (mkTo 1 LL n4)) := G0_70.out.below B_72.out (by have y0 := ZZ1.out; have y1 := ZZ4.out; have y2 := ZZ7.out; have y3 := ZZ11.out; have y4 := ZZ15.out; have y5 := ZZ16.out; have y6 := ZZ19.out; have y7 := ZZ23.out; have y8 := ZZ24.out; have y9 := ZZ26.out; have y10 := ZZ31.out; have y11 := ZZ35.out; have y12 := ZZ36.out; have y13 := ZZ39.out; have y14 := ZZ43.out; have y15 := ZZ45.out; have y16 := ZZ48.out; have y17 := ZZ51.out; have y18 := ZZ53.out; have y19 := ZZ57.out; have y20 := ZZ60.out; have y21 := ZZ64.out; have y22 := ZZ67.out; have y23 := ZZ70.out; have y24 := ZZ74.out; omega)
    have T2_74 : Hid (BagOwn w17.heap.size w18.heap.size w20 (some ⟨g18, 0, none⟩) l0) := T2_70.out.below B_72.out (by have y0 := ZZ1.out; have y1 := ZZ4.out; have y2 := ZZ7.out; have y3 := ZZ11.out; have y4 := ZZ15.out; have y5 := ZZ16.out; have y6 := ZZ19.out; have y7 := ZZ23.out; have y8 := ZZ24.out; have y9 := ZZ26.out; have y10 := ZZ31.out; have y11 := ZZ35.out; have y12 := ZZ36.out; have y13 := ZZ39.out; have y14 := ZZ43.out; have y15 := ZZ45.out; have y16 := ZZ48.out; have y17 := ZZ51.out; have y18 := ZZ53.out; have y19 := ZZ57.out; have y20 := ZZ60.out; have y21 := ZZ64.out; have y22 := ZZ67.out; have y23 := ZZ70.out; have y24 := ZZ74.out; omega)
    have R2_74 : Hid (RowOwn w18.heap.size w19.heap.size w20 (some ⟨g19, 0, none⟩) l1) := R2_71.out.below B_72.out (by have y0 := ZZ1.out; have y1 := ZZ4.out; have y2 := ZZ7.out; have y3 := ZZ11.out; have y4 := ZZ15.out; have y5 := ZZ16.out; have y6 := ZZ19.out; have y7 := ZZ23.out; have y8 := ZZ24.out; have y9 := ZZ26.out; have y10 := ZZ31.out; have y11 := ZZ35.out; have y12 := ZZ36.out; have y13 := ZZ39.out; have y14 := ZZ43.out; have y15 := ZZ45.out; have y16 := ZZ48.out; have y17 := ZZ51.out; have y18 := ZZ53.out; have y19 := ZZ57.out; have y20 := ZZ60.out; have y21 := ZZ64.out; have y22 := ZZ67.out; have y23 := ZZ70.out; have y24 := ZZ74.out; omega)
    clear W0_70 G0_70 T2_70 R2_71
    have H0_75 : Hid (BagOwn w19.heap.size w20.heap.size w20 a20 LL) := X_72.out
    clear X_72 B_72
    obtain rfl : n4 = n20 := by rw [← HN_72.out, HN4.out]
    obtain rfl : ok4 = ok20 := by rw [HOK_72.out, HOK4.out]
    clear HN_72 HOK_72
    clear T2_74
    clear R2_74
    have BA_76 : Hid (Below w20.heap.size w20 (w20.alloc (.cells #[.slice a20 n4 cap20] 26))) := below1' w20 _
    have HD_77 : Hid (Held w (w20.alloc (.cells #[.slice a20 n4 cap20] 26)) [(w20.heap.size, .slice a20 n4 cap20), (w7.heap.size, .slice a7 n4 cap7), (w5.heap.size, .slice (some ⟨g5, 0, none⟩) n0 n0), (w4.heap.size, .slice a4 n4 cap4), (w.heap.size, .slice a0 n0 cap0)]) := HD_73.out.more _ _
    clear HD_73
    have ZZ78 : Hid ((w20.alloc (.cells #[.slice a20 n4 cap20] 26)).heap.size = w20.heap.size + 1) := by show _ = _; simp
    have ZZ79 : Hid (w20.heap.size ≤ (w20.alloc (.cells #[.slice a20 n4 cap20] 26)).heap.size) := BA_76.out.size
    have W0_79 : Hid (BagIn w3.heap.size w4.heap.size (w20.alloc (.cells #[.slice a20 n4 cap20] 26)) a4 LL) := W0_74.out.below BA_76.out (by have y0 := ZZ1.out; have y1 := ZZ4.out; have y2 := ZZ7.out; have y3 := ZZ11.out; have y4 := ZZ15.out; have y5 := ZZ16.out; have y6 := ZZ19.out; have y7 := ZZ23.out; have y8 := ZZ24.out; have y9 := ZZ26.out; have y10 := ZZ31.out; have y11 := ZZ35.out; have y12 := ZZ36.out; have y13 := ZZ39.out; have y14 := ZZ43.out; have y15 := ZZ45.out; have y16 := ZZ48.out; have y17 := ZZ51.out; have y18 := ZZ53.out; have y19 := ZZ57.out; have y20 := ZZ60.out; have y21 := ZZ64.out; have y22 := ZZ67.out; have y23 := ZZ70.out; have y24 := ZZ74.out; have y25 := ZZ78.out; have y26 := ZZ79.out; omega)
    have G0_79 : Hid (BagOwn w6.heap.size w7.heap.size (w20.alloc (.cells #[.slice a20 n4 cap20] 26)) a7 (mkTo 1 LL n4)) := G0_74.out.below BA_76.out (by have y0 := ZZ1.out; have y1 := ZZ4.out; have y2 := ZZ7.out; have y3 := ZZ11.out; have y4 := ZZ15.out; have y5 := ZZ16.out; have y6 := ZZ19.out; have y7 := ZZ23.out; have y8 := ZZ24.out; have y9 := ZZ26.out; have y10 := ZZ31.out; have y11 := ZZ35.out; have y12 := ZZ36.out; have y13 := ZZ39.out; have y14 := ZZ43.out; have y15 := ZZ45.out; have y16 := ZZ48.out; have y17 := ZZ51.out; have y18 := ZZ53.out; have y19 := ZZ57.out; have y20 := ZZ60.out; have y21 := ZZ64.out; have y22 := ZZ67.out; have y23 := ZZ70.out; have y24 := ZZ74.out; have y25 := ZZ78.out; have y26 := ZZ79.out; omega)
    have H0_79 : Hid (BagOwn w19.heap.size w20.heap.size (w20.alloc (.cells #[.slice a20 n4 cap20] 26)) a20 LL) := H0_75.out.below BA_76.out (by have y0 := ZZ1.out; have y1 := ZZ4.out; have y2 := ZZ7.out; have y3 := ZZ11.out; have y4 := ZZ15.out; have y5 := ZZ16.out; have y6 := ZZ19.out; have y7 := ZZ23.out; have y8 := ZZ24.out; have y9 := ZZ26.out; have y10 := ZZ31.out; have y11 := ZZ35.out; have y12 := ZZ36.out; have y13 := ZZ39.out; have y14 := ZZ43.out; have y15 := ZZ45.out; have y16 := ZZ48.out; have y17 := ZZ51.out; have y18 := ZZ53.out; have y19 := ZZ57.out; have y20 := ZZ60.out; have y21 := ZZ64.out; have y22 := ZZ67.out; have y23 := ZZ70.out; have y24 := ZZ74.out; have y25 := ZZ78.out; have y26 := ZZ79.out; omega)
    clear W0_74 G0_74 H0_75
    clear BA_76
    have q_80 := HD_77.out.cell (b := w4.heap.size) (v := .slice a4 n4 cap4) (by simp)
    go_wp2_with fail
    refine (eqH (w := w) (bx := [(w20.heap.size, .slice a20 n4 cap20), (w7.heap.size, .slice a7 n4 cap7), (w5.heap.size, .slice (some ⟨g5, 0, none⟩) n0 n0), (w4.heap.size, .slice a4 n4 cap4), (w.heap.size, .slice a0 n0 cap0)]) (lo := w19.heap.size) (hi := w20.heap.size) (lo' := w3.heap.size) (hi' := w4.heap.size) a20 a4 n4 cap20 cap4 LL HD_77.out H0_79.out.toIn W0_79.out (by have y0 := ZZ1.out; have y1 := ZZ4.out; have y2 := ZZ7.out; have y3 := ZZ11.out; have y4 := ZZ15.out; have y5 := ZZ16.out; have y6 := ZZ19.out; have y7 := ZZ23.out; have y8 := ZZ24.out; have y9 := ZZ26.out; have y10 := ZZ31.out; have y11 := ZZ35.out; have y12 := ZZ36.out; have y13 := ZZ39.out; have y14 := ZZ43.out; have y15 := ZZ45.out; have y16 := ZZ48.out; have y17 := ZZ51.out; have y18 := ZZ53.out; have y19 := ZZ57.out; have y20 := ZZ60.out; have y21 := ZZ64.out; have y22 := ZZ67.out; have y23 := ZZ70.out; have y24 := ZZ74.out; have y25 := ZZ78.out; have y26 := ZZ79.out; omega) (by have y0 := ZZ1.out; have y1 := ZZ4.out; have y2 := ZZ7.out; have y3 := ZZ11.out; have y4 := ZZ15.out; have y5 := ZZ16.out; have y6 := ZZ19.out; have y7 := ZZ23.out; have y8 := ZZ24.out; have y9 := ZZ26.out; have y10 := ZZ31.out; have y11 := ZZ35.out; have y12 := ZZ36.out; have y13 := ZZ39.out; have y14 := ZZ43.out; have y15 := ZZ45.out; have y16 := ZZ48.out; have y17 := ZZ51.out; have y18 := ZZ53.out; have y19 := ZZ57.out; have y20 := ZZ60.out; have y21 := ZZ64.out; have y22 := ZZ67.out; have y23 := ZZ70.out; have y24 := ZZ74.out; have y25 := ZZ78.out; have y26 := ZZ79.out; omega) HN4.out HE.out.1 HE.out.2.1).mono ?_
    rintro e w21 ⟨rfl, HD_81, B_81⟩
    clear q_80
    clear HD_77
    have ZZ82 : Hid ((w20.alloc (.cells #[.slice a20 n4 cap20] 26)).heap.size ≤ w21.heap.size) := B_81.out.size
    have W0_82 : Hid (BagIn w3.heap.size w4.heap.size w21 a4 LL) := W0_79.out.below B_81.out (by have y0 := ZZ1.out; have y1 := ZZ4.out; have y2 := ZZ7.out; have y3 := ZZ11.out; have y4 := ZZ15.out; have y5 := ZZ16.out; have y6 := ZZ19.out; have y7 := ZZ23.out; have y8 := ZZ24.out; have y9 := ZZ26.out; have y10 := ZZ31.out; have y11 := ZZ35.out; have y12 := ZZ36.out; have y13 := ZZ39.out; have y14 := ZZ43.out; have y15 := ZZ45.out; have y16 := ZZ48.out; have y17 := ZZ51.out; have y18 := ZZ53.out; have y19 := ZZ57.out; have y20 := ZZ60.out; have y21 := ZZ64.out; have y22 := ZZ67.out; have y23 := ZZ70.out; have y24 := ZZ74.out; have y25 := ZZ78.out; have y26 := ZZ79.out; have y27 := ZZ82.out; omega)
    have G0_82 : Hid (BagOwn w6.heap.size w7.heap.size w21 a7 (mkTo 1 LL n4)) := G0_79.out.below B_81.out (by have y0 := ZZ1.out; have y1 := ZZ4.out; have y2 := ZZ7.out; have y3 := ZZ11.out; have y4 := ZZ15.out; have y5 := ZZ16.out; have y6 := ZZ19.out; have y7 := ZZ23.out; have y8 := ZZ24.out; have y9 := ZZ26.out; have y10 := ZZ31.out; have y11 := ZZ35.out; have y12 := ZZ36.out; have y13 := ZZ39.out; have y14 := ZZ43.out; have y15 := ZZ45.out; have y16 := ZZ48.out; have y17 := ZZ51.out; have y18 := ZZ53.out; have y19 := ZZ57.out; have y20 := ZZ60.out; have y21 := ZZ64.out; have y22 := ZZ67.out; have y23 := ZZ70.out; have y24 := ZZ74.out; have y25 := ZZ78.out; have y26 := ZZ79.out; have y27 := ZZ82.out; omega)
    have H0_82 : Hid (BagOwn w19.heap.size w20.heap.size w21 a20 LL) := H0_79.out.below B_81.out (by have y0 := ZZ1.out; have y1 := ZZ4.out; have y2 := ZZ7.out; have y3 := ZZ11.out; have y4 := ZZ15.out; have y5 := ZZ16.out; have y6 := ZZ19.out; have y7 := ZZ23.out; have y8 := ZZ24.out; have y9 := ZZ26.out; have y10 := ZZ31.out; have y11 := ZZ35.out; have y12 := ZZ36.out; have y13 := ZZ39.out; have y14 := ZZ43.out; have y15 := ZZ45.out; have y16 := ZZ48.out; have y17 := ZZ51.out; have y18 := ZZ53.out; have y19 := ZZ57.out; have y20 := ZZ60.out; have y21 := ZZ64.out; have y22 := ZZ67.out; have y23 := ZZ70.out; have y24 := ZZ74.out; have y25 := ZZ78.out; have y26 := ZZ79.out; have y27 := ZZ82.out; omega)
    clear W0_79 G0_79 H0_79
    clear B_81
    have q_83 := HD_81.out.cell (b := w7.heap.size) (v := .slice a7 n4 cap7) (by simp)
    go_wp2_with fail
    refine (heldH (w := w) (bx := [(w20.heap.size, .slice a20 n4 cap20), (w7.heap.size, .slice a7 n4 cap7), (w5.heap.size, .slice (some ⟨g5, 0, none⟩) n0 n0), (w4.heap.size, .slice a4 n4 cap4), (w.heap.size, .slice a0 n0 cap0)]) (lo := w6.heap.size) (hi := w7.heap.size) a7 n4 cap7 1 LL HD_81.out G0_82.out (by have y0 := ZZ1.out; have y1 := ZZ4.out; have y2 := ZZ7.out; have y3 := ZZ11.out; have y4 := ZZ15.out; have y5 := ZZ16.out; have y6 := ZZ19.out; have y7 := ZZ23.out; have y8 := ZZ24.out; have y9 := ZZ26.out; have y10 := ZZ31.out; have y11 := ZZ35.out; have y12 := ZZ36.out; have y13 := ZZ39.out; have y14 := ZZ43.out; have y15 := ZZ45.out; have y16 := ZZ48.out; have y17 := ZZ51.out; have y18 := ZZ53.out; have y19 := ZZ57.out; have y20 := ZZ60.out; have y21 := ZZ64.out; have y22 := ZZ67.out; have y23 := ZZ70.out; have y24 := ZZ74.out; have y25 := ZZ78.out; have y26 := ZZ79.out; have y27 := ZZ82.out; omega) HN4.out HE.out.1 HE.out.2.2 (by omega)).mono ?_
    rintro e w22 ⟨m22, rfl, HM_84, _, HD_84, B_84⟩
    clear q_83
    clear HD_81
    have ZZ85 : Hid (w21.heap.size ≤ w22.heap.size) := B_84.out.size
    have W0_85 : Hid (BagIn w3.heap.size w4.heap.size w22 a4 LL) := W0_82.out.below B_84.out (by have y0 := ZZ1.out; have y1 := ZZ4.out; have y2 := ZZ7.out; have y3 := ZZ11.out; have y4 := ZZ15.out; have y5 := ZZ16.out; have y6 := ZZ19.out; have y7 := ZZ23.out; have y8 := ZZ24.out; have y9 := ZZ26.out; have y10 := ZZ31.out; have y11 := ZZ35.out; have y12 := ZZ36.out; have y13 := ZZ39.out; have y14 := ZZ43.out; have y15 := ZZ45.out; have y16 := ZZ48.out; have y17 := ZZ51.out; have y18 := ZZ53.out; have y19 := ZZ57.out; have y20 := ZZ60.out; have y21 := ZZ64.out; have y22 := ZZ67.out; have y23 := ZZ70.out; have y24 := ZZ74.out; have y25 := ZZ78.out; have y26 := ZZ79.out; have y27 := ZZ82.out; have y28 := ZZ85.out; omega)
    have G0_85 : Hid (BagOwn w6.heap.size w7.heap.size w22 a7 (mkTo 1 LL n4)) := G0_82.out.below B_84.out (by have y0 := ZZ1.out; have y1 := ZZ4.out; have y2 := ZZ7.out; have y3 := ZZ11.out; have y4 := ZZ15.out; have y5 := ZZ16.out; have y6 := ZZ19.out; have y7 := ZZ23.out; have y8 := ZZ24.out; have y9 := ZZ26.out; have y10 := ZZ31.out; have y11 := ZZ35.out; have y12 := ZZ36.out; have y13 := ZZ39.out; have y14 := ZZ43.out; have y15 := ZZ45.out; have y16 := ZZ48.out; have y17 := ZZ51.out; have y18 := ZZ53.out; have y19 := ZZ57.out; have y20 := ZZ60.out; have y21 := ZZ64.out; have y22 := ZZ67.out; have y23 := ZZ70.out; have y24 := ZZ74.out; have y25 := ZZ78.out; have y26 := ZZ79.out; have y27 := ZZ82.out; have y28 := ZZ85.out; omega)
    have H0_85 : Hid (BagOwn w19.heap.size w20.heap.size w22 a20 LL) := H0_82.out.below B_84.out (by have y0 := ZZ1.out; have y1 := ZZ4.out; have y2 := ZZ7.out; have y3 := ZZ11.out; have y4 := ZZ15.out; have y5 := ZZ16.out; have y6 := ZZ19.out; have y7 := ZZ23.out; have y8 := ZZ24.out; have y9 := ZZ26.out; have y10 := ZZ31.out; have y11 := ZZ35.out; have y12 := ZZ36.out; have y13 := ZZ39.out; have y14 := ZZ43.out; have y15 := ZZ45.out; have y16 := ZZ48.out; have y17 := ZZ51.out; have y18 := ZZ53.out; have y19 := ZZ57.out; have y20 := ZZ60.out; have y21 := ZZ64.out; have y22 := ZZ67.out; have y23 := ZZ70.out; have y24 := ZZ74.out; have y25 := ZZ78.out; have y26 := ZZ79.out; have y27 := ZZ82.out; have y28 := ZZ85.out; omega)
    clear W0_82 G0_82 H0_82
    clear B_84
    obtain rfl : m16 = m22 := by rw [HM_84.out, HM16.out]
    clear HM_84
    have hm_84 : ¬ ((m16 : Nat) : Int) < 0 := by omega
    go_wp2
    go_ret
    exact ⟨rfl, HD_84.out.bel⟩
end Go.Proofs.Ytijbngdafgmpaaa
