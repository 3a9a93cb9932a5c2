/-
  The walk of FnExactReadGraph.
-/
import Derived.Test.YtelikebpddhncaaGRdS
import Derived.Test.YtelikebpddhncaaHld
namespace Go.Proofs.Ytelikebpddhncaa
open Go.RowKit

theorem readBothG (s : ByteArray) (hs : s.size ≤ 1048576) : ∃ (ok : Bool) (z : Int) (L : List Ed) (n : Nat), L.length = n ∧ n ≤ 40 ∧ (ok = true → okG z L = true ∧ s.data.toList = gtxtTo z L L.length) ∧
    (∀ w : World, Calls Try.prog 39 #[.string s] w fun e w' => ∃ a cap, e = .returned (.tuple #[gv z a n cap, .bool ok]) ∧ Hid (EdgesOwn w.heap.size w'.heap.size w' a L) ∧ Hid (Below w.heap.size w w')) ∧
    (∀ w : World, Calls Try.prog 37 #[.string s] w fun e w' => ∃ a cap, e = .returned (.tuple #[gv z a n cap, .bool ok]) ∧ Hid (EdgesOwn w.heap.size w'.heap.size w' a L) ∧ Hid (Below w.heap.size w w')) := by
  have hok : (implReadG s.data.toList).2 = true → okG (implReadG s.data.toList).1.1 (implReadG s.data.toList).1.2 = true := fun h => (implG_yes h).1
  refine ⟨(implReadG s.data.toList).2, if (implReadG s.data.toList).2 = true then (implReadG s.data.toList).1.1 else 0, if (implReadG s.data.toList).2 = true then (implReadG s.data.toList).1.2 else [], _, rfl, ?_, fun h => ?_, fun w => ?_, fun w => ?_⟩
  · split
    · rename_i h; exact (okG_size (hok h)).2.2
    · simp
  · rw [if_pos h, if_pos h]; exact implG_yes h
  · refine (specReadG_any s w hs).mono ?_
    rintro e w' ⟨z, v, ok, rfl, h1, h2, h3, h4⟩
    obtain rfl := h1.out
    obtain rfl := h2.out
    obtain ⟨a, cap, rfl, h5⟩ := h3.out
    exact ⟨a, cap, rfl, h5, h4⟩
  · refine (readGraph_any s w hs).mono ?_
    rintro e w' ⟨z, v, ok, rfl, h1, h2, h3, h4⟩
    obtain rfl := h1.out
    obtain rfl := h2.out
    obtain ⟨a, cap, rfl, h5⟩ := h3.out
    exact ⟨a, cap, rfl, h5, h4⟩

set_option maxHeartbeats 8000000 in
set_option maxRecDepth 100000 in
theorem law_13 (s0 : ByteArray) (w : World) (hs0 : s0.size ≤ maxLen) :
    Calls Try.prog 13 #[.string s0] w fun e w' => e = .returned (.bool true) ∧ Below w.heap.size w w' := by
  unfold maxLen at hs0
  by_cases hs : s0.size ≤ 1048576
  · obtain ⟨ok, z, L, n, hL, hn, _, hS, hI⟩ := readBothG s0 hs
    have HL : Hid (L.length = n) := hL
    have HS : Hid (∀ w : World, Calls Try.prog 39 #[.string s0] w fun e w' => ∃ a cap, e = .returned (.tuple #[gv z a n cap, .bool ok]) ∧ Hid (EdgesOwn w.heap.size w'.heap.size w' a L) ∧ Hid (Below w.heap.size w w')) := hS
    have HI : Hid (∀ w : World, Calls Try.prog 37 #[.string s0] w fun e w' => ∃ a cap, e = .returned (.tuple #[gv z a n cap, .bool ok]) ∧ Hid (EdgesOwn w.heap.size w'.heap.size w' a L) ∧ Hid (Below w.heap.size w w')) := hI
    have HM : Hid (n ≤ 1048576) := by show _ ≤ _; omega
    have hs1 : ¬ (1048576 : Int) < (s0.size : Int) := by omega
    clear hL hS hI hs0 hs hn
    go_enter Try.func13, Try.ntmps13
    have HD_0 : Hid (Hold w w []) := Hold.none w
    go_wp2_with fail
    refine (HS.out _).mono ?_
    rintro e w1 ⟨a1, cap1, rfl, X_1, B_2⟩
    have HD_3 : Hid (Hold w w1 []) := HD_0.out.below B_2.out
    clear HD_0
    have ZZ4 : Hid (w.heap.size ≤ w1.heap.size) := B_2.out.size
    clear B_2
    have W0_5 : Hid (EdgesOwn w.heap.size w1.heap.size w1 a1 L) := X_1.out
    clear X_1
    have BA_6 : Hid (Below w1.heap.size w1 (w1.alloc (.cells #[.int .i64 z, .slice a1 n cap1] 37))) := below1' w1 _
    have HD_7 : Hid (Hold w (w1.alloc (.cells #[.int .i64 z, .slice a1 n cap1] 37)) [(w1.heap.size, [.int .i64 z, .slice a1 n cap1])]) := HD_3.out.more [.int .i64 z, .slice a1 n cap1] 37
    clear HD_3
    have ZZ8 : Hid ((w1.alloc (.cells #[.int .i64 z, .slice a1 n cap1] 37)).heap.size = w1.heap.size + 1) := by show _ = _; simp
    have ZZ9 : Hid (w1.heap.size ≤ (w1.alloc (.cells #[.int .i64 z, .slice a1 n cap1] 37)).heap.size) := BA_6.out.size
    have W0_9 : Hid (EdgesOwn w.heap.size w1.heap.size (w1.alloc (.cells #[.int .i64 z, .slice a1 n cap1] 37)) a1 L) := W0_5.out.below BA_6.out (by have y0 := ZZ4.out; have y1 := ZZ8.out; have y2 := ZZ9.out; omega)
    clear W0_5
    clear BA_6
    go_wp2_with fail
    refine (HI.out _).mono ?_
    rintro e w2 ⟨a2, cap2, rfl, X_10, B_11⟩
    have HD_12 : Hid (Hold w w2 [(w1.heap.size, [.int .i64 z, .slice a1 n cap1])]) := HD_7.out.below B_11.out
    clear HD_7
    have ZZ13 : Hid ((w1.alloc (.cells #[.int .i64 z, .slice a1 n cap1] 37)).heap.size ≤ w2.heap.size) := B_11.out.size
    have W0_13 : Hid (EdgesOwn w.heap.size w1.heap.size w2 a1 L) := W0_9.out.below B_11.out (by have y0 := ZZ4.out; have y1 := ZZ8.out; have y2 := ZZ9.out; have y3 := ZZ13.out; omega)
    clear W0_9
    clear B_11
    have G0_14 : Hid (EdgesOwn (w1.alloc (.cells #[.int .i64 z, .slice a1 n cap1] 37)).heap.size w2.heap.size w2 a2 L) := X_10.out
    clear X_10
    have BA_15 : Hid (Below w2.heap.size w2 (w2.alloc (.cells #[.int .i64 z, .slice a2 n cap2] 37))) := below1' w2 _
    have HD_16 : Hid (Hold w (w2.alloc (.cells #[.int .i64 z, .slice a2 n cap2] 37)) [(w2.heap.size, [.int .i64 z, .slice a2 n cap2]), (w1.heap.size, [.int .i64 z, .slice a1 n cap1])]) := HD_12.out.more [.int .i64 z, .slice a2 n cap2] 37
    clear HD_12
    have ZZ17 : Hid ((w2.alloc (.cells #[.int .i64 z, .slice a2 n cap2] 37)).heap.size = w2.heap.size + 1) := by show _ = _; simp
    have ZZ18 : Hid (w2.heap.size ≤ (w2.alloc (.cells #[.int .i64 z, .slice a2 n cap2] 37)).heap.size) := BA_15.out.size
    have W0_18 : Hid (EdgesOwn w.heap.size w1.heap.size (w2.alloc (.cells #[.int .i64 z, .slice a2 n cap2] 37)) a1 L) := W0_13.out.below BA_15.out (by have y0 := ZZ4.out; have y1 := ZZ8.out; have y2 := ZZ9.out; have y3 := ZZ13.out; have y4 := ZZ17.out; have y5 := ZZ18.out; omega)
    have G0_18 : Hid (EdgesOwn (w1.alloc (.cells #[.int .i64 z, .slice a1 n cap1] 37)).heap.size w2.heap.size (w2.alloc (.cells #[.int .i64 z, .slice a2 n cap2] 37)) a2 L) := G0_14.out.below BA_15.out (by have y0 := ZZ4.out; have y1 := ZZ8.out; have y2 := ZZ9.out; have y3 := ZZ13.out; have y4 := ZZ17.out; have y5 := ZZ18.out; omega)
    clear W0_13 G0_14
    clear BA_15
    have q_19 : (w2.alloc (.cells #[.int .i64 z, .slice a2 n cap2] 37)).cell? ⟨w1.heap.size, 0, none⟩ = some (.int .i64 z) := HD_16.out.cell (b := w1.heap.size) (vs := [.int .i64 z, .slice a1 n cap1]) (i := 0) (by simp) (by simp)
    have q_20 : (w2.alloc (.cells #[.int .i64 z, .slice a2 n cap2] 37)).cell? ⟨w1.heap.size, 1, none⟩ = some (.slice a1 n cap1) := HD_16.out.cell (b := w1.heap.size) (vs := [.int .i64 z, .slice a1 n cap1]) (i := 1) (by simp) (by simp)
    have q_21 : (w2.alloc (.cells #[.int .i64 z, .slice a2 n cap2] 37)).cell? ⟨w2.heap.size, 0, none⟩ = some (.int .i64 z) := HD_16.out.cell (b := w2.heap.size) (vs := [.int .i64 z, .slice a2 n cap2]) (i := 0) (by simp) (by simp)
    have q_22 : (w2.alloc (.cells #[.int .i64 z, .slice a2 n cap2] 37)).cell? ⟨w2.heap.size, 1, none⟩ = some (.slice a2 n cap2) := HD_16.out.cell (b := w2.heap.size) (vs := [.int .i64 z, .slice a2 n cap2]) (i := 1) (by simp) (by simp)
    go_wp2_with fail
    refine (eqGraph_any (w1.alloc (.cells #[.int .i64 z, .slice a1 n cap1] 37)).heap.size w2.heap.size w.heap.size w1.heap.size z z a2 a1 n n cap2 cap1 L L true _ G0_18.out.toIn W0_18.out.toIn (by have y0 := ZZ4.out; have y1 := ZZ8.out; have y2 := ZZ9.out; have y3 := ZZ13.out; have y4 := ZZ17.out; have y5 := ZZ18.out; omega) (by have y0 := ZZ4.out; have y1 := ZZ8.out; have y2 := ZZ9.out; have y3 := ZZ13.out; have y4 := ZZ17.out; have y5 := ZZ18.out; omega) HL.out HL.out HM.out (by simp)).mono ?_
    rintro e w3 ⟨rfl, B_23⟩
    clear q_19 q_20 q_21 q_22
    have HD_24 : Hid (Hold w w3 [(w2.heap.size, [.int .i64 z, .slice a2 n cap2]), (w1.heap.size, [.int .i64 z, .slice a1 n cap1])]) := HD_16.out.below B_23.out
    clear HD_16
    have ZZ25 : Hid ((w2.alloc (.cells #[.int .i64 z, .slice a2 n cap2] 37)).heap.size ≤ w3.heap.size) := B_23.out.size
    have W0_25 : Hid (EdgesOwn w.heap.size w1.heap.size w3 a1 L) := W0_18.out.below B_23.out (by have y0 := ZZ4.out; have y1 := ZZ8.out; have y2 := ZZ9.out; have y3 := ZZ13.out; have y4 := ZZ17.out; have y5 := ZZ18.out; have y6 := ZZ25.out; omega)
    have G0_25 : Hid (EdgesOwn (w1.alloc (.cells #[.int .i64 z, .slice a1 n cap1] 37)).heap.size w2.heap.size w3 a2 L) := G0_18.out.below B_23.out (by have y0 := ZZ4.out; have y1 := ZZ8.out; have y2 := ZZ9.out; have y3 := ZZ13.out; have y4 := ZZ17.out; have y5 := ZZ18.out; have y6 := ZZ25.out; omega)
    clear W0_18 G0_18
    clear B_23
    have q_26 : w3.cell? ⟨w2.heap.size, 0, none⟩ = some (.int .i64 z) := HD_24.out.cell (b := w2.heap.size) (vs := [.int .i64 z, .slice a2 n cap2]) (i := 0) (by simp) (by simp)
    have q_27 : w3.cell? ⟨w2.heap.size, 1, none⟩ = some (.slice a2 n cap2) := HD_24.out.cell (b := w2.heap.size) (vs := [.int .i64 z, .slice a2 n cap2]) (i := 1) (by simp) (by simp)
    go_wp2_with fail
    refine (markGraph_any (w1.alloc (.cells #[.int .i64 z, .slice a1 n cap1] 37)).heap.size w2.heap.size z a2 n cap2 1 L _ G0_25.out (by have y0 := ZZ4.out; have y1 := ZZ8.out; have y2 := ZZ9.out; have y3 := ZZ13.out; have y4 := ZZ17.out; have y5 := ZZ18.out; have y6 := ZZ25.out; omega) HL.out HM.out (by omega)).mono ?_
    rintro e w4 ⟨m4, rfl, HM_m4, X_28, K_28⟩
    clear q_26 q_27
    have HD_29 : Hid (Hold w w4 [(w2.heap.size, [.int .i64 z, .slice a2 n cap2]), (w1.heap.size, [.int .i64 z, .slice a1 n cap1])]) := HD_24.out.kept K_28.out (by intro x hx; simp only [List.mem_cons, List.not_mem_nil, or_false] at hx; have y0 := ZZ4.out; have y1 := ZZ8.out; have y2 := ZZ9.out; have y3 := ZZ13.out; have y4 := ZZ17.out; have y5 := ZZ18.out; have y6 := ZZ25.out; rcases hx with rfl | rfl <;> dsimp only <;> omega) (fun k hk => by have y0 := ZZ4.out; have y1 := ZZ8.out; have y2 := ZZ9.out; have y3 := ZZ13.out; have y4 := ZZ17.out; have y5 := ZZ18.out; have y6 := ZZ25.out; omega)
    clear HD_24
    have ZZ30 : Hid (w3.heap.size ≤ w4.heap.size) := K_28.out.size
    have W0_30 : Hid (EdgesOwn w.heap.size w1.heap.size w4 a1 L) := W0_25.out.kept K_28.out (fun c h1 h2 h3 => by have y0 := ZZ4.out; have y1 := ZZ8.out; have y2 := ZZ9.out; have y3 := ZZ13.out; have y4 := ZZ17.out; have y5 := ZZ18.out; have y6 := ZZ25.out; have y7 := ZZ30.out; omega)
    clear W0_25 G0_25
    clear K_28
    have G0_31 : Hid (EdgesOwn (w1.alloc (.cells #[.int .i64 z, .slice a1 n cap1] 37)).heap.size w2.heap.size w4 a2 (marksE 1 n)) := X_28.out
    clear X_28
    have q_32 : w4.cell? ⟨w2.heap.size, 0, none⟩ = some (.int .i64 z) := HD_29.out.cell (b := w2.heap.size) (vs := [.int .i64 z, .slice a2 n cap2]) (i := 0) (by simp) (by simp)
    have q_33 : w4.cell? ⟨w2.heap.size, 1, none⟩ = some (.slice a2 n cap2) := HD_29.out.cell (b := w2.heap.size) (vs := [.int .i64 z, .slice a2 n cap2]) (i := 1) (by simp) (by simp)
    go_wp2_with fail
    refine (heldGraph_any (w1.alloc (.cells #[.int .i64 z, .slice a1 n cap1] 37)).heap.size w2.heap.size z a2 n cap2 1 _ G0_31.out.toIn (by have y0 := ZZ4.out; have y1 := ZZ8.out; have y2 := ZZ9.out; have y3 := ZZ13.out; have y4 := ZZ17.out; have y5 := ZZ18.out; have y6 := ZZ25.out; have y7 := ZZ30.out; omega) HM.out (by omega)).mono ?_
    rintro e w5 ⟨m5, rfl, HM_m5, B_34⟩
    clear q_32 q_33
    have HD_35 : Hid (Hold w w5 [(w2.heap.size, [.int .i64 z, .slice a2 n cap2]), (w1.heap.size, [.int .i64 z, .slice a1 n cap1])]) := HD_29.out.below B_34.out
    clear HD_29
    have ZZ36 : Hid (w4.heap.size ≤ w5.heap.size) := B_34.out.size
    have W0_36 : Hid (EdgesOwn w.heap.size w1.heap.size w5 a1 L) := W0_30.out.below B_34.out (by have y0 := ZZ4.out; have y1 := ZZ8.out; have y2 := ZZ9.out; have y3 := ZZ13.out; have y4 := ZZ17.out; have y5 := ZZ18.out; have y6 := ZZ25.out; have y7 := ZZ30.out; have y8 := ZZ36.out; omega)
    have G0_36 : Hid (EdgesOwn (w1.alloc (.cells #[.int .i64 z, .slice a1 n cap1] 37)).heap.size w2.heap.size w5 a2 (marksE 1 n)) := G0_31.out.below B_34.out (by have y0 := ZZ4.out; have y1 := ZZ8.out; have y2 := ZZ9.out; have y3 := ZZ13.out; have y4 := ZZ17.out; have y5 := ZZ18.out; have y6 := ZZ25.out; have y7 := ZZ30.out; have y8 := ZZ36.out; omega)
    clear W0_30 G0_31
    clear B_34
    obtain rfl : m4 = m5 := by rw [HM_m5.out, HM_m4.out]
    clear HM_m5
    have hn_m5 : ¬ ((m4 : Nat) : Int) < 0 := by omega
    go_wp2_with fail
    refine (HI.out _).mono ?_
    rintro e w6 ⟨a6, cap6, rfl, X_37, B_38⟩
    have HD_39 : Hid (Hold w w6 [(w2.heap.size, [.int .i64 z, .slice a2 n cap2]), (w1.heap.size, [.int .i64 z, .slice a1 n cap1])]) := HD_35.out.below B_38.out
    clear HD_35
    have ZZ40 : Hid (w5.heap.size ≤ w6.heap.size) := B_38.out.size
    have W0_40 : Hid (EdgesOwn w.heap.size w1.heap.size w6 a1 L) := W0_36.out.below B_38.out (by have y0 := ZZ4.out; have y1 := ZZ8.out; have y2 := ZZ9.out; have y3 := ZZ13.out; have y4 := ZZ17.out; have y5 := ZZ18.out; have y6 := ZZ25.out; have y7 := ZZ30.out; have y8 := ZZ36.out; have y9 := ZZ40.out; omega)
    have G0_40 : Hid (EdgesOwn (w1.alloc (.cells #[.int .i64 z, .slice a1 n cap1] 37)).heap.size w2.heap.size w6 a2 (marksE 1 n)) := G0_36.out.below B_38.out (by have y0 := ZZ4.out; have y1 := ZZ8.out; have y2 := ZZ9.out; have y3 := ZZ13.out; have y4 := ZZ17.out; have y5 := ZZ18.out; have y6 := ZZ25.out; have y7 := ZZ30.out; have y8 := ZZ36.out; have y9 := ZZ40.out; omega)
    clear W0_36 G0_36
    clear B_38
    have H0_41 : Hid (EdgesOwn w5.heap.size w6.heap.size w6 a6 L) := X_37.out
    clear X_37
    have BA_42 : Hid (Below w6.heap.size w6 (w6.alloc (.cells #[.int .i64 z, .slice a6 n cap6] 37))) := below1' w6 _
    have HD_43 : Hid (Hold w (w6.alloc (.cells #[.int .i64 z, .slice a6 n cap6] 37)) [(w6.heap.size, [.int .i64 z, .slice a6 n cap6]), (w2.heap.size, [.int .i64 z, .slice a2 n cap2]), (w1.heap.size, [.int .i64 z, .slice a1 n cap1])]) := HD_39.out.more [.int .i64 z, .slice a6 n cap6] 37
    clear HD_39
    have ZZ44 : Hid ((w6.alloc (.cells #[.int .i64 z, .slice a6 n cap6] 37)).heap.size = w6.heap.size + 1) := by show _ = _; simp
    have ZZ45 : Hid (w6.heap.size ≤ (w6.alloc (.cells #[.int .i64 z, .slice a6 n cap6] 37)).heap.size) := BA_42.out.size
    have W0_45 : Hid (EdgesOwn w.heap.size w1.heap.size (w6.alloc (.cells #[.int .i64 z, .slice a6 n cap6] 37)) a1 L) := W0_40.out.below BA_42.out (by have y0 := ZZ4.out; have y1 := ZZ8.out; have y2 := ZZ9.out; have y3 := ZZ13.out; have y4 := ZZ17.out; have y5 := ZZ18.out; have y6 := ZZ25.out; have y7 := ZZ30.out; have y8 := ZZ36.out; have y9 := ZZ40.out; have y10 := ZZ44.out; have y11 := ZZ45.out; omega)
    have G0_45 : Hid (EdgesOwn (w1.alloc (.cells #[.int .i64 z, .slice a1 n cap1] 37)).heap.size w2.heap.size (w6.alloc (.cells #[.int .i64 z, .slice a6 n cap6] 37)) a2 (marksE 1 n)) := G0_40.out.below BA_42.out (by have y0 := ZZ4.out; have y1 := ZZ8.out; have y2 := ZZ9.out; have y3 := ZZ13.out; have y4 := ZZ17.out; have y5 := ZZ18.out; have y6 := ZZ25.out; have y7 := ZZ30.out; have y8 := ZZ36.out; have y9 := ZZ40.out; have y10 := ZZ44.out; have y11 := ZZ45.out; omega)
    have H0_45 : Hid (EdgesOwn w5.heap.size w6.heap.size (w6.alloc (.cells #[.int .i64 z, .slice a6 n cap6] 37)) a6 L) := H0_41.out.below BA_42.out (by have y0 := ZZ4.out; have y1 := ZZ8.out; have y2 := ZZ9.out; have y3 := ZZ13.out; have y4 := ZZ17.out; have y5 := ZZ18.out; have y6 := ZZ25.out; have y7 := ZZ30.out; have y8 := ZZ36.out; have y9 := ZZ40.out; have y10 := ZZ44.out; have y11 := ZZ45.out; omega)
    clear W0_40 G0_40 H0_41
    clear BA_42
    have q_46 : (w6.alloc (.cells #[.int .i64 z, .slice a6 n cap6] 37)).cell? ⟨w1.heap.size, 0, none⟩ = some (.int .i64 z) := HD_43.out.cell (b := w1.heap.size) (vs := [.int .i64 z, .slice a1 n cap1]) (i := 0) (by simp) (by simp)
    have q_47 : (w6.alloc (.cells #[.int .i64 z, .slice a6 n cap6] 37)).cell? ⟨w1.heap.size, 1, none⟩ = some (.slice a1 n cap1) := HD_43.out.cell (b := w1.heap.size) (vs := [.int .i64 z, .slice a1 n cap1]) (i := 1) (by simp) (by simp)
    have q_48 : (w6.alloc (.cells #[.int .i64 z, .slice a6 n cap6] 37)).cell? ⟨w6.heap.size, 0, none⟩ = some (.int .i64 z) := HD_43.out.cell (b := w6.heap.size) (vs := [.int .i64 z, .slice a6 n cap6]) (i := 0) (by simp) (by simp)
    have q_49 : (w6.alloc (.cells #[.int .i64 z, .slice a6 n cap6] 37)).cell? ⟨w6.heap.size, 1, none⟩ = some (.slice a6 n cap6) := HD_43.out.cell (b := w6.heap.size) (vs := [.int .i64 z, .slice a6 n cap6]) (i := 1) (by simp) (by simp)
    go_wp2_with fail
    refine (eqGraph_any w5.heap.size w6.heap.size w.heap.size w1.heap.size z z a6 a1 n n cap6 cap1 L L true _ H0_45.out.toIn W0_45.out.toIn (by have y0 := ZZ4.out; have y1 := ZZ8.out; have y2 := ZZ9.out; have y3 := ZZ13.out; have y4 := ZZ17.out; have y5 := ZZ18.out; have y6 := ZZ25.out; have y7 := ZZ30.out; have y8 := ZZ36.out; have y9 := ZZ40.out; have y10 := ZZ44.out; have y11 := ZZ45.out; omega) (by have y0 := ZZ4.out; have y1 := ZZ8.out; have y2 := ZZ9.out; have y3 := ZZ13.out; have y4 := ZZ17.out; have y5 := ZZ18.out; have y6 := ZZ25.out; have y7 := ZZ30.out; have y8 := ZZ36.out; have y9 := ZZ40.out; have y10 := ZZ44.out; have y11 := ZZ45.out; omega) HL.out HL.out HM.out (by simp)).mono ?_
    rintro e w7 ⟨rfl, B_50⟩
    clear q_46 q_47 q_48 q_49
    have HD_51 : Hid (Hold w w7 [(w6.heap.size, [.int .i64 z, .slice a6 n cap6]), (w2.heap.size, [.int .i64 z, .slice a2 n cap2]), (w1.heap.size, [.int .i64 z, .slice a1 n cap1])]) := HD_43.out.below B_50.out
    clear HD_43
    have ZZ52 : Hid ((w6.alloc (.cells #[.int .i64 z, .slice a6 n cap6] 37)).heap.size ≤ w7.heap.size) := B_50.out.size
    have W0_52 : Hid (EdgesOwn w.heap.size w1.heap.size w7 a1 L) := W0_45.out.below B_50.out (by have y0 := ZZ4.out; have y1 := ZZ8.out; have y2 := ZZ9.out; have y3 := ZZ13.out; have y4 := ZZ17.out; have y5 := ZZ18.out; have y6 := ZZ25.out; have y7 := ZZ30.out; have y8 := ZZ36.out; have y9 := ZZ40.out; have y10 := ZZ44.out; have y11 := ZZ45.out; have y12 := ZZ52.out; omega)
    have G0_52 : Hid (EdgesOwn (w1.alloc (.cells #[.int .i64 z, .slice a1 n cap1] 37)).heap.size w2.heap.size w7 a2 (marksE 1 n)) := G0_45.out.below B_50.out (by have y0 := ZZ4.out; have y1 := ZZ8.out; have y2 := ZZ9.out; have y3 := ZZ13.out; have y4 := ZZ17.out; have y5 := ZZ18.out; have y6 := ZZ25.out; have y7 := ZZ30.out; have y8 := ZZ36.out; have y9 := ZZ40.out; have y10 := ZZ44.out; have y11 := ZZ45.out; have y12 := ZZ52.out; omega)
    have H0_52 : Hid (EdgesOwn w5.heap.size w6.heap.size w7 a6 L) := H0_45.out.below B_50.out (by have y0 := ZZ4.out; have y1 := ZZ8.out; have y2 := ZZ9.out; have y3 := ZZ13.out; have y4 := ZZ17.out; have y5 := ZZ18.out; have y6 := ZZ25.out; have y7 := ZZ30.out; have y8 := ZZ36.out; have y9 := ZZ40.out; have y10 := ZZ44.out; have y11 := ZZ45.out; have y12 := ZZ52.out; omega)
    clear W0_45 G0_45 H0_45
    clear B_50
    have q_53 : w7.cell? ⟨w2.heap.size, 0, none⟩ = some (.int .i64 z) := HD_51.out.cell (b := w2.heap.size) (vs := [.int .i64 z, .slice a2 n cap2]) (i := 0) (by simp) (by simp)
    have q_54 : w7.cell? ⟨w2.heap.size, 1, none⟩ = some (.slice a2 n cap2) := HD_51.out.cell (b := w2.heap.size) (vs := [.int .i64 z, .slice a2 n cap2]) (i := 1) (by simp) (by simp)
    go_wp2_with fail
    refine (heldGraph_any (w1.alloc (.cells #[.int .i64 z, .slice a1 n cap1] 37)).heap.size w2.heap.size z a2 n cap2 1 _ G0_52.out.toIn (by have y0 := ZZ4.out; have y1 := ZZ8.out; have y2 := ZZ9.out; have y3 := ZZ13.out; have y4 := ZZ17.out; have y5 := ZZ18.out; have y6 := ZZ25.out; have y7 := ZZ30.out; have y8 := ZZ36.out; have y9 := ZZ40.out; have y10 := ZZ44.out; have y11 := ZZ45.out; have y12 := ZZ52.out; omega) HM.out (by omega)).mono ?_
    rintro e w8 ⟨m8, rfl, HM_m8, B_55⟩
    clear q_53 q_54
    have HD_56 : Hid (Hold w w8 [(w6.heap.size, [.int .i64 z, .slice a6 n cap6]), (w2.heap.size, [.int .i64 z, .slice a2 n cap2]), (w1.heap.size, [.int .i64 z, .slice a1 n cap1])]) := HD_51.out.below B_55.out
    clear HD_51
    have ZZ57 : Hid (w7.heap.size ≤ w8.heap.size) := B_55.out.size
    have W0_57 : Hid (EdgesOwn w.heap.size w1.heap.size w8 a1 L) := W0_52.out.below B_55.out (by have y0 := ZZ4.out; have y1 := ZZ8.out; have y2 := ZZ9.out; have y3 := ZZ13.out; have y4 := ZZ17.out; have y5 := ZZ18.out; have y6 := ZZ25.out; have y7 := ZZ30.out; have y8 := ZZ36.out; have y9 := ZZ40.out; have y10 := ZZ44.out; have y11 := ZZ45.out; have y12 := ZZ52.out; have y13 := ZZ57.out; omega)
    have G0_57 : Hid (EdgesOwn (w1.alloc (.cells #[.int .i64 z, .slice a1 n cap1] 37)).heap.size w2.heap.size w8 a2 (marksE 1 n)) := G0_52.out.below B_55.out (by have y0 := ZZ4.out; have y1 := ZZ8.out; have y2 := ZZ9.out; have y3 := ZZ13.out; have y4 := ZZ17.out; have y5 := ZZ18.out; have y6 := ZZ25.out; have y7 := ZZ30.out; have y8 := ZZ36.out; have y9 := ZZ40.out; have y10 := ZZ44.out; have y11 := ZZ45.out; have y12 := ZZ52.out; have y13 := ZZ57.out; omega)
    have H0_57 : Hid (EdgesOwn w5.heap.size w6.heap.size w8 a6 L) := H0_52.out.below B_55.out (by have y0 := ZZ4.out; have y1 := ZZ8.out; have y2 := ZZ9.out; have y3 := ZZ13.out; have y4 := ZZ17.out; have y5 := ZZ18.out; have y6 := ZZ25.out; have y7 := ZZ30.out; have y8 := ZZ36.out; have y9 := ZZ40.out; have y10 := ZZ44.out; have y11 := ZZ45.out; have y12 := ZZ52.out; have y13 := ZZ57.out; omega)
    clear W0_52 G0_52 H0_52
    clear B_55
    obtain rfl : m4 = m8 := by rw [HM_m8.out, HM_m4.out]
    clear HM_m8
    have hn_m8 : ¬ ((m4 : Nat) : Int) < 0 := by omega
    go_wp2
    go_ret
    exact ⟨rfl, HD_56.out.bel⟩
  · have hs1 : (1048576 : Int) < (s0.size : Int) := by omega
    go_enter Try.func13, Try.ntmps13
    go_wp2
    go_ret
    exact ⟨rfl, Below.refl _ _⟩
end Go.Proofs.Ytelikebpddhncaa
