/-
  The walk of FnExactTogether.
-/
import Derived.Test.YtigojleieihdoaaTog
import Derived.Test.YtigojleieihdoaaTogS
import Derived.Test.YtigojleieihdoaaGl
import Derived.Test.YtigojleieihdoaaHld
namespace Go.Proofs.Ytigojleieihdoaa
open Go.RowKit

theorem togBoth (G : List Gr) (n : Nat) (hn : G.length = n) (hm : n ≤ 1048576) (ht : (catTo G G.length).length ≤ 1048576) : ∃ (ok : Bool) (z : Int) (L : List Ed) (n3 : Nat), L.length = n3 ∧ n3 ≤ 1048576 ∧
    (∀ (lo hi : Nat) (a : Option Addr) (cap : Nat) (w : World), GrsIn lo hi w a G → hi ≤ w.heap.size → Calls Try.prog 5 #[.slice a n cap] w fun e w' => ∃ a' cap', e = .returned (.tuple #[gv z a' n3 cap', .bool ok]) ∧ Hid (EdgesOwn w.heap.size w'.heap.size w' a' L) ∧ Hid (Below w.heap.size w w')) ∧
    (∀ (lo hi : Nat) (a : Option Addr) (cap : Nat) (w : World), GrsIn lo hi w a G → hi ≤ w.heap.size → Calls Try.prog 7 #[.slice a n cap] w fun e w' => ∃ a' cap', e = .returned (.tuple #[gv z a' n3 cap', .bool ok]) ∧ Hid (EdgesOwn w.heap.size w'.heap.size w' a' L) ∧ Hid (Below w.heap.size w w')) := by
  refine ⟨togB G, togS G, togE G, _, rfl, Nat.le_trans (togE_len G) ht, fun lo hi a cap w ha hh => ?_, fun lo hi a cap w ha hh => ?_⟩
  · refine (specTogether_any lo hi a n cap G w ha hh hn hm ht).mono ?_
    rintro e w' ⟨a', n', cap', rfl, h1, h2, h3⟩
    obtain rfl := h1.out
    exact ⟨a', cap', rfl, h2, h3⟩
  · refine (together_any lo hi a n cap G w ha hh hn hm ht).mono ?_
    rintro e w' ⟨a', n', cap', rfl, h1, h2, h3⟩
    obtain rfl := h1.out
    exact ⟨a', cap', rfl, h2, h3⟩

set_option maxHeartbeats 8000000 in
set_option maxRecDepth 100000 in
theorem law_3 (a0 : Option Addr) (n0 cap0 : Nat) (G : List Gr) (w : World) (hm0 : n0 ≤ maxLen) (hl0 : G.length = n0) (hr0 : GrsIn 0 w.heap.size w a0 G) (hml : ∀ i, i < n0 → (gat G i).2.length ≤ maxLen) :
    Calls Try.prog 3 #[.slice a0 n0 cap0] w fun e w' => e = .returned (.bool true) ∧ Below w.heap.size w w' := by
  have HR0 : Hid (GrsIn 0 w.heap.size w a0 G) := hr0
  have HL0 : Hid (G.length = n0) := hl0
  have HMX : Hid (n0 ≤ 9223372036854775807) := by unfold maxLen at hm0; show _ ≤ _; omega
  have HML : Hid (∀ i, i < n0 → (gat G i).2.length ≤ 9223372036854775807) := by intro i hi; have := hml i hi; unfold maxLen at this; omega
  clear hr0 hl0 hm0 hml
  go_enter Try.func3, Try.ntmps3
  go_wp2_with fail
  refine (szGraphs_any w.heap.size a0 n0 cap0 G w HR0.out (Nat.le_refl _) HL0.out HMX.out HML.out).mono ?_
  rintro e w1 ⟨x, rfl, HX, hb1⟩
  have HD_0 : Hid (Hold w w1 []) := (Hold.none w).below hb1.out
  have ZZ0 : Hid (w.heap.size ≤ w1.heap.size) := hb1.out.size
  clear hb1
  by_cases hx : x < 0
  · go_wp2
    go_ret
    exact ⟨rfl, HD_0.out.bel⟩
  obtain ⟨HM, HTT⟩ : Hid (n0 ≤ 1048576) ∧ Hid ((catTo G G.length).length ≤ 1048576) := by
    rcases HX.out with h | h
    · omega
    · exact h
  obtain ⟨ok, z, L, n, hL, hn, hS, hI⟩ := togBoth G n0 HL0.out HM.out HTT.out
  have HL : Hid (L.length = n) := hL
  have HMN : Hid (n ≤ 1048576) := hn
  have HS : Hid (∀ (lo hi : Nat) (a : Option Addr) (cap : Nat) (w : World), GrsIn lo hi w a G → hi ≤ w.heap.size → Calls Try.prog 5 #[.slice a n0 cap] w fun e w' => ∃ a' cap', e = .returned (.tuple #[gv z a' n cap', .bool ok]) ∧ Hid (EdgesOwn w.heap.size w'.heap.size w' a' L) ∧ Hid (Below w.heap.size w w')) := hS
  have HI : Hid (∀ (lo hi : Nat) (a : Option Addr) (cap : Nat) (w : World), GrsIn lo hi w a G → hi ≤ w.heap.size → Calls Try.prog 7 #[.slice a n0 cap] w fun e w' => ∃ a' cap', e = .returned (.tuple #[gv z a' n cap', .bool ok]) ∧ Hid (EdgesOwn w.heap.size w'.heap.size w' a' L) ∧ Hid (Below w.heap.size w w')) := hI
  clear hL hn hS hI HX
  go_wp2_with fail
  refine (toGraphs_any w.heap.size a0 n0 cap0 G _ (HR0.out.below HD_0.out.bel (Nat.le_refl _)) HD_0.out.bel.size HL0.out HM.out HTT.out).mono ?_
  rintro e w2 ⟨g2, rfl, X_1, B_2⟩
  have HD_3 : Hid (Hold w w2 []) := HD_0.out.below B_2.out
  clear HD_0
  have ZZ4 : Hid (w1.heap.size ≤ w2.heap.size) := B_2.out.size
  clear B_2
  have T1_5 : Hid (GrsOwn w1.heap.size w2.heap.size w2 g2 G) := X_1.out
  clear X_1
  go_wp2_with fail
  refine (HS.out w1.heap.size w2.heap.size (some ⟨g2, 0, none⟩) n0 _ T1_5.out.toIn (by have y0 := ZZ0.out; have y1 := ZZ4.out; omega)).mono ?_
  rintro e w3 ⟨a3, cap3, rfl, X_6, B_7⟩
  have HD_8 : Hid (Hold w w3 []) := HD_3.out.below B_7.out
  clear HD_3
  have ZZ9 : Hid (w2.heap.size ≤ w3.heap.size) := B_7.out.size
  have T1_9 : Hid (GrsOwn w1.heap.size w2.heap.size w3 g2 G) := T1_5.out.below B_7.out (by have y0 := ZZ0.out; have y1 := ZZ4.out; have y2 := ZZ9.out; omega)
  clear T1_5
  clear B_7
  have W0_10 : Hid (EdgesOwn w2.heap.size w3.heap.size w3 a3 L) := X_6.out
  clear X_6
  clear T1_9
  have BA_11 : Hid (Below w3.heap.size w3 (w3.alloc (.cells #[.int .i64 z, .slice a3 n cap3] 26))) := below1' w3 _
  have HD_12 : Hid (Hold w (w3.alloc (.cells #[.int .i64 z, .slice a3 n cap3] 26)) [(w3.heap.size, [.int .i64 z, .slice a3 n cap3])]) := HD_8.out.more [.int .i64 z, .slice a3 n cap3] 26
  clear HD_8
  have ZZ13 : Hid ((w3.alloc (.cells #[.int .i64 z, .slice a3 n cap3] 26)).heap.size = w3.heap.size + 1) := by show _ = _; simp
  have ZZ14 : Hid (w3.heap.size ≤ (w3.alloc (.cells #[.int .i64 z, .slice a3 n cap3] 26)).heap.size) := BA_11.out.size
  have W0_14 : Hid (EdgesOwn w2.heap.size w3.heap.size (w3.alloc (.cells #[.int .i64 z, .slice a3 n cap3] 26)) a3 L) := W0_10.out.below BA_11.out (by have y0 := ZZ0.out; have y1 := ZZ4.out; have y2 := ZZ9.out; have y3 := ZZ13.out; have y4 := ZZ14.out; omega)
  clear W0_10
  clear BA_11
  go_wp2_with fail
  refine (toGraphs_any w.heap.size a0 n0 cap0 G _ (HR0.out.below HD_12.out.bel (Nat.le_refl _)) HD_12.out.bel.size HL0.out HM.out HTT.out).mono ?_
  rintro e w4 ⟨g4, rfl, X_15, B_16⟩
  have HD_17 : Hid (Hold w w4 [(w3.heap.size, [.int .i64 z, .slice a3 n cap3])]) := HD_12.out.below B_16.out
  clear HD_12
  have ZZ18 : Hid ((w3.alloc (.cells #[.int .i64 z, .slice a3 n cap3] 26)).heap.size ≤ w4.heap.size) := B_16.out.size
  have W0_18 : Hid (EdgesOwn w2.heap.size w3.heap.size w4 a3 L) := W0_14.out.below B_16.out (by have y0 := ZZ0.out; have y1 := ZZ4.out; have y2 := ZZ9.out; have y3 := ZZ13.out; have y4 := ZZ14.out; have y5 := ZZ18.out; omega)
  clear W0_14
  clear B_16
  have X0_19 : Hid (GrsOwn (w3.alloc (.cells #[.int .i64 z, .slice a3 n cap3] 26)).heap.size w4.heap.size w4 g4 G) := X_15.out
  clear X_15
  go_wp2_with fail
  refine (HI.out (w3.alloc (.cells #[.int .i64 z, .slice a3 n cap3] 26)).heap.size w4.heap.size (some ⟨g4, 0, none⟩) n0 _ X0_19.out.toIn (by have y0 := ZZ0.out; have y1 := ZZ4.out; have y2 := ZZ9.out; have y3 := ZZ13.out; have y4 := ZZ14.out; have y5 := ZZ18.out; omega)).mono ?_
  rintro e w5 ⟨a5, cap5, rfl, X_20, B_21⟩
  have HD_22 : Hid (Hold w w5 [(w3.heap.size, [.int .i64 z, .slice a3 n cap3])]) := HD_17.out.below B_21.out
  clear HD_17
  have ZZ23 : Hid (w4.heap.size ≤ w5.heap.size) := B_21.out.size
  have W0_23 : Hid (EdgesOwn w2.heap.size w3.heap.size w5 a3 L) := W0_18.out.below B_21.out (by have y0 := ZZ0.out; have y1 := ZZ4.out; have y2 := ZZ9.out; have y3 := ZZ13.out; have y4 := ZZ14.out; have y5 := ZZ18.out; have y6 := ZZ23.out; omega)
  have X0_23 : Hid (GrsOwn (w3.alloc (.cells #[.int .i64 z, .slice a3 n cap3] 26)).heap.size w4.heap.size w5 g4 G) := X0_19.out.below B_21.out (by have y0 := ZZ0.out; have y1 := ZZ4.out; have y2 := ZZ9.out; have y3 := ZZ13.out; have y4 := ZZ14.out; have y5 := ZZ18.out; have y6 := ZZ23.out; omega)
  clear W0_18 X0_19
  clear B_21
  have G0_24 : Hid (EdgesOwn w4.heap.size w5.heap.size w5 a5 L) := X_20.out
  clear X_20
  have BA_25 : Hid (Below w5.heap.size w5 (w5.alloc (.cells #[.int .i64 z, .slice a5 n cap5] 26))) := below1' w5 _
  have HD_26 : Hid (Hold w (w5.alloc (.cells #[.int .i64 z, .slice a5 n cap5] 26)) [(w5.heap.size, [.int .i64 z, .slice a5 n cap5]), (w3.heap.size, [.int .i64 z, .slice a3 n cap3])]) := HD_22.out.more [.int .i64 z, .slice a5 n cap5] 26
  clear HD_22
  have ZZ27 : Hid ((w5.alloc (.cells #[.int .i64 z, .slice a5 n cap5] 26)).heap.size = w5.heap.size + 1) := by show _ = _; simp
  have ZZ28 : Hid (w5.heap.size ≤ (w5.alloc (.cells #[.int .i64 z, .slice a5 n cap5] 26)).heap.size) := BA_25.out.size
  have W0_28 : Hid (EdgesOwn w2.heap.size w3.heap.size (w5.alloc (.cells #[.int .i64 z, .slice a5 n cap5] 26)) a3 L) := W0_23.out.below BA_25.out (by have y0 := ZZ0.out; have y1 := ZZ4.out; have y2 := ZZ9.out; have y3 := ZZ13.out; have y4 := ZZ14.out; have y5 := ZZ18.out; have y6 := ZZ23.out; have y7 := ZZ27.out; have y8 := ZZ28.out; omega)
  have X0_28 : Hid (GrsOwn (w3.alloc (.cells #[.int .i64 z, .slice a3 n cap3] 26)).heap.size w4.heap.size (w5.alloc (.cells #[.int .i64 z, .slice a5 n cap5] 26)) g4 G) := X0_23.out.below BA_25.out (by have y0 := ZZ0.out; have y1 := ZZ4.out; have y2 := ZZ9.out; have y3 := ZZ13.out; have y4 := ZZ14.out; have y5 := ZZ18.out; have y6 := ZZ23.out; have y7 := ZZ27.out; have y8 := ZZ28.out; omega)
  have G0_28 : Hid (EdgesOwn w4.heap.size w5.heap.size (w5.alloc (.cells #[.int .i64 z, .slice a5 n cap5] 26)) a5 L) := G0_24.out.below BA_25.out (by have y0 := ZZ0.out; have y1 := ZZ4.out; have y2 := ZZ9.out; have y3 := ZZ13.out; have y4 := ZZ14.out; have y5 := ZZ18.out; have y6 := ZZ23.out; have y7 := ZZ27.out; have y8 := ZZ28.out; omega)
  clear W0_23 X0_23 G0_24
  clear BA_25
  have q_29 : (w5.alloc (.cells #[.int .i64 z, .slice a5 n cap5] 26)).cell? ⟨w3.heap.size, 0, none⟩ = some (.int .i64 z) := HD_26.out.cell (b := w3.heap.size) (vs := [.int .i64 z, .slice a3 n cap3]) (i := 0) (by simp) (by simp)
  have q_30 : (w5.alloc (.cells #[.int .i64 z, .slice a5 n cap5] 26)).cell? ⟨w3.heap.size, 1, none⟩ = some (.slice a3 n cap3) := HD_26.out.cell (b := w3.heap.size) (vs := [.int .i64 z, .slice a3 n cap3]) (i := 1) (by simp) (by simp)
  have q_31 : (w5.alloc (.cells #[.int .i64 z, .slice a5 n cap5] 26)).cell? ⟨w5.heap.size, 0, none⟩ = some (.int .i64 z) := HD_26.out.cell (b := w5.heap.size) (vs := [.int .i64 z, .slice a5 n cap5]) (i := 0) (by simp) (by simp)
  have q_32 : (w5.alloc (.cells #[.int .i64 z, .slice a5 n cap5] 26)).cell? ⟨w5.heap.size, 1, none⟩ = some (.slice a5 n cap5) := HD_26.out.cell (b := w5.heap.size) (vs := [.int .i64 z, .slice a5 n cap5]) (i := 1) (by simp) (by simp)
  go_wp2_with fail
  refine (eqGraph_any w4.heap.size w5.heap.size w2.heap.size w3.heap.size z z a5 a3 n n cap5 cap3 L L true _ G0_28.out.toIn W0_28.out.toIn (by have y0 := ZZ0.out; have y1 := ZZ4.out; have y2 := ZZ9.out; have y3 := ZZ13.out; have y4 := ZZ14.out; have y5 := ZZ18.out; have y6 := ZZ23.out; have y7 := ZZ27.out; have y8 := ZZ28.out; omega) (by have y0 := ZZ0.out; have y1 := ZZ4.out; have y2 := ZZ9.out; have y3 := ZZ13.out; have y4 := ZZ14.out; have y5 := ZZ18.out; have y6 := ZZ23.out; have y7 := ZZ27.out; have y8 := ZZ28.out; omega) HL.out HL.out HMN.out (by simp)).mono ?_
  rintro e w6 ⟨rfl, B_33⟩
  clear q_29 q_30 q_31 q_32
  have HD_34 : Hid (Hold w w6 [(w5.heap.size, [.int .i64 z, .slice a5 n cap5]), (w3.heap.size, [.int .i64 z, .slice a3 n cap3])]) := HD_26.out.below B_33.out
  clear HD_26
  have ZZ35 : Hid ((w5.alloc (.cells #[.int .i64 z, .slice a5 n cap5] 26)).heap.size ≤ w6.heap.size) := B_33.out.size
  have W0_35 : Hid (EdgesOwn w2.heap.size w3.heap.size w6 a3 L) := W0_28.out.below B_33.out (by have y0 := ZZ0.out; have y1 := ZZ4.out; have y2 := ZZ9.out; have y3 := ZZ13.out; have y4 := ZZ14.out; have y5 := ZZ18.out; have y6 := ZZ23.out; have y7 := ZZ27.out; have y8 := ZZ28.out; have y9 := ZZ35.out; omega)
  have X0_35 : Hid (GrsOwn (w3.alloc (.cells #[.int .i64 z, .slice a3 n cap3] 26)).heap.size w4.heap.size w6 g4 G) := X0_28.out.below B_33.out (by have y0 := ZZ0.out; have y1 := ZZ4.out; have y2 := ZZ9.out; have y3 := ZZ13.out; have y4 := ZZ14.out; have y5 := ZZ18.out; have y6 := ZZ23.out; have y7 := ZZ27.out; have y8 := ZZ28.out; have y9 := ZZ35.out; omega)
  have G0_35 : Hid (EdgesOwn w4.heap.size w5.heap.size w6 a5 L) := G0_28.out.below B_33.out (by have y0 := ZZ0.out; have y1 := ZZ4.out; have y2 := ZZ9.out; have y3 := ZZ13.out; have y4 := ZZ14.out; have y5 := ZZ18.out; have y6 := ZZ23.out; have y7 := ZZ27.out; have y8 := ZZ28.out; have y9 := ZZ35.out; omega)
  clear W0_28 X0_28 G0_28
  clear B_33
  go_wp2_with fail
  refine (toGraphs_any w.heap.size a0 n0 cap0 G _ (HR0.out.below HD_34.out.bel (Nat.le_refl _)) HD_34.out.bel.size HL0.out HM.out HTT.out).mono ?_
  rintro e w7 ⟨g7, rfl, X_36, B_37⟩
  have HD_38 : Hid (Hold w w7 [(w5.heap.size, [.int .i64 z, .slice a5 n cap5]), (w3.heap.size, [.int .i64 z, .slice a3 n cap3])]) := HD_34.out.below B_37.out
  clear HD_34
  have ZZ39 : Hid (w6.heap.size ≤ w7.heap.size) := B_37.out.size
  have W0_39 : Hid (EdgesOwn w2.heap.size w3.heap.size w7 a3 L) := W0_35.out.below B_37.out (by have y0 := ZZ0.out; have y1 := ZZ4.out; have y2 := ZZ9.out; have y3 := ZZ13.out; have y4 := ZZ14.out; have y5 := ZZ18.out; have y6 := ZZ23.out; have y7 := ZZ27.out; have y8 := ZZ28.out; have y9 := ZZ35.out; have y10 := ZZ39.out; omega)
  have X0_39 : Hid (GrsOwn (w3.alloc (.cells #[.int .i64 z, .slice a3 n cap3] 26)).heap.size w4.heap.size w7 g4 G) := X0_35.out.below B_37.out (by have y0 := ZZ0.out; have y1 := ZZ4.out; have y2 := ZZ9.out; have y3 := ZZ13.out; have y4 := ZZ14.out; have y5 := ZZ18.out; have y6 := ZZ23.out; have y7 := ZZ27.out; have y8 := ZZ28.out; have y9 := ZZ35.out; have y10 := ZZ39.out; omega)
  have G0_39 : Hid (EdgesOwn w4.heap.size w5.heap.size w7 a5 L) := G0_35.out.below B_37.out (by have y0 := ZZ0.out; have y1 := ZZ4.out; have y2 := ZZ9.out; have y3 := ZZ13.out; have y4 := ZZ14.out; have y5 := ZZ18.out; have y6 := ZZ23.out; have y7 := ZZ27.out; have y8 := ZZ28.out; have y9 := ZZ35.out; have y10 := ZZ39.out; omega)
  clear W0_35 X0_35 G0_35
  clear B_37
  have T2_40 : Hid (GrsOwn w6.heap.size w7.heap.size w7 g7 G) := X_36.out
  clear X_36
  go_wp2_with fail
  refine (eqGraphs_any (w3.alloc (.cells #[.int .i64 z, .slice a3 n cap3] 26)).heap.size w4.heap.size w6.heap.size w7.heap.size (some ⟨g4, 0, none⟩) (some ⟨g7, 0, none⟩) n0 n0 n0 G _ X0_39.out.toIn T2_40.out.toIn (by have y0 := ZZ0.out; have y1 := ZZ4.out; have y2 := ZZ9.out; have y3 := ZZ13.out; have y4 := ZZ14.out; have y5 := ZZ18.out; have y6 := ZZ23.out; have y7 := ZZ27.out; have y8 := ZZ28.out; have y9 := ZZ35.out; have y10 := ZZ39.out; omega) (by have y0 := ZZ0.out; have y1 := ZZ4.out; have y2 := ZZ9.out; have y3 := ZZ13.out; have y4 := ZZ14.out; have y5 := ZZ18.out; have y6 := ZZ23.out; have y7 := ZZ27.out; have y8 := ZZ28.out; have y9 := ZZ35.out; have y10 := ZZ39.out; omega) HL0.out HM.out HTT.out).mono ?_
  rintro e w8 ⟨rfl, B_41⟩
  have HD_42 : Hid (Hold w w8 [(w5.heap.size, [.int .i64 z, .slice a5 n cap5]), (w3.heap.size, [.int .i64 z, .slice a3 n cap3])]) := HD_38.out.below B_41.out
  clear HD_38
  have ZZ43 : Hid (w7.heap.size ≤ w8.heap.size) := B_41.out.size
  have W0_43 : Hid (EdgesOwn w2.heap.size w3.heap.size w8 a3 L) := W0_39.out.below B_41.out (by have y0 := ZZ0.out; have y1 := ZZ4.out; have y2 := ZZ9.out; have y3 := ZZ13.out; have y4 := ZZ14.out; have y5 := ZZ18.out; have y6 := ZZ23.out; have y7 := ZZ27.out; have y8 := ZZ28.out; have y9 := ZZ35.out; have y10 := ZZ39.out; have y11 := ZZ43.out; omega)
  have X0_43 : Hid (GrsOwn (w3.alloc (.cells #[.int .i64 z, .slice a3 n cap3] 26)).heap.size w4.heap.size w8 g4 G) := X0_39.out.below B_41.out (by have y0 := ZZ0.out; have y1 := ZZ4.out; have y2 := ZZ9.out; have y3 := ZZ13.out; have y4 := ZZ14.out; have y5 := ZZ18.out; have y6 := ZZ23.out; have y7 := ZZ27.out; have y8 := ZZ28.out; have y9 := ZZ35.out; have y10 := ZZ39.out; have y11 := ZZ43.out; omega)
  have G0_43 : Hid (EdgesOwn w4.heap.size w5.heap.size w8 a5 L) := G0_39.out.below B_41.out (by have y0 := ZZ0.out; have y1 := ZZ4.out; have y2 := ZZ9.out; have y3 := ZZ13.out; have y4 := ZZ14.out; have y5 := ZZ18.out; have y6 := ZZ23.out; have y7 := ZZ27.out; have y8 := ZZ28.out; have y9 := ZZ35.out; have y10 := ZZ39.out; have y11 := ZZ43.out; omega)
  have T2_43 : Hid (GrsOwn w6.heap.size w7.heap.size w8 g7 G) := T2_40.out.below B_41.out (by have y0 := ZZ0.out; have y1 := ZZ4.out; have y2 := ZZ9.out; have y3 := ZZ13.out; have y4 := ZZ14.out; have y5 := ZZ18.out; have y6 := ZZ23.out; have y7 := ZZ27.out; have y8 := ZZ28.out; have y9 := ZZ35.out; have y10 := ZZ39.out; have y11 := ZZ43.out; omega)
  clear W0_39 X0_39 G0_39 T2_40
  clear B_41
  clear T2_43
  go_wp2_with fail
  refine (markGraphs_any (w3.alloc (.cells #[.int .i64 z, .slice a3 n cap3] 26)).heap.size w4.heap.size g4 n0 n0 G _ X0_43.out HL0.out HM.out HTT.out).mono ?_
  rintro e w9 ⟨m9, rfl, K_44⟩
  have HD_45 : Hid (Hold w w9 [(w5.heap.size, [.int .i64 z, .slice a5 n cap5]), (w3.heap.size, [.int .i64 z, .slice a3 n cap3])]) := HD_42.out.kept K_44.out (by intro x hx; simp only [List.mem_cons, List.not_mem_nil, or_false] at hx; have y0 := ZZ0.out; have y1 := ZZ4.out; have y2 := ZZ9.out; have y3 := ZZ13.out; have y4 := ZZ14.out; have y5 := ZZ18.out; have y6 := ZZ23.out; have y7 := ZZ27.out; have y8 := ZZ28.out; have y9 := ZZ35.out; have y10 := ZZ39.out; have y11 := ZZ43.out; rcases hx with rfl | rfl <;> dsimp only <;> omega) (fun k hk => by have y0 := ZZ0.out; have y1 := ZZ4.out; have y2 := ZZ9.out; have y3 := ZZ13.out; have y4 := ZZ14.out; have y5 := ZZ18.out; have y6 := ZZ23.out; have y7 := ZZ27.out; have y8 := ZZ28.out; have y9 := ZZ35.out; have y10 := ZZ39.out; have y11 := ZZ43.out; omega)
  clear HD_42
  have ZZ46 : Hid (w8.heap.size ≤ w9.heap.size) := K_44.out.size
  have W0_46 : Hid (EdgesOwn w2.heap.size w3.heap.size w9 a3 L) := W0_43.out.kept K_44.out (fun c h1 h2 h3 => by have y0 := ZZ0.out; have y1 := ZZ4.out; have y2 := ZZ9.out; have y3 := ZZ13.out; have y4 := ZZ14.out; have y5 := ZZ18.out; have y6 := ZZ23.out; have y7 := ZZ27.out; have y8 := ZZ28.out; have y9 := ZZ35.out; have y10 := ZZ39.out; have y11 := ZZ43.out; have y12 := ZZ46.out; omega)
  have G0_46 : Hid (EdgesOwn w4.heap.size w5.heap.size w9 a5 L) := G0_43.out.kept K_44.out (fun c h1 h2 h3 => by have y0 := ZZ0.out; have y1 := ZZ4.out; have y2 := ZZ9.out; have y3 := ZZ13.out; have y4 := ZZ14.out; have y5 := ZZ18.out; have y6 := ZZ23.out; have y7 := ZZ27.out; have y8 := ZZ28.out; have y9 := ZZ35.out; have y10 := ZZ39.out; have y11 := ZZ43.out; have y12 := ZZ46.out; omega)
  clear W0_43 X0_43 G0_43
  clear K_44
  have hn_m9 : ¬ ((m9 : Nat) : Int) < 0 := by omega
  have q_47 : w9.cell? ⟨w3.heap.size, 0, none⟩ = some (.int .i64 z) := HD_45.out.cell (b := w3.heap.size) (vs := [.int .i64 z, .slice a3 n cap3]) (i := 0) (by simp) (by simp)
  have q_48 : w9.cell? ⟨w3.heap.size, 1, none⟩ = some (.slice a3 n cap3) := HD_45.out.cell (b := w3.heap.size) (vs := [.int .i64 z, .slice a3 n cap3]) (i := 1) (by simp) (by simp)
  have q_49 : w9.cell? ⟨w5.heap.size, 0, none⟩ = some (.int .i64 z) := HD_45.out.cell (b := w5.heap.size) (vs := [.int .i64 z, .slice a5 n cap5]) (i := 0) (by simp) (by simp)
  have q_50 : w9.cell? ⟨w5.heap.size, 1, none⟩ = some (.slice a5 n cap5) := HD_45.out.cell (b := w5.heap.size) (vs := [.int .i64 z, .slice a5 n cap5]) (i := 1) (by simp) (by simp)
  go_wp2_with fail
  refine (eqGraph_any w4.heap.size w5.heap.size w2.heap.size w3.heap.size z z a5 a3 n n cap5 cap3 L L true _ G0_46.out.toIn W0_46.out.toIn (by have y0 := ZZ0.out; have y1 := ZZ4.out; have y2 := ZZ9.out; have y3 := ZZ13.out; have y4 := ZZ14.out; have y5 := ZZ18.out; have y6 := ZZ23.out; have y7 := ZZ27.out; have y8 := ZZ28.out; have y9 := ZZ35.out; have y10 := ZZ39.out; have y11 := ZZ43.out; have y12 := ZZ46.out; omega) (by have y0 := ZZ0.out; have y1 := ZZ4.out; have y2 := ZZ9.out; have y3 := ZZ13.out; have y4 := ZZ14.out; have y5 := ZZ18.out; have y6 := ZZ23.out; have y7 := ZZ27.out; have y8 := ZZ28.out; have y9 := ZZ35.out; have y10 := ZZ39.out; have y11 := ZZ43.out; have y12 := ZZ46.out; omega) HL.out HL.out HMN.out (by simp)).mono ?_
  rintro e w10 ⟨rfl, B_51⟩
  clear q_47 q_48 q_49 q_50
  have HD_52 : Hid (Hold w w10 [(w5.heap.size, [.int .i64 z, .slice a5 n cap5]), (w3.heap.size, [.int .i64 z, .slice a3 n cap3])]) := HD_45.out.below B_51.out
  clear HD_45
  have ZZ53 : Hid (w9.heap.size ≤ w10.heap.size) := B_51.out.size
  have W0_53 : Hid (EdgesOwn w2.heap.size w3.heap.size w10 a3 L) := W0_46.out.below B_51.out (by have y0 := ZZ0.out; have y1 := ZZ4.out; have y2 := ZZ9.out; have y3 := ZZ13.out; have y4 := ZZ14.out; have y5 := ZZ18.out; have y6 := ZZ23.out; have y7 := ZZ27.out; have y8 := ZZ28.out; have y9 := ZZ35.out; have y10 := ZZ39.out; have y11 := ZZ43.out; have y12 := ZZ46.out; have y13 := ZZ53.out; omega)
  have G0_53 : Hid (EdgesOwn w4.heap.size w5.heap.size w10 a5 L) := G0_46.out.below B_51.out (by have y0 := ZZ0.out; have y1 := ZZ4.out; have y2 := ZZ9.out; have y3 := ZZ13.out; have y4 := ZZ14.out; have y5 := ZZ18.out; have y6 := ZZ23.out; have y7 := ZZ27.out; have y8 := ZZ28.out; have y9 := ZZ35.out; have y10 := ZZ39.out; have y11 := ZZ43.out; have y12 := ZZ46.out; have y13 := ZZ53.out; omega)
  clear W0_46 G0_46
  clear B_51
  have q_54 : w10.cell? ⟨w5.heap.size, 0, none⟩ = some (.int .i64 z) := HD_52.out.cell (b := w5.heap.size) (vs := [.int .i64 z, .slice a5 n cap5]) (i := 0) (by simp) (by simp)
  have q_55 : w10.cell? ⟨w5.heap.size, 1, none⟩ = some (.slice a5 n cap5) := HD_52.out.cell (b := w5.heap.size) (vs := [.int .i64 z, .slice a5 n cap5]) (i := 1) (by simp) (by simp)
  go_wp2_with fail
  refine (markGraph_any w4.heap.size w5.heap.size z a5 n cap5 1 L _ G0_53.out (by have y0 := ZZ0.out; have y1 := ZZ4.out; have y2 := ZZ9.out; have y3 := ZZ13.out; have y4 := ZZ14.out; have y5 := ZZ18.out; have y6 := ZZ23.out; have y7 := ZZ27.out; have y8 := ZZ28.out; have y9 := ZZ35.out; have y10 := ZZ39.out; have y11 := ZZ43.out; have y12 := ZZ46.out; have y13 := ZZ53.out; omega) HL.out HMN.out (by omega)).mono ?_
  rintro e w11 ⟨m11, rfl, HM_m11, X_56, K_56⟩
  clear q_54 q_55
  have HD_57 : Hid (Hold w w11 [(w5.heap.size, [.int .i64 z, .slice a5 n cap5]), (w3.heap.size, [.int .i64 z, .slice a3 n cap3])]) := HD_52.out.kept K_56.out (by intro x hx; simp only [List.mem_cons, List.not_mem_nil, or_false] at hx; have y0 := ZZ0.out; have y1 := ZZ4.out; have y2 := ZZ9.out; have y3 := ZZ13.out; have y4 := ZZ14.out; have y5 := ZZ18.out; have y6 := ZZ23.out; have y7 := ZZ27.out; have y8 := ZZ28.out; have y9 := ZZ35.out; have y10 := ZZ39.out; have y11 := ZZ43.out; have y12 := ZZ46.out; have y13 := ZZ53.out; rcases hx with rfl | rfl <;> dsimp only <;> omega) (fun k hk => by have y0 := ZZ0.out; have y1 := ZZ4.out; have y2 := ZZ9.out; have y3 := ZZ13.out; have y4 := ZZ14.out; have y5 := ZZ18.out; have y6 := ZZ23.out; have y7 := ZZ27.out; have y8 := ZZ28.out; have y9 := ZZ35.out; have y10 := ZZ39.out; have y11 := ZZ43.out; have y12 := ZZ46.out; have y13 := ZZ53.out; omega)
  clear HD_52
  have ZZ58 : Hid (w10.heap.size ≤ w11.heap.size) := K_56.out.size
  have W0_58 : Hid (EdgesOwn w2.heap.size w3.heap.size w11 a3 L) := W0_53.out.kept K_56.out (fun c h1 h2 h3 => by have y0 := ZZ0.out; have y1 := ZZ4.out; have y2 := ZZ9.out; have y3 := ZZ13.out; have y4 := ZZ14.out; have y5 := ZZ18.out; have y6 := ZZ23.out; have y7 := ZZ27.out; have y8 := ZZ28.out; have y9 := ZZ35.out; have y10 := ZZ39.out; have y11 := ZZ43.out; have y12 := ZZ46.out; have y13 := ZZ53.out; have y14 := ZZ58.out; omega)
  clear W0_53 G0_53
  clear K_56
  have G0_59 : Hid (EdgesOwn w4.heap.size w5.heap.size w11 a5 (marksE 1 n)) := X_56.out
  clear X_56
  have q_60 : w11.cell? ⟨w5.heap.size, 0, none⟩ = some (.int .i64 z) := HD_57.out.cell (b := w5.heap.size) (vs := [.int .i64 z, .slice a5 n cap5]) (i := 0) (by simp) (by simp)
  have q_61 : w11.cell? ⟨w5.heap.size, 1, none⟩ = some (.slice a5 n cap5) := HD_57.out.cell (b := w5.heap.size) (vs := [.int .i64 z, .slice a5 n cap5]) (i := 1) (by simp) (by simp)
  go_wp2_with fail
  refine (heldGraph_any w4.heap.size w5.heap.size z a5 n cap5 1 _ G0_59.out.toIn (by have y0 := ZZ0.out; have y1 := ZZ4.out; have y2 := ZZ9.out; have y3 := ZZ13.out; have y4 := ZZ14.out; have y5 := ZZ18.out; have y6 := ZZ23.out; have y7 := ZZ27.out; have y8 := ZZ28.out; have y9 := ZZ35.out; have y10 := ZZ39.out; have y11 := ZZ43.out; have y12 := ZZ46.out; have y13 := ZZ53.out; have y14 := ZZ58.out; omega) HMN.out (by omega)).mono ?_
  rintro e w12 ⟨m12, rfl, HM_m12, B_62⟩
  clear q_60 q_61
  have HD_63 : Hid (Hold w w12 [(w5.heap.size, [.int .i64 z, .slice a5 n cap5]), (w3.heap.size, [.int .i64 z, .slice a3 n cap3])]) := HD_57.out.below B_62.out
  clear HD_57
  have ZZ64 : Hid (w11.heap.size ≤ w12.heap.size) := B_62.out.size
  have W0_64 : Hid (EdgesOwn w2.heap.size w3.heap.size w12 a3 L) := W0_58.out.below B_62.out (by have y0 := ZZ0.out; have y1 := ZZ4.out; have y2 := ZZ9.out; have y3 := ZZ13.out; have y4 := ZZ14.out; have y5 := ZZ18.out; have y6 := ZZ23.out; have y7 := ZZ27.out; have y8 := ZZ28.out; have y9 := ZZ35.out; have y10 := ZZ39.out; have y11 := ZZ43.out; have y12 := ZZ46.out; have y13 := ZZ53.out; have y14 := ZZ58.out; have y15 := ZZ64.out; omega)
  have G0_64 : Hid (EdgesOwn w4.heap.size w5.heap.size w12 a5 (marksE 1 n)) := G0_59.out.below B_62.out (by have y0 := ZZ0.out; have y1 := ZZ4.out; have y2 := ZZ9.out; have y3 := ZZ13.out; have y4 := ZZ14.out; have y5 := ZZ18.out; have y6 := ZZ23.out; have y7 := ZZ27.out; have y8 := ZZ28.out; have y9 := ZZ35.out; have y10 := ZZ39.out; have y11 := ZZ43.out; have y12 := ZZ46.out; have y13 := ZZ53.out; have y14 := ZZ58.out; have y15 := ZZ64.out; omega)
  clear W0_58 G0_59
  clear B_62
  obtain rfl : m11 = m12 := by rw [HM_m12.out, HM_m11.out]
  clear HM_m12
  have hn_m12 : ¬ ((m11 : Nat) : Int) < 0 := by omega
  go_wp2_with fail
  refine (toGraphs_any w.heap.size a0 n0 cap0 G _ (HR0.out.below HD_63.out.bel (Nat.le_refl _)) HD_63.out.bel.size HL0.out HM.out HTT.out).mono ?_
  rintro e w13 ⟨g13, rfl, X_65, B_66⟩
  have HD_67 : Hid (Hold w w13 [(w5.heap.size, [.int .i64 z, .slice a5 n cap5]), (w3.heap.size, [.int .i64 z, .slice a3 n cap3])]) := HD_63.out.below B_66.out
  clear HD_63
  have ZZ68 : Hid (w12.heap.size ≤ w13.heap.size) := B_66.out.size
  have W0_68 : Hid (EdgesOwn w2.heap.size w3.heap.size w13 a3 L) := W0_64.out.below B_66.out (by have y0 := ZZ0.out; have y1 := ZZ4.out; have y2 := ZZ9.out; have y3 := ZZ13.out; have y4 := ZZ14.out; have y5 := ZZ18.out; have y6 := ZZ23.out; have y7 := ZZ27.out; have y8 := ZZ28.out; have y9 := ZZ35.out; have y10 := ZZ39.out; have y11 := ZZ43.out; have y12 := ZZ46.out; have y13 := ZZ53.out; have y14 := ZZ58.out; have y15 := ZZ64.out; have y16 := ZZ68.out; omega)
  have G0_68 : Hid (EdgesOwn w4.heap.size w5.heap.size w13 a5 (marksE 1 n)) := G0_64.out.below B_66.out (by have y0 := ZZ0.out; have y1 := ZZ4.out; have y2 := ZZ9.out; have y3 := ZZ13.out; have y4 := ZZ14.out; have y5 := ZZ18.out; have y6 := ZZ23.out; have y7 := ZZ27.out; have y8 := ZZ28.out; have y9 := ZZ35.out; have y10 := ZZ39.out; have y11 := ZZ43.out; have y12 := ZZ46.out; have y13 := ZZ53.out; have y14 := ZZ58.out; have y15 := ZZ64.out; have y16 := ZZ68.out; omega)
  clear W0_64 G0_64
  clear B_66
  have T3_69 : Hid (GrsOwn w12.heap.size w13.heap.size w13 g13 G) := X_65.out
  clear X_65
  go_wp2_with fail
  refine (HI.out w12.heap.size w13.heap.size (some ⟨g13, 0, none⟩) n0 _ T3_69.out.toIn (by have y0 := ZZ0.out; have y1 := ZZ4.out; have y2 := ZZ9.out; have y3 := ZZ13.out; have y4 := ZZ14.out; have y5 := ZZ18.out; have y6 := ZZ23.out; have y7 := ZZ27.out; have y8 := ZZ28.out; have y9 := ZZ35.out; have y10 := ZZ39.out; have y11 := ZZ43.out; have y12 := ZZ46.out; have y13 := ZZ53.out; have y14 := ZZ58.out; have y15 := ZZ64.out; have y16 := ZZ68.out; omega)).mono ?_
  rintro e w14 ⟨a14, cap14, rfl, X_70, B_71⟩
  have HD_72 : Hid (Hold w w14 [(w5.heap.size, [.int .i64 z, .slice a5 n cap5]), (w3.heap.size, [.int .i64 z, .slice a3 n cap3])]) := HD_67.out.below B_71.out
  clear HD_67
  have ZZ73 : Hid (w13.heap.size ≤ w14.heap.size) := B_71.out.size
  have W0_73 : Hid (EdgesOwn w2.heap.size w3.heap.size w14 a3 L) := W0_68.out.below B_71.out (by have y0 := ZZ0.out; have y1 := ZZ4.out; have y2 := ZZ9.out; have y3 := ZZ13.out; have y4 := ZZ14.out; have y5 := ZZ18.out; have y6 := ZZ23.out; have y7 := ZZ27.out; have y8 := ZZ28.out; have y9 := ZZ35.out; have y10 := ZZ39.out; have y11 := ZZ43.out; have y12 := ZZ46.out; have y13 := ZZ53.out; have y14 := ZZ58.out; have y15 := ZZ64.out; have y16 := ZZ68.out; have y17 := ZZ73.out; omega)
  have G0_73 : Hid (EdgesOwn w4.heap.size w5.heap.size w14 a5 (marksE 1 n)) := G0_68.out.below B_71.out (by have y0 := ZZ0.out; have y1 := ZZ4.out; have y2 := ZZ9.out; have y3 := ZZ13.out; have y4 := ZZ14.out; have y5 := ZZ18.out; have y6 := ZZ23.out; have y7 := ZZ27.out; have y8 := ZZ28.out; have y9 := ZZ35.out; have y10 := ZZ39.out; have y11 := ZZ43.out; have y12 := ZZ46.out; have y13 := ZZ53.out; have y14 := ZZ58.out; have y15 := ZZ64.out; have y16 := ZZ68.out; have y17 := ZZ73.out; omega)
  have T3_73 : Hid (GrsOwn w12.heap.size w13.heap.size w14 g13 G) := T3_69.out.below B_71.out (by have y0 := ZZ0.out; have y1 := ZZ4.out; have y2 := ZZ9.out; have y3 := ZZ13.out; have y4 := ZZ14.out; have y5 := ZZ18.out; have y6 := ZZ23.out; have y7 := ZZ27.out; have y8 := ZZ28.out; have y9 := ZZ35.out; have y10 := ZZ39.out; have y11 := ZZ43.out; have y12 := ZZ46.out; have y13 := ZZ53.out; have y14 := ZZ58.out; have y15 := ZZ64.out; have y16 := ZZ68.out; have y17 := ZZ73.out; omega)
  clear W0_68 G0_68 T3_69
  clear B_71
  have H0_74 : Hid (EdgesOwn w13.heap.size w14.heap.size w14 a14 L) := X_70.out
  clear X_70
  clear T3_73
  have BA_75 : Hid (Below w14.heap.size w14 (w14.alloc (.cells #[.int .i64 z, .slice a14 n cap14] 26))) := below1' w14 _
  have HD_76 : Hid (Hold w (w14.alloc (.cells #[.int .i64 z, .slice a14 n cap14] 26)) [(w14.heap.size, [.int .i64 z, .slice a14 n cap14]), (w5.heap.size, [.int .i64 z, .slice a5 n cap5]), (w3.heap.size, [.int .i64 z, .slice a3 n cap3])]) := HD_72.out.more [.int .i64 z, .slice a14 n cap14] 26
  clear HD_72
  have ZZ77 : Hid ((w14.alloc (.cells #[.int .i64 z, .slice a14 n cap14] 26)).heap.size = w14.heap.size + 1) := by show _ = _; simp
  have ZZ78 : Hid (w14.heap.size ≤ (w14.alloc (.cells #[.int .i64 z, .slice a14 n cap14] 26)).heap.size) := BA_75.out.size
  have W0_78 : Hid (EdgesOwn w2.heap.size w3.heap.size (w14.alloc (.cells #[.int .i64 z, .slice a14 n cap14] 26)) a3 L) := W0_73.out.below BA_75.out (by have y0 := ZZ0.out; have y1 := ZZ4.out; have y2 := ZZ9.out; have y3 := ZZ13.out; have y4 := ZZ14.out; have y5 := ZZ18.out; have y6 := ZZ23.out; have y7 := ZZ27.out; have y8 := ZZ28.out; have y9 := ZZ35.out; have y10 := ZZ39.out; have y11 := ZZ43.out; have y12 := ZZ46.out; have y13 := ZZ53.out; have y14 := ZZ58.out; have y15 := ZZ64.out; have y16 := ZZ68.out; have y17 := ZZ73.out; have y18 := ZZ77.out; have y19 := ZZ78.out; omega)
  have G0_78 : Hid (EdgesOwn w4.heap.size w5.heap.size (w14.alloc (.cells #[.int .i64 z, .slice a14 n cap14] 26)) a5 (marksE 1 n)) := G0_73.out.below BA_75.out (by have y0 := ZZ0.out; have y1 := ZZ4.out; have y2 := ZZ9.out; have y3 := ZZ13.out; have y4 := ZZ14.out; have y5 := ZZ18.out; have y6 := ZZ23.out; have y7 := ZZ27.out; have y8 := ZZ28.out; have y9 := ZZ35.out; have y10 := ZZ39.out; have y11 := ZZ43.out; have y12 := ZZ46.out; have y13 := ZZ53.out; have y14 := ZZ58.out; have y15 := ZZ64.out; have y16 := ZZ68.out; have y17 := ZZ73.out; have y18 := ZZ77.out; have y19 := ZZ78.out; omega)
  have H0_78 : Hid (EdgesOwn w13.heap.size w14.heap.size (w14.alloc (.cells #[.int .i64 z, .slice a14 n cap14] 26)) a14 L) := H0_74.out.below BA_75.out (by have y0 := ZZ0.out; have y1 := ZZ4.out; have y2 := ZZ9.out; have y3 := ZZ13.out; have y4 := ZZ14.out; have y5 := ZZ18.out; have y6 := ZZ23.out; have y7 := ZZ27.out; have y8 := ZZ28.out; have y9 := ZZ35.out; have y10 := ZZ39.out; have y11 := ZZ43.out; have y12 := ZZ46.out; have y13 := ZZ53.out; have y14 := ZZ58.out; have y15 := ZZ64.out; have y16 := ZZ68.out; have y17 := ZZ73.out; have y18 := ZZ77.out; have y19 := ZZ78.out; omega)
  clear W0_73 G0_73 H0_74
  clear BA_75
  have q_79 : (w14.alloc (.cells #[.int .i64 z, .slice a14 n cap14] 26)).cell? ⟨w3.heap.size, 0, none⟩ = some (.int .i64 z) := HD_76.out.cell (b := w3.heap.size) (vs := [.int .i64 z, .slice a3 n cap3]) (i := 0) (by simp) (by simp)
  have q_80 : (w14.alloc (.cells #[.int .i64 z, .slice a14 n cap14] 26)).cell? ⟨w3.heap.size, 1, none⟩ = some (.slice a3 n cap3) := HD_76.out.cell (b := w3.heap.size) (vs := [.int .i64 z, .slice a3 n cap3]) (i := 1) (by simp) (by simp)
  have q_81 : (w14.alloc (.cells #[.int .i64 z, .slice a14 n cap14] 26)).cell? ⟨w14.heap.size, 0, none⟩ = some (.int .i64 z) := HD_76.out.cell (b := w14.heap.size) (vs := [.int .i64 z, .slice a14 n cap14]) (i := 0) (by simp) (by simp)
  have q_82 : (w14.alloc (.cells #[.int .i64 z, .slice a14 n cap14] 26)).cell? ⟨w14.heap.size, 1, none⟩ = some (.slice a14 n cap14) := HD_76.out.cell (b := w14.heap.size) (vs := [.int .i64 z, .slice a14 n cap14]) (i := 1) (by simp) (by simp)
  go_wp2_with fail
  refine (eqGraph_any w13.heap.size w14.heap.size w2.heap.size w3.heap.size z z a14 a3 n n cap14 cap3 L L true _ H0_78.out.toIn W0_78.out.toIn (by have y0 := ZZ0.out; have y1 := ZZ4.out; have y2 := ZZ9.out; have y3 := ZZ13.out; have y4 := ZZ14.out; have y5 := ZZ18.out; have y6 := ZZ23.out; have y7 := ZZ27.out; have y8 := ZZ28.out; have y9 := ZZ35.out; have y10 := ZZ39.out; have y11 := ZZ43.out; have y12 := ZZ46.out; have y13 := ZZ53.out; have y14 := ZZ58.out; have y15 := ZZ64.out; have y16 := ZZ68.out; have y17 := ZZ73.out; have y18 := ZZ77.out; have y19 := ZZ78.out; omega) (by have y0 := ZZ0.out; have y1 := ZZ4.out; have y2 := ZZ9.out; have y3 := ZZ13.out; have y4 := ZZ14.out; have y5 := ZZ18.out; have y6 := ZZ23.out; have y7 := ZZ27.out; have y8 := ZZ28.out; have y9 := ZZ35.out; have y10 := ZZ39.out; have y11 := ZZ43.out; have y12 := ZZ46.out; have y13 := ZZ53.out; have y14 := ZZ58.out; have y15 := ZZ64.out; have y16 := ZZ68.out; have y17 := ZZ73.out; have y18 := ZZ77.out; have y19 := ZZ78.out; omega) HL.out HL.out HMN.out (by simp)).mono ?_
  rintro e w15 ⟨rfl, B_83⟩
  clear q_79 q_80 q_81 q_82
  have HD_84 : Hid (Hold w w15 [(w14.heap.size, [.int .i64 z, .slice a14 n cap14]), (w5.heap.size, [.int .i64 z, .slice a5 n cap5]), (w3.heap.size, [.int .i64 z, .slice a3 n cap3])]) := HD_76.out.below B_83.out
  clear HD_76
  have ZZ85 : Hid ((w14.alloc (.cells #[.int .i64 z, .slice a14 n cap14] 26)).heap.size ≤ w15.heap.size) := B_83.out.size
  have W0_85 : Hid (EdgesOwn w2.heap.size w3.heap.size w15 a3 L) := W0_78.out.below B_83.out (by have y0 := ZZ0.out; have y1 := ZZ4.out; have y2 := ZZ9.out; have y3 := ZZ13.out; have y4 := ZZ14.out; have y5 := ZZ18.out; have y6 := ZZ23.out; have y7 := ZZ27.out; have y8 := ZZ28.out; have y9 := ZZ35.out; have y10 := ZZ39.out; have y11 := ZZ43.out; have y12 := ZZ46.out; have y13 := ZZ53.out; have y14 := ZZ58.out; have y15 := ZZ64.out; have y16 := ZZ68.out; have y17 := ZZ73.out; have y18 := ZZ77.out; have y19 := ZZ78.out; have y20 := ZZ85.out; omega)
  have G0_85 : Hid (EdgesOwn w4.heap.size w5.heap.size w15 a5 (marksE 1 n)) := G0_78.out.below B_83.out (by have y0 := ZZ0.out; have y1 := ZZ4.out; have y2 := ZZ9.out; have y3 := ZZ13.out; have y4 := ZZ14.out; have y5 := ZZ18.out; have y6 := ZZ23.out; have y7 := ZZ27.out; have y8 := ZZ28.out; have y9 := ZZ35.out; have y10 := ZZ39.out; have y11 := ZZ43.out; have y12 := ZZ46.out; have y13 := ZZ53.out; have y14 := ZZ58.out; have y15 := ZZ64.out; have y16 := ZZ68.out; have y17 := ZZ73.out; have y18 := ZZ77.out; have y19 := ZZ78.out; have y20 := ZZ85.out; omega)
  have H0_85 : Hid (EdgesOwn w13.heap.size w14.heap.size w15 a14 L) := H0_78.out.below B_83.out (by have y0 := ZZ0.out; have y1 := ZZ4.out; have y2 := ZZ9.out; have y3 := ZZ13.out; have y4 := ZZ14.out; have y5 := ZZ18.out; have y6 := ZZ23.out; have y7 := ZZ27.out; have y8 := ZZ28.out; have y9 := ZZ35.out; have y10 := ZZ39.out; have y11 := ZZ43.out; have y12 := ZZ46.out; have y13 := ZZ53.out; have y14 := ZZ58.out; have y15 := ZZ64.out; have y16 := ZZ68.out; have y17 := ZZ73.out; have y18 := ZZ77.out; have y19 := ZZ78.out; have y20 := ZZ85.out; omega)
  clear W0_78 G0_78 H0_78
  clear B_83
  have q_86 : w15.cell? ⟨w5.heap.size, 0, none⟩ = some (.int .i64 z) := HD_84.out.cell (b := w5.heap.size) (vs := [.int .i64 z, .slice a5 n cap5]) (i := 0) (by simp) (by simp)
  have q_87 : w15.cell? ⟨w5.heap.size, 1, none⟩ = some (.slice a5 n cap5) := HD_84.out.cell (b := w5.heap.size) (vs := [.int .i64 z, .slice a5 n cap5]) (i := 1) (by simp) (by simp)
  go_wp2_with fail
  refine (heldGraph_any w4.heap.size w5.heap.size z a5 n cap5 1 _ G0_85.out.toIn (by have y0 := ZZ0.out; have y1 := ZZ4.out; have y2 := ZZ9.out; have y3 := ZZ13.out; have y4 := ZZ14.out; have y5 := ZZ18.out; have y6 := ZZ23.out; have y7 := ZZ27.out; have y8 := ZZ28.out; have y9 := ZZ35.out; have y10 := ZZ39.out; have y11 := ZZ43.out; have y12 := ZZ46.out; have y13 := ZZ53.out; have y14 := ZZ58.out; have y15 := ZZ64.out; have y16 := ZZ68.out; have y17 := ZZ73.out; have y18 := ZZ77.out; have y19 := ZZ78.out; have y20 := ZZ85.out; omega) HMN.out (by omega)).mono ?_
  rintro e w16 ⟨m16, rfl, HM_m16, B_88⟩
  clear q_86 q_87
  have HD_89 : Hid (Hold w w16 [(w14.heap.size, [.int .i64 z, .slice a14 n cap14]), (w5.heap.size, [.int .i64 z, .slice a5 n cap5]), (w3.heap.size, [.int .i64 z, .slice a3 n cap3])]) := HD_84.out.below B_88.out
  clear HD_84
  have ZZ90 : Hid (w15.heap.size ≤ w16.heap.size) := B_88.out.size
  have W0_90 : Hid (EdgesOwn w2.heap.size w3.heap.size w16 a3 L) := W0_85.out.below B_88.out (by have y0 := ZZ0.out; have y1 := ZZ4.out; have y2 := ZZ9.out; have y3 := ZZ13.out; have y4 := ZZ14.out; have y5 := ZZ18.out; have y6 := ZZ23.out; have y7 := ZZ27.out; have y8 := ZZ28.out; have y9 := ZZ35.out; have y10 := ZZ39.out; have y11 := ZZ43.out; have y12 := ZZ46.out; have y13 := ZZ53.out; have y14 := ZZ58.out; have y15 := ZZ64.out; have y16 := ZZ68.out; have y17 := ZZ73.out; have y18 := ZZ77.out; have y19 := ZZ78.out; have y20 := ZZ85.out; have y21 := ZZ90.out; omega)
  have G0_90 : Hid (EdgesOwn w4.heap.size w5.heap.size w16 a5 (marksE 1 n)) := G0_85.out.below B_88.out (by have y0 := ZZ0.out; have y1 := ZZ4.out; have y2 := ZZ9.out; have y3 := ZZ13.out; have y4 := ZZ14.out; have y5 := ZZ18.out; have y6 := ZZ23.out; have y7 := ZZ27.out; have y8 := ZZ28.out; have y9 := ZZ35.out; have y10 := ZZ39.out; have y11 := ZZ43.out; have y12 := ZZ46.out; have y13 := ZZ53.out; have y14 := ZZ58.out; have y15 := ZZ64.out; have y16 := ZZ68.out; have y17 := ZZ73.out; have y18 := ZZ77.out; have y19 := ZZ78.out; have y20 := ZZ85.out; have y21 := ZZ90.out; omega)
  have H0_90 : Hid (EdgesOwn w13.heap.size w14.heap.size w16 a14 L) := H0_85.out.below B_88.out (by have y0 := ZZ0.out; have y1 := ZZ4.out; have y2 := ZZ9.out; have y3 := ZZ13.out; have y4 := ZZ14.out; have y5 := ZZ18.out; have y6 := ZZ23.out; have y7 := ZZ27.out; have y8 := ZZ28.out; have y9 := ZZ35.out; have y10 := ZZ39.out; have y11 := ZZ43.out; have y12 := ZZ46.out; have y13 := ZZ53.out; have y14 := ZZ58.out; have y15 := ZZ64.out; have y16 := ZZ68.out; have y17 := ZZ73.out; have y18 := ZZ77.out; have y19 := ZZ78.out; have y20 := ZZ85.out; have y21 := ZZ90.out; omega)
  clear W0_85 G0_85 H0_85
  clear B_88
  obtain rfl : m11 = m16 := by rw [HM_m16.out, HM_m11.out]
  clear HM_m16
  have hn_m16 : ¬ ((m11 : Nat) : Int) < 0 := by omega
  go_wp2
  go_ret
  exact ⟨rfl, HD_89.out.bel⟩
end Go.Proofs.Ytigojleieihdoaa
