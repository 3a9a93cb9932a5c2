/-
  The walk of FnExactNfaOf.
-/
import Derived.Test.YtkcflhlipdnbnaaJn20
import Derived.Test.YtkcflhlipdnbnaaJn04
import Derived.Test.YtkcflhlipdnbnaaJn02
import Derived.Deep.RegionHeld3
namespace Go.Proofs.Ytkcflhlipdnbnaa
open Go.RowKit

set_option maxHeartbeats 16000000 in
set_option maxRecDepth 100000 in
theorem law_3 (a1 : Option Addr) (n1 cap1 : Nat) (l1 : List Pc) (w : World) (hm1 : n1 ≤ maxLen) (hl1 : l1.length = n1 ∧ ∀ i, i < n1 → (pat l1 i).2.2.length ≤ maxLen) (hr1 : PathIn 0 w.heap.size w a1 l1) :
    Calls Try.prog 3 #[pv a1 n1 cap1] w fun e w' => e = .returned (.bool true) ∧ Below w.heap.size w w' := by
  have HR1 : Hid (PathIn 0 w.heap.size w a1 l1) := hr1
  have HL1 : Hid (l1.length = n1) := hl1.1
  have HLM1 : Hid (∀ i, i < n1 → (pat l1 i).2.2.length ≤ maxLen) := hl1.2
  have HMX1 : Hid (n1 ≤ maxLen) := hm1
  clear hr1 hl1 hm1
  obtain ⟨LA, HLA⟩ : ∃ x, Hid (x = nfAr l1) := ⟨_, rfl⟩
  obtain ⟨LE, HLE⟩ : ∃ x, Hid (x = nfEn l1) := ⟨_, rfl⟩
  obtain ⟨SS, HSS⟩ : ∃ x, Hid (x = nfSt l1) := ⟨_, rfl⟩
  obtain ⟨RG, HRG⟩ : ∃ x, Hid (x = nfG l1) := ⟨_, rfl⟩
  have HLB : Hid (LA.length ≤ 1048576 ∧ LE.length ≤ 1048576) := by
    rw [HLA.out, HLE.out]
    show _ ∧ _
    unfold nfAr nfEn
    by_cases h : nfG l1 = true
    · rw [if_pos h, if_pos h]
      obtain ⟨h1, h2⟩ := nfG_parts h
      have h3 := nfA_few h1 h2
      have h4 := nfE_len l1
      have h5 := nfS_len h1
      omega
    · rw [if_neg h, if_neg h]; simp
  unfold pv
  go_enter Try.func3, Try.ntmps3
  go_wp2_with fail
  refine (szPath_any 0 w.heap.size a1 n1 cap1 1048576 l1 _ (HR1.out.below (below1 w _) (Nat.le_refl _)) (by simp) HL1.out HMX1.out HLM1.out (by omega)).mono ?_
  rintro e w1 ⟨x, rfl, HX1, hb1⟩
  have HD_1 : Hid (Hold w w1 [(w.heap.size, [.slice a1 n1 cap1])]) := ((Hold.none w).more [.slice a1 n1 cap1] 24).below hb1.out
  clear hb1
  by_cases hx : x < 0
  · go_wp2
    go_ret
    exact ⟨rfl, HD_1.out.bel⟩
  have HM1 : Hid (n1 ≤ 1048576 ∧ (∀ i, i < n1 → (pat l1 i).2.2.length ≤ 1048576) ∧ kidsLen l1 n1 ≤ 1048576) := by
    rcases HX1.out with h | ⟨h1, h2⟩
    · omega
    · refine ⟨by omega, fun i hi => ?_, by omega⟩
      have := kids_le l1 hi
      omega
  clear HX1 HMX1 HLM1
  have ZZ2 : Hid (w.heap.size < w1.heap.size) := HD_1.out.lt (vs := [.slice a1 n1 cap1]) (by simp)
  have HSP : Hid (∀ (lo hi g : Nat) (w0 : World), PathIn lo hi w0 (some ⟨g, 0, none⟩) l1 → hi ≤ w0.heap.size → Calls Try.prog 9 #[.agg #[.slice (some ⟨g, 0, none⟩) n1 n1]] w0 fun e w' => ∃ (aa : Option Addr) (an ac : Nat) (eb : Option Addr) (m mc : Nat), e = .returned (.tuple #[.agg #[.int .i64 SS, .slice aa an ac, .slice eb m mc], .bool RG]) ∧ Hid (LA.length = an) ∧ Hid (LE.length = m) ∧ Hid (NfaIn w0.heap.size w'.heap.size w' aa eb LA LE) ∧ Hid (Below w0.heap.size w0 w')) := fun lo hi g w0 h1 h2 => by
    refine (specNfaOf_any lo hi (some ⟨g, 0, none⟩) n1 n1 l1 w0 h1 h2 HL1.out HM1.out.1 HM1.out.2.1).mono ?_
    rintro e w' ⟨s, aa, an, ac, eb, m, mc, rfl, a1, a2, a3, a4, a5⟩
    rw [HLA.out, HLE.out, HSS.out, HRG.out]
    exact ⟨aa, an, ac, eb, m, mc, by rw [a1.out], a2, a3, a4, a5⟩
  have HIM : Hid (∀ (lo hi g : Nat) (w0 : World), PathIn lo hi w0 (some ⟨g, 0, none⟩) l1 → hi ≤ w0.heap.size → Calls Try.prog 11 #[.agg #[.slice (some ⟨g, 0, none⟩) n1 n1]] w0 fun e w' => ∃ (aa : Option Addr) (an ac : Nat) (eb : Option Addr) (m mc : Nat), e = .returned (.tuple #[.agg #[.int .i64 SS, .slice aa an ac, .slice eb m mc], .bool RG]) ∧ Hid (LA.length = an) ∧ Hid (LE.length = m) ∧ Hid (NfaOwn w0.heap.size w'.heap.size w' aa eb LA LE) ∧ Hid (Below w0.heap.size w0 w')) := fun lo hi g w0 h1 h2 => by
    refine (implNfaOf_any lo hi (some ⟨g, 0, none⟩) n1 n1 l1 w0 h1 h2 HL1.out HM1.out.1 HM1.out.2.1).mono ?_
    rintro e w' ⟨s, aa, an, ac, eb, m, mc, rfl, a1, a2, a3, a4, a5⟩
    rw [HLA.out, HLE.out, HSS.out, HRG.out]
    exact ⟨aa, an, ac, eb, m, mc, by rw [a1.out], a2, a3, a4, a5⟩
  clear HLA HLE HSS HRG
  have q_4 : w1.cell? ⟨w.heap.size, 0, none⟩ = some (.slice a1 n1 cap1) := HD_1.out.cell (b := w.heap.size) (vs := [.slice a1 n1 cap1]) (i := 0) (by simp) (by simp)
  go_wp2_with fail
  refine (toPath_any 0 w.heap.size a1 n1 cap1 l1 _ (HR1.out.below HD_1.out.bel (Nat.le_refl _)) HD_1.out.bel.size HL1.out HM1.out.1 HM1.out.2.1).mono ?_
  rintro e w2 ⟨g2, rfl, X_3, B_5⟩
  clear q_4
  have HD_6 : Hid (Hold w w2 [(w.heap.size, [.slice a1 n1 cap1])]) := HD_1.out.below B_5.out
  clear HD_1
  have ZZ7 : Hid (w1.heap.size ≤ w2.heap.size) := B_5.out.size
  clear B_5
  have T1_8 : Hid (PathOwn w1.heap.size w2.heap.size w2 (some ⟨g2, 0, none⟩) l1) := X_3.out
  clear X_3
  go_wp2_with fail
  refine (HSP.out w1.heap.size w2.heap.size g2 _ T1_8.out.toIn (by have y0 := ZZ2.out; have y1 := ZZ7.out; omega)).mono ?_
  rintro e w3 ⟨aa3, an3, ac3, eb3, em3, ec3, rfl, HA3, HE3, X_9, B_10⟩
  have HD_11 : Hid (Hold w w3 [(w.heap.size, [.slice a1 n1 cap1])]) := HD_6.out.below B_10.out
  clear HD_6
  have ZZ12 : Hid (w2.heap.size ≤ w3.heap.size) := B_10.out.size
  have T1_12 : Hid (PathOwn w1.heap.size w2.heap.size w3 (some ⟨g2, 0, none⟩) l1) := T1_8.out.below B_10.out (by have y0 := ZZ2.out; have y1 := ZZ7.out; have y2 := ZZ12.out; omega)
  clear T1_8
  clear B_10
  have W0_13 : Hid (NfaIn w2.heap.size w3.heap.size w3 aa3 eb3 LA LE) := X_9.out
  clear X_9
  have HZ3 : Hid (an3 ≤ 1048576 ∧ em3 ≤ 1048576) := by rw [← HA3.out, ← HE3.out]; exact HLB.out
  clear T1_12
  have BA_14 : Hid (Below w3.heap.size w3 (w3.alloc (.cells #[.int .i64 SS, .slice aa3 an3 ac3, .slice eb3 em3 ec3] 29))) := below1' w3 _
  have HD_15 : Hid (Hold w (w3.alloc (.cells #[.int .i64 SS, .slice aa3 an3 ac3, .slice eb3 em3 ec3] 29)) [(w3.heap.size, [.int .i64 SS, .slice aa3 an3 ac3, .slice eb3 em3 ec3]), (w.heap.size, [.slice a1 n1 cap1])]) := HD_11.out.more [.int .i64 SS, .slice aa3 an3 ac3, .slice eb3 em3 ec3] 29
  clear HD_11
  have ZZ16 : Hid ((w3.alloc (.cells #[.int .i64 SS, .slice aa3 an3 ac3, .slice eb3 em3 ec3] 29)).heap.size = w3.heap.size + 1) := by show _ = _; simp
  have ZZ17 : Hid (w3.heap.size ≤ (w3.alloc (.cells #[.int .i64 SS, .slice aa3 an3 ac3, .slice eb3 em3 ec3] 29)).heap.size) := BA_14.out.size
  have W0_17 : Hid (NfaIn w2.heap.size w3.heap.size (w3.alloc (.cells #[.int .i64 SS, .slice aa3 an3 ac3, .slice eb3 em3 ec3] 29)) aa3 eb3 LA LE) := W0_13.out.below BA_14.out (by have y0 := ZZ2.out; have y1 := ZZ7.out; have y2 := ZZ12.out; have y3 := ZZ16.out; have y4 := ZZ17.out; omega)
  clear W0_13
  clear BA_14
  have q_19 : (w3.alloc (.cells #[.int .i64 SS, .slice aa3 an3 ac3, .slice eb3 em3 ec3] 29)).cell? ⟨w.heap.size, 0, none⟩ = some (.slice a1 n1 cap1) := HD_15.out.cell (b := w.heap.size) (vs := [.slice a1 n1 cap1]) (i := 0) (by simp) (by simp)
  go_wp2_with fail
  refine (toPath_any 0 w.heap.size a1 n1 cap1 l1 _ (HR1.out.below HD_15.out.bel (Nat.le_refl _)) HD_15.out.bel.size HL1.out HM1.out.1 HM1.out.2.1).mono ?_
  rintro e w4 ⟨g4, rfl, X_18, B_20⟩
  clear q_19
  have HD_21 : Hid (Hold w w4 [(w3.heap.size, [.int .i64 SS, .slice aa3 an3 ac3, .slice eb3 em3 ec3]), (w.heap.size, [.slice a1 n1 cap1])]) := HD_15.out.below B_20.out
  clear HD_15
  have ZZ22 : Hid ((w3.alloc (.cells #[.int .i64 SS, .slice aa3 an3 ac3, .slice eb3 em3 ec3] 29)).heap.size ≤ w4.heap.size) := B_20.out.size
  have W0_22 : Hid (NfaIn w2.heap.size w3.heap.size w4 aa3 eb3 LA LE) := W0_17.out.below B_20.out (by have y0 := ZZ2.out; have y1 := ZZ7.out; have y2 := ZZ12.out; have y3 := ZZ16.out; have y4 := ZZ17.out; have y5 := ZZ22.out; omega)
  clear W0_17
  clear B_20
  have X0_23 : Hid (PathOwn (w3.alloc (.cells #[.int .i64 SS, .slice aa3 an3 ac3, .slice eb3 em3 ec3] 29)).heap.size w4.heap.size w4 (some ⟨g4, 0, none⟩) l1) := X_18.out
  clear X_18
  have BA_24 : Hid (Below w4.heap.size w4 (w4.alloc (.cells #[.slice (some ⟨g4, 0, none⟩) n1 n1] 34))) := below1' w4 _
  have HD_25 : Hid (Hold w (w4.alloc (.cells #[.slice (some ⟨g4, 0, none⟩) n1 n1] 34)) [(w4.heap.size, [.slice (some ⟨g4, 0, none⟩) n1 n1]), (w3.heap.size, [.int .i64 SS, .slice aa3 an3 ac3, .slice eb3 em3 ec3]), (w.heap.size, [.slice a1 n1 cap1])]) := HD_21.out.more [.slice (some ⟨g4, 0, none⟩) n1 n1] 34
  clear HD_21
  have ZZ26 : Hid ((w4.alloc (.cells #[.slice (some ⟨g4, 0, none⟩) n1 n1] 34)).heap.size = w4.heap.size + 1) := by show _ = _; simp
  have ZZ27 : Hid (w4.heap.size ≤ (w4.alloc (.cells #[.slice (some ⟨g4, 0, none⟩) n1 n1] 34)).heap.size) := BA_24.out.size
  have W0_27 : Hid (NfaIn w2.heap.size w3.heap.size (w4.alloc (.cells #[.slice (some ⟨g4, 0, none⟩) n1 n1] 34)) aa3 eb3 LA LE) := W0_22.out.below BA_24.out (by have y0 := ZZ2.out; have y1 := ZZ7.out; have y2 := ZZ12.out; have y3 := ZZ16.out; have y4 := ZZ17.out; have y5 := ZZ22.out; have y6 := ZZ26.out; have y7 := ZZ27.out; omega)
  have X0_27 : Hid (PathOwn (w3.alloc (.cells #[.int .i64 SS, .slice aa3 an3 ac3, .slice eb3 em3 ec3] 29)).heap.size w4.heap.size (w4.alloc (.cells #[.slice (some ⟨g4, 0, none⟩) n1 n1] 34)) (some ⟨g4, 0, none⟩) l1) := X0_23.out.below BA_24.out (by have y0 := ZZ2.out; have y1 := ZZ7.out; have y2 := ZZ12.out; have y3 := ZZ16.out; have y4 := ZZ17.out; have y5 := ZZ22.out; have y6 := ZZ26.out; have y7 := ZZ27.out; omega)
  clear W0_22 X0_23
  clear BA_24
  have q_29 : (w4.alloc (.cells #[.slice (some ⟨g4, 0, none⟩) n1 n1] 34)).cell? ⟨w4.heap.size, 0, none⟩ = some (.slice (some ⟨g4, 0, none⟩) n1 n1) := HD_25.out.cell (b := w4.heap.size) (vs := [.slice (some ⟨g4, 0, none⟩) n1 n1]) (i := 0) (by simp) (by simp)
  go_wp2_with fail
  refine (HIM.out (w3.alloc (.cells #[.int .i64 SS, .slice aa3 an3 ac3, .slice eb3 em3 ec3] 29)).heap.size w4.heap.size g4 _ X0_27.out.toIn (by have y0 := ZZ2.out; have y1 := ZZ7.out; have y2 := ZZ12.out; have y3 := ZZ16.out; have y4 := ZZ17.out; have y5 := ZZ22.out; have y6 := ZZ26.out; have y7 := ZZ27.out; omega)).mono ?_
  rintro e w5 ⟨aa5, an5, ac5, eb5, em5, ec5, rfl, HA5, HE5, X_28, B_30⟩
  clear q_29
  have HD_31 : Hid (Hold w w5 [(w4.heap.size, [.slice (some ⟨g4, 0, none⟩) n1 n1]), (w3.heap.size, [.int .i64 SS, .slice aa3 an3 ac3, .slice eb3 em3 ec3]), (w.heap.size, [.slice a1 n1 cap1])]) := HD_25.out.below B_30.out
  clear HD_25
  have ZZ32 : Hid ((w4.alloc (.cells #[.slice (some ⟨g4, 0, none⟩) n1 n1] 34)).heap.size ≤ w5.heap.size) := B_30.out.size
  have W0_32 : Hid (NfaIn w2.heap.size w3.heap.size w5 aa3 eb3 LA LE) := W0_27.out.below B_30.out (by have y0 := ZZ2.out; have y1 := ZZ7.out; have y2 := ZZ12.out; have y3 := ZZ16.out; have y4 := ZZ17.out; have y5 := ZZ22.out; have y6 := ZZ26.out; have y7 := ZZ27.out; have y8 := ZZ32.out; omega)
  have X0_32 : Hid (PathOwn (w3.alloc (.cells #[.int .i64 SS, .slice aa3 an3 ac3, .slice eb3 em3 ec3] 29)).heap.size w4.heap.size w5 (some ⟨g4, 0, none⟩) l1) := X0_27.out.below B_30.out (by have y0 := ZZ2.out; have y1 := ZZ7.out; have y2 := ZZ12.out; have y3 := ZZ16.out; have y4 := ZZ17.out; have y5 := ZZ22.out; have y6 := ZZ26.out; have y7 := ZZ27.out; have y8 := ZZ32.out; omega)
  clear W0_27 X0_27
  clear B_30
  have G0_33 : Hid (NfaOwn (w4.alloc (.cells #[.slice (some ⟨g4, 0, none⟩) n1 n1] 34)).heap.size w5.heap.size w5 aa5 eb5 LA LE) := X_28.out
  clear X_28
  have HZ5 : Hid (an5 ≤ 1048576 ∧ em5 ≤ 1048576) := by rw [← HA5.out, ← HE5.out]; exact HLB.out
  have BA_34 : Hid (Below w5.heap.size w5 (w5.alloc (.cells #[.int .i64 SS, .slice aa5 an5 ac5, .slice eb5 em5 ec5] 29))) := below1' w5 _
  have HD_35 : Hid (Hold w (w5.alloc (.cells #[.int .i64 SS, .slice aa5 an5 ac5, .slice eb5 em5 ec5] 29)) [(w5.heap.size, [.int .i64 SS, .slice aa5 an5 ac5, .slice eb5 em5 ec5]), (w4.heap.size, [.slice (some ⟨g4, 0, none⟩) n1 n1]), (w3.heap.size, [.int .i64 SS, .slice aa3 an3 ac3, .slice eb3 em3 ec3]), (w.heap.size, [.slice a1 n1 cap1])]) := HD_31.out.more [.int .i64 SS, .slice aa5 an5 ac5, .slice eb5 em5 ec5] 29
  clear HD_31
  have ZZ36 : Hid ((w5.alloc (.cells #[.int .i64 SS, .slice aa5 an5 ac5, .slice eb5 em5 ec5] 29)).heap.size = w5.heap.size + 1) := by show _ = _; simp
  have ZZ37 : Hid (w5.heap.size ≤ (w5.alloc (.cells #[.int .i64 SS, .slice aa5 an5 ac5, .slice eb5 em5 ec5] 29)).heap.size) := BA_34.out.size
  have W0_37 : Hid (NfaIn w2.heap.size w3.heap.size (w5.alloc (.cells #[.int .i64 SS, .slice aa5 an5 ac5, .slice eb5 em5 ec5] 29)) aa3 eb3 LA LE) := W0_32.out.below BA_34.out (by have y0 := ZZ2.out; have y1 := ZZ7.out; have y2 := ZZ12.out; have y3 := ZZ16.out; have y4 := ZZ17.out; have y5 := ZZ22.out; have y6 := ZZ26.out; have y7 := ZZ27.out; have y8 := ZZ32.out; have y9 := ZZ36.out; have y10 := ZZ37.out; omega)
  have X0_37 : Hid (PathOwn (w3.alloc (.cells #[.int .i64 SS, .slice aa3 an3 ac3, .slice eb3 em3 ec3] 29)).heap.size w4.heap.size (w5.alloc (.cells #[.int .i64 SS, .slice aa5 an5 ac5, .slice eb5 em5 ec5] 29)) (some ⟨g4, 0, none⟩) l1) := X0_32.out.below BA_34.out (by have y0 := ZZ2.out; have y1 := ZZ7.out; have y2 := ZZ12.out; have y3 := ZZ16.out; have y4 := ZZ17.out; have y5 := ZZ22.out; have y6 := ZZ26.out; have y7 := ZZ27.out; have y8 := ZZ32.out; have y9 := ZZ36.out; have y10 := ZZ37.out; omega)
  have G0_37 : Hid (NfaOwn (w4.alloc (.cells #[.slice (some ⟨g4, 0, none⟩) n1 n1] 34)).heap.size w5.heap.size (w5.alloc (.cells #[.int .i64 SS, .slice aa5 an5 ac5, .slice eb5 em5 ec5] 29)) aa5 eb5 LA LE) := G0_33.out.below BA_34.out (by have y0 := ZZ2.out; have y1 := ZZ7.out; have y2 := ZZ12.out; have y3 := ZZ16.out; have y4 := ZZ17.out; have y5 := ZZ22.out; have y6 := ZZ26.out; have y7 := ZZ27.out; have y8 := ZZ32.out; have y9 := ZZ36.out; have y10 := ZZ37.out; omega)
  clear W0_32 X0_32 G0_33
  clear BA_34
  have q_38 : (w5.alloc (.cells #[.int .i64 SS, .slice aa5 an5 ac5, .slice eb5 em5 ec5] 29)).cell? ⟨w3.heap.size, 0, none⟩ = some (.int .i64 SS) := HD_35.out.cell (b := w3.heap.size) (vs := [.int .i64 SS, .slice aa3 an3 ac3, .slice eb3 em3 ec3]) (i := 0) (by simp) (by simp)
  have q_39 : (w5.alloc (.cells #[.int .i64 SS, .slice aa5 an5 ac5, .slice eb5 em5 ec5] 29)).cell? ⟨w3.heap.size, 1, none⟩ = some (.slice aa3 an3 ac3) := HD_35.out.cell (b := w3.heap.size) (vs := [.int .i64 SS, .slice aa3 an3 ac3, .slice eb3 em3 ec3]) (i := 1) (by simp) (by simp)
  have q_40 : (w5.alloc (.cells #[.int .i64 SS, .slice aa5 an5 ac5, .slice eb5 em5 ec5] 29)).cell? ⟨w3.heap.size, 2, none⟩ = some (.slice eb3 em3 ec3) := HD_35.out.cell (b := w3.heap.size) (vs := [.int .i64 SS, .slice aa3 an3 ac3, .slice eb3 em3 ec3]) (i := 2) (by simp) (by simp)
  go_wp2_with fail
  refine (eqNfa_any (w4.alloc (.cells #[.slice (some ⟨g4, 0, none⟩) n1 n1] 34)).heap.size w5.heap.size w2.heap.size w3.heap.size SS SS aa5 aa3 eb5 eb3 an5 an3 ac5 ac3 em5 em3 ec5 ec3 LA LA LE LE true _ G0_37.out.toIn W0_37.out (by have y0 := ZZ2.out; have y1 := ZZ7.out; have y2 := ZZ12.out; have y3 := ZZ16.out; have y4 := ZZ17.out; have y5 := ZZ22.out; have y6 := ZZ26.out; have y7 := ZZ27.out; have y8 := ZZ32.out; have y9 := ZZ36.out; have y10 := ZZ37.out; omega) (by have y0 := ZZ2.out; have y1 := ZZ7.out; have y2 := ZZ12.out; have y3 := ZZ16.out; have y4 := ZZ17.out; have y5 := ZZ22.out; have y6 := ZZ26.out; have y7 := ZZ27.out; have y8 := ZZ32.out; have y9 := ZZ36.out; have y10 := ZZ37.out; omega) HA5.out HA3.out HZ5.out.1 HE5.out HE3.out HZ5.out.2 (by simp)).mono ?_
  rintro e w6 ⟨rfl, B_41⟩
  clear q_38 q_39 q_40
  have HD_42 : Hid (Hold w w6 [(w5.heap.size, [.int .i64 SS, .slice aa5 an5 ac5, .slice eb5 em5 ec5]), (w4.heap.size, [.slice (some ⟨g4, 0, none⟩) n1 n1]), (w3.heap.size, [.int .i64 SS, .slice aa3 an3 ac3, .slice eb3 em3 ec3]), (w.heap.size, [.slice a1 n1 cap1])]) := HD_35.out.below B_41.out
  clear HD_35
  have ZZ43 : Hid ((w5.alloc (.cells #[.int .i64 SS, .slice aa5 an5 ac5, .slice eb5 em5 ec5] 29)).heap.size ≤ w6.heap.size) := B_41.out.size
  have W0_43 : Hid (NfaIn w2.heap.size w3.heap.size w6 aa3 eb3 LA LE) := W0_37.out.below B_41.out (by have y0 := ZZ2.out; have y1 := ZZ7.out; have y2 := ZZ12.out; have y3 := ZZ16.out; have y4 := ZZ17.out; have y5 := ZZ22.out; have y6 := ZZ26.out; have y7 := ZZ27.out; have y8 := ZZ32.out; have y9 := ZZ36.out; have y10 := ZZ37.out; have y11 := ZZ43.out; omega)
  have X0_43 : Hid (PathOwn (w3.alloc (.cells #[.int .i64 SS, .slice aa3 an3 ac3, .slice eb3 em3 ec3] 29)).heap.size w4.heap.size w6 (some ⟨g4, 0, none⟩) l1) := X0_37.out.below B_41.out (by have y0 := ZZ2.out; have y1 := ZZ7.out; have y2 := ZZ12.out; have y3 := ZZ16.out; have y4 := ZZ17.out; have y5 := ZZ22.out; have y6 := ZZ26.out; have y7 := ZZ27.out; have y8 := ZZ32.out; have y9 := ZZ36.out; have y10 := ZZ37.out; have y11 := ZZ43.out; omega)
  have G0_43 : Hid (NfaOwn (w4.alloc (.cells #[.slice (some ⟨g4, 0, none⟩) n1 n1] 34)).heap.size w5.heap.size w6 aa5 eb5 LA LE) := G0_37.out.below B_41.out (by have y0 := ZZ2.out; have y1 := ZZ7.out; have y2 := ZZ12.out; have y3 := ZZ16.out; have y4 := ZZ17.out; have y5 := ZZ22.out; have y6 := ZZ26.out; have y7 := ZZ27.out; have y8 := ZZ32.out; have y9 := ZZ36.out; have y10 := ZZ37.out; have y11 := ZZ43.out; omega)
  clear W0_37 X0_37 G0_37
  clear B_41
  have q_44 : w6.cell? ⟨w4.heap.size, 0, none⟩ = some (.slice (some ⟨g4, 0, none⟩) n1 n1) := HD_42.out.cell (b := w4.heap.size) (vs := [.slice (some ⟨g4, 0, none⟩) n1 n1]) (i := 0) (by simp) (by simp)
  have q_45 : w6.cell? ⟨w.heap.size, 0, none⟩ = some (.slice a1 n1 cap1) := HD_42.out.cell (b := w.heap.size) (vs := [.slice a1 n1 cap1]) (i := 0) (by simp) (by simp)
  have HC1 : Hid (∀ w0, Below w6.heap.size w6 w0 → Calls Try.prog 10 #[.agg #[.slice a1 n1 cap1]] w0 fun e w' => ∃ g : Nat, e = .returned (.agg #[.slice (some ⟨g, 0, none⟩) n1 n1]) ∧ Hid (PathIn w6.heap.size w'.heap.size w' (some ⟨g, 0, none⟩) l1) ∧ Hid (Below w6.heap.size w6 w') ∧ (w'.cell? ⟨w4.heap.size, 0, none⟩ = some (.slice (some ⟨g4, 0, none⟩) n1 n1) ∧ w'.cell? ⟨w.heap.size, 0, none⟩ = some (.slice a1 n1 cap1))) := fun w0 h =>
    (toPath_any 0 w.heap.size a1 n1 cap1 l1 w0 (HR1.out.below (HD_42.out.below h).bel (Nat.le_refl _)) (HD_42.out.below h).bel.size HL1.out HM1.out.1 HM1.out.2.1).mono fun _ w' ⟨g, h1, h2, h4⟩ =>
      have h3 : Hid (Hold w w' [(w5.heap.size, [.int .i64 SS, .slice aa5 an5 ac5, .slice eb5 em5 ec5]), (w4.heap.size, [.slice (some ⟨g4, 0, none⟩) n1 n1]), (w3.heap.size, [.int .i64 SS, .slice aa3 an3 ac3, .slice eb3 em3 ec3]), (w.heap.size, [.slice a1 n1 cap1])]) := (HD_42.out.below h).below h4.out
      ⟨g, h1, h2.out.toIn.wide h.size (Nat.le_refl _), h.trans (h4.out.mono h.size), h3.out.cell (b := w4.heap.size) (vs := [.slice (some ⟨g4, 0, none⟩) n1 n1]) (i := 0) (by simp) (by simp), h3.out.cell (b := w.heap.size) (vs := [.slice a1 n1 cap1]) (i := 0) (by simp) (by simp)⟩
  have HC2 : Hid (∀ (g : Nat) w0, Below w6.heap.size w6 w0 → PathIn w6.heap.size w0.heap.size w0 (some ⟨g, 0, none⟩) l1 → Calls Try.prog 13 #[.agg #[.slice (some ⟨g4, 0, none⟩) n1 n1], .agg #[.slice (some ⟨g, 0, none⟩) n1 n1]] w0 fun e w' => e = .returned (.bool true) ∧ Hid (Below w6.heap.size w6 w') ∧ (w'.cell? ⟨w4.heap.size, 0, none⟩ = some (.slice (some ⟨g4, 0, none⟩) n1 n1) ∧ w'.cell? ⟨w.heap.size, 0, none⟩ = some (.slice a1 n1 cap1))) := fun g w0 h hx =>
    (eqPath_any (w3.alloc (.cells #[.int .i64 SS, .slice aa3 an3 ac3, .slice eb3 em3 ec3] 29)).heap.size w4.heap.size w6.heap.size w0.heap.size (some ⟨g4, 0, none⟩) (some ⟨g, 0, none⟩) n1 n1 n1 n1 l1 l1 true w0 (X0_43.out.toIn.below h (by have y0 := ZZ2.out; have y1 := ZZ7.out; have y2 := ZZ12.out; have y3 := ZZ16.out; have y4 := ZZ17.out; have y5 := ZZ22.out; have y6 := ZZ26.out; have y7 := ZZ27.out; have y8 := ZZ32.out; have y9 := ZZ36.out; have y10 := ZZ37.out; have y11 := ZZ43.out; omega)) hx (by have yy := h.size; have y0 := ZZ2.out; have y1 := ZZ7.out; have y2 := ZZ12.out; have y3 := ZZ16.out; have y4 := ZZ17.out; have y5 := ZZ22.out; have y6 := ZZ26.out; have y7 := ZZ27.out; have y8 := ZZ32.out; have y9 := ZZ36.out; have y10 := ZZ37.out; have y11 := ZZ43.out; omega) (Nat.le_refl _) HL1.out HL1.out HM1.out.1 HM1.out.2.1 (by simp)).mono fun _ w' ⟨h1, h4⟩ =>
      have h3 : Hid (Hold w w' [(w5.heap.size, [.int .i64 SS, .slice aa5 an5 ac5, .slice eb5 em5 ec5]), (w4.heap.size, [.slice (some ⟨g4, 0, none⟩) n1 n1]), (w3.heap.size, [.int .i64 SS, .slice aa3 an3 ac3, .slice eb3 em3 ec3]), (w.heap.size, [.slice a1 n1 cap1])]) := (HD_42.out.below h).below h4.out
      ⟨h1, h.trans (h4.out.mono h.size), h3.out.cell (b := w4.heap.size) (vs := [.slice (some ⟨g4, 0, none⟩) n1 n1]) (i := 0) (by simp) (by simp), h3.out.cell (b := w.heap.size) (vs := [.slice a1 n1 cap1]) (i := 0) (by simp) (by simp)⟩
  go_wp2_with fail
  go_region_held3 (fun w' => w'.cell? ⟨w4.heap.size, 0, none⟩ = some (.slice (some ⟨g4, 0, none⟩) n1 n1) ∧ w'.cell? ⟨w.heap.size, 0, none⟩ = some (.slice a1 n1 cap1)) (first | exact ⟨q_44, q_45⟩ | exact hk9 | exact hk10) (first | (go_at_call 10; refine (HC1.out _ ((Below.refl _ _).drew)).mono ?_; rintro e w7 ⟨g9, rfl, X9, B9, hk9⟩) | (go_at_call 13; refine (HC2.out _ _ B9.out X9.out).mono ?_; rintro e w8 ⟨rfl, B10, hk10⟩))
  clear q_44 q_45
  clear hk9 hk10 B9 X9 HC1 HC2
  have HD_46 : Hid (Hold w w8 [(w5.heap.size, [.int .i64 SS, .slice aa5 an5 ac5, .slice eb5 em5 ec5]), (w4.heap.size, [.slice (some ⟨g4, 0, none⟩) n1 n1]), (w3.heap.size, [.int .i64 SS, .slice aa3 an3 ac3, .slice eb3 em3 ec3]), (w.heap.size, [.slice a1 n1 cap1])]) := HD_42.out.below B10.out
  clear HD_42
  have ZZ47 : Hid (w6.heap.size ≤ w8.heap.size) := B10.out.size
  have W0_47 : Hid (NfaIn w2.heap.size w3.heap.size w8 aa3 eb3 LA LE) := W0_43.out.below B10.out (by have y0 := ZZ2.out; have y1 := ZZ7.out; have y2 := ZZ12.out; have y3 := ZZ16.out; have y4 := ZZ17.out; have y5 := ZZ22.out; have y6 := ZZ26.out; have y7 := ZZ27.out; have y8 := ZZ32.out; have y9 := ZZ36.out; have y10 := ZZ37.out; have y11 := ZZ43.out; have y12 := ZZ47.out; omega)
  have X0_47 : Hid (PathOwn (w3.alloc (.cells #[.int .i64 SS, .slice aa3 an3 ac3, .slice eb3 em3 ec3] 29)).heap.size w4.heap.size w8 (some ⟨g4, 0, none⟩) l1) := X0_43.out.below B10.out (by have y0 := ZZ2.out; have y1 := ZZ7.out; have y2 := ZZ12.out; have y3 := ZZ16.out; have y4 := ZZ17.out; have y5 := ZZ22.out; have y6 := ZZ26.out; have y7 := ZZ27.out; have y8 := ZZ32.out; have y9 := ZZ36.out; have y10 := ZZ37.out; have y11 := ZZ43.out; have y12 := ZZ47.out; omega)
  have G0_47 : Hid (NfaOwn (w4.alloc (.cells #[.slice (some ⟨g4, 0, none⟩) n1 n1] 34)).heap.size w5.heap.size w8 aa5 eb5 LA LE) := G0_43.out.below B10.out (by have y0 := ZZ2.out; have y1 := ZZ7.out; have y2 := ZZ12.out; have y3 := ZZ16.out; have y4 := ZZ17.out; have y5 := ZZ22.out; have y6 := ZZ26.out; have y7 := ZZ27.out; have y8 := ZZ32.out; have y9 := ZZ36.out; have y10 := ZZ37.out; have y11 := ZZ43.out; have y12 := ZZ47.out; omega)
  clear W0_43 X0_43 G0_43
  clear B10
  have q_48 : w8.cell? ⟨w4.heap.size, 0, none⟩ = some (.slice (some ⟨g4, 0, none⟩) n1 n1) := HD_46.out.cell (b := w4.heap.size) (vs := [.slice (some ⟨g4, 0, none⟩) n1 n1]) (i := 0) (by simp) (by simp)
  go_wp2_with fail
  refine (markPath_any (w3.alloc (.cells #[.int .i64 SS, .slice aa3 an3 ac3, .slice eb3 em3 ec3] 29)).heap.size w4.heap.size (some ⟨g4, 0, none⟩) n1 n1 1 l1 _ X0_47.out (by have y0 := ZZ2.out; have y1 := ZZ7.out; have y2 := ZZ12.out; have y3 := ZZ16.out; have y4 := ZZ17.out; have y5 := ZZ22.out; have y6 := ZZ26.out; have y7 := ZZ27.out; have y8 := ZZ32.out; have y9 := ZZ36.out; have y10 := ZZ37.out; have y11 := ZZ43.out; have y12 := ZZ47.out; omega) HL1.out HM1.out.1 HM1.out.2.2 (by omega)).mono ?_
  rintro e w9 ⟨m9, rfl, HM_m9, X_49, K_49⟩
  clear q_48
  have HD_50 : Hid (Hold w w9 [(w5.heap.size, [.int .i64 SS, .slice aa5 an5 ac5, .slice eb5 em5 ec5]), (w4.heap.size, [.slice (some ⟨g4, 0, none⟩) n1 n1]), (w3.heap.size, [.int .i64 SS, .slice aa3 an3 ac3, .slice eb3 em3 ec3]), (w.heap.size, [.slice a1 n1 cap1])]) := HD_46.out.kept K_49.out (by intro x hx; simp only [List.mem_cons, List.not_mem_nil, or_false] at hx; have y0 := ZZ2.out; have y1 := ZZ7.out; have y2 := ZZ12.out; have y3 := ZZ16.out; have y4 := ZZ17.out; have y5 := ZZ22.out; have y6 := ZZ26.out; have y7 := ZZ27.out; have y8 := ZZ32.out; have y9 := ZZ36.out; have y10 := ZZ37.out; have y11 := ZZ43.out; have y12 := ZZ47.out; rcases hx with rfl | rfl | rfl | rfl <;> dsimp only <;> omega) (fun k hk => by have y0 := ZZ2.out; have y1 := ZZ7.out; have y2 := ZZ12.out; have y3 := ZZ16.out; have y4 := ZZ17.out; have y5 := ZZ22.out; have y6 := ZZ26.out; have y7 := ZZ27.out; have y8 := ZZ32.out; have y9 := ZZ36.out; have y10 := ZZ37.out; have y11 := ZZ43.out; have y12 := ZZ47.out; omega)
  clear HD_46
  have ZZ51 : Hid (w8.heap.size ≤ w9.heap.size) := K_49.out.size
  have W0_51 : Hid (NfaIn w2.heap.size w3.heap.size w9 aa3 eb3 LA LE) := W0_47.out.kept K_49.out (by have y0 := ZZ2.out; have y1 := ZZ7.out; have y2 := ZZ12.out; have y3 := ZZ16.out; have y4 := ZZ17.out; have y5 := ZZ22.out; have y6 := ZZ26.out; have y7 := ZZ27.out; have y8 := ZZ32.out; have y9 := ZZ36.out; have y10 := ZZ37.out; have y11 := ZZ43.out; have y12 := ZZ47.out; have y13 := ZZ51.out; omega) (fun c h1 h2 h3 => by have y0 := ZZ2.out; have y1 := ZZ7.out; have y2 := ZZ12.out; have y3 := ZZ16.out; have y4 := ZZ17.out; have y5 := ZZ22.out; have y6 := ZZ26.out; have y7 := ZZ27.out; have y8 := ZZ32.out; have y9 := ZZ36.out; have y10 := ZZ37.out; have y11 := ZZ43.out; have y12 := ZZ47.out; have y13 := ZZ51.out; omega)
  have G0_51 : Hid (NfaOwn (w4.alloc (.cells #[.slice (some ⟨g4, 0, none⟩) n1 n1] 34)).heap.size w5.heap.size w9 aa5 eb5 LA LE) := G0_47.out.kept K_49.out (by have y0 := ZZ2.out; have y1 := ZZ7.out; have y2 := ZZ12.out; have y3 := ZZ16.out; have y4 := ZZ17.out; have y5 := ZZ22.out; have y6 := ZZ26.out; have y7 := ZZ27.out; have y8 := ZZ32.out; have y9 := ZZ36.out; have y10 := ZZ37.out; have y11 := ZZ43.out; have y12 := ZZ47.out; have y13 := ZZ51.out; omega) (fun c h1 h2 h3 => by have y0 := ZZ2.out; have y1 := ZZ7.out; have y2 := ZZ12.out; have y3 := ZZ16.out; have y4 := ZZ17.out; have y5 := ZZ22.out; have y6 := ZZ26.out; have y7 := ZZ27.out; have y8 := ZZ32.out; have y9 := ZZ36.out; have y10 := ZZ37.out; have y11 := ZZ43.out; have y12 := ZZ47.out; have y13 := ZZ51.out; omega)
  clear W0_47 X0_47 G0_47
  clear K_49
  have hn_m9 : ¬ ((m9 : Nat) : Int) < 0 := by omega
  have q_52 : w9.cell? ⟨w5.heap.size, 0, none⟩ = some (.int .i64 SS) := HD_50.out.cell (b := w5.heap.size) (vs := [.int .i64 SS, .slice aa5 an5 ac5, .slice eb5 em5 ec5]) (i := 0) (by simp) (by simp)
  have q_53 : w9.cell? ⟨w5.heap.size, 1, none⟩ = some (.slice aa5 an5 ac5) := HD_50.out.cell (b := w5.heap.size) (vs := [.int .i64 SS, .slice aa5 an5 ac5, .slice eb5 em5 ec5]) (i := 1) (by simp) (by simp)
  have q_54 : w9.cell? ⟨w5.heap.size, 2, none⟩ = some (.slice eb5 em5 ec5) := HD_50.out.cell (b := w5.heap.size) (vs := [.int .i64 SS, .slice aa5 an5 ac5, .slice eb5 em5 ec5]) (i := 2) (by simp) (by simp)
  have q_55 : w9.cell? ⟨w3.heap.size, 0, none⟩ = some (.int .i64 SS) := HD_50.out.cell (b := w3.heap.size) (vs := [.int .i64 SS, .slice aa3 an3 ac3, .slice eb3 em3 ec3]) (i := 0) (by simp) (by simp)
  have q_56 : w9.cell? ⟨w3.heap.size, 1, none⟩ = some (.slice aa3 an3 ac3) := HD_50.out.cell (b := w3.heap.size) (vs := [.int .i64 SS, .slice aa3 an3 ac3, .slice eb3 em3 ec3]) (i := 1) (by simp) (by simp)
  have q_57 : w9.cell? ⟨w3.heap.size, 2, none⟩ = some (.slice eb3 em3 ec3) := HD_50.out.cell (b := w3.heap.size) (vs := [.int .i64 SS, .slice aa3 an3 ac3, .slice eb3 em3 ec3]) (i := 2) (by simp) (by simp)
  go_wp2_with fail
  refine (eqNfa_any (w4.alloc (.cells #[.slice (some ⟨g4, 0, none⟩) n1 n1] 34)).heap.size w5.heap.size w2.heap.size w3.heap.size SS SS aa5 aa3 eb5 eb3 an5 an3 ac5 ac3 em5 em3 ec5 ec3 LA LA LE LE true _ G0_51.out.toIn W0_51.out (by have y0 := ZZ2.out; have y1 := ZZ7.out; have y2 := ZZ12.out; have y3 := ZZ16.out; have y4 := ZZ17.out; have y5 := ZZ22.out; have y6 := ZZ26.out; have y7 := ZZ27.out; have y8 := ZZ32.out; have y9 := ZZ36.out; have y10 := ZZ37.out; have y11 := ZZ43.out; have y12 := ZZ47.out; have y13 := ZZ51.out; omega) (by have y0 := ZZ2.out; have y1 := ZZ7.out; have y2 := ZZ12.out; have y3 := ZZ16.out; have y4 := ZZ17.out; have y5 := ZZ22.out; have y6 := ZZ26.out; have y7 := ZZ27.out; have y8 := ZZ32.out; have y9 := ZZ36.out; have y10 := ZZ37.out; have y11 := ZZ43.out; have y12 := ZZ47.out; have y13 := ZZ51.out; omega) HA5.out HA3.out HZ5.out.1 HE5.out HE3.out HZ5.out.2 (by simp)).mono ?_
  rintro e w10 ⟨rfl, B_58⟩
  clear q_52 q_53 q_54 q_55 q_56 q_57
  have HD_59 : Hid (Hold w w10 [(w5.heap.size, [.int .i64 SS, .slice aa5 an5 ac5, .slice eb5 em5 ec5]), (w4.heap.size, [.slice (some ⟨g4, 0, none⟩) n1 n1]), (w3.heap.size, [.int .i64 SS, .slice aa3 an3 ac3, .slice eb3 em3 ec3]), (w.heap.size, [.slice a1 n1 cap1])]) := HD_50.out.below B_58.out
  clear HD_50
  have ZZ60 : Hid (w9.heap.size ≤ w10.heap.size) := B_58.out.size
  have W0_60 : Hid (NfaIn w2.heap.size w3.heap.size w10 aa3 eb3 LA LE) := W0_51.out.below B_58.out (by have y0 := ZZ2.out; have y1 := ZZ7.out; have y2 := ZZ12.out; have y3 := ZZ16.out; have y4 := ZZ17.out; have y5 := ZZ22.out; have y6 := ZZ26.out; have y7 := ZZ27.out; have y8 := ZZ32.out; have y9 := ZZ36.out; have y10 := ZZ37.out; have y11 := ZZ43.out; have y12 := ZZ47.out; have y13 := ZZ51.out; have y14 := ZZ60.out; omega)
  have G0_60 : Hid (NfaOwn (w4.alloc (.cells #[.slice (some ⟨g4, 0, none⟩) n1 n1] 34)).heap.size w5.heap.size w10 aa5 eb5 LA LE) := G0_51.out.below B_58.out (by have y0 := ZZ2.out; have y1 := ZZ7.out; have y2 := ZZ12.out; have y3 := ZZ16.out; have y4 := ZZ17.out; have y5 := ZZ22.out; have y6 := ZZ26.out; have y7 := ZZ27.out; have y8 := ZZ32.out; have y9 := ZZ36.out; have y10 := ZZ37.out; have y11 := ZZ43.out; have y12 := ZZ47.out; have y13 := ZZ51.out; have y14 := ZZ60.out; omega)
  clear W0_51 G0_51
  clear B_58
  have q_61 : w10.cell? ⟨w5.heap.size, 0, none⟩ = some (.int .i64 SS) := HD_59.out.cell (b := w5.heap.size) (vs := [.int .i64 SS, .slice aa5 an5 ac5, .slice eb5 em5 ec5]) (i := 0) (by simp) (by simp)
  have q_62 : w10.cell? ⟨w5.heap.size, 1, none⟩ = some (.slice aa5 an5 ac5) := HD_59.out.cell (b := w5.heap.size) (vs := [.int .i64 SS, .slice aa5 an5 ac5, .slice eb5 em5 ec5]) (i := 1) (by simp) (by simp)
  have q_63 : w10.cell? ⟨w5.heap.size, 2, none⟩ = some (.slice eb5 em5 ec5) := HD_59.out.cell (b := w5.heap.size) (vs := [.int .i64 SS, .slice aa5 an5 ac5, .slice eb5 em5 ec5]) (i := 2) (by simp) (by simp)
  go_wp2_with fail
  refine (markNfa_any (w4.alloc (.cells #[.slice (some ⟨g4, 0, none⟩) n1 n1] 34)).heap.size w5.heap.size SS aa5 eb5 an5 ac5 em5 ec5 1 LA LE _ G0_60.out (by have y0 := ZZ2.out; have y1 := ZZ7.out; have y2 := ZZ12.out; have y3 := ZZ16.out; have y4 := ZZ17.out; have y5 := ZZ22.out; have y6 := ZZ26.out; have y7 := ZZ27.out; have y8 := ZZ32.out; have y9 := ZZ36.out; have y10 := ZZ37.out; have y11 := ZZ43.out; have y12 := ZZ47.out; have y13 := ZZ51.out; have y14 := ZZ60.out; omega) HA5.out HE5.out HZ5.out.1 HZ5.out.2 (by omega)).mono ?_
  rintro e w11 ⟨m11, rfl, HM_m11, X_64, K_64⟩
  clear q_61 q_62 q_63
  have HD_65 : Hid (Hold w w11 [(w5.heap.size, [.int .i64 SS, .slice aa5 an5 ac5, .slice eb5 em5 ec5]), (w4.heap.size, [.slice (some ⟨g4, 0, none⟩) n1 n1]), (w3.heap.size, [.int .i64 SS, .slice aa3 an3 ac3, .slice eb3 em3 ec3]), (w.heap.size, [.slice a1 n1 cap1])]) := HD_59.out.kept K_64.out (by intro x hx; simp only [List.mem_cons, List.not_mem_nil, or_false] at hx; have y0 := ZZ2.out; have y1 := ZZ7.out; have y2 := ZZ12.out; have y3 := ZZ16.out; have y4 := ZZ17.out; have y5 := ZZ22.out; have y6 := ZZ26.out; have y7 := ZZ27.out; have y8 := ZZ32.out; have y9 := ZZ36.out; have y10 := ZZ37.out; have y11 := ZZ43.out; have y12 := ZZ47.out; have y13 := ZZ51.out; have y14 := ZZ60.out; rcases hx with rfl | rfl | rfl | rfl <;> dsimp only <;> omega) (fun k hk => by have y0 := ZZ2.out; have y1 := ZZ7.out; have y2 := ZZ12.out; have y3 := ZZ16.out; have y4 := ZZ17.out; have y5 := ZZ22.out; have y6 := ZZ26.out; have y7 := ZZ27.out; have y8 := ZZ32.out; have y9 := ZZ36.out; have y10 := ZZ37.out; have y11 := ZZ43.out; have y12 := ZZ47.out; have y13 := ZZ51.out; have y14 := ZZ60.out; omega)
  clear HD_59
  have ZZ66 : Hid (w10.heap.size ≤ w11.heap.size) := K_64.out.size
  have W0_66 : Hid (NfaIn w2.heap.size w3.heap.size w11 aa3 eb3 LA LE) := W0_60.out.kept K_64.out (by have y0 := ZZ2.out; have y1 := ZZ7.out; have y2 := ZZ12.out; have y3 := ZZ16.out; have y4 := ZZ17.out; have y5 := ZZ22.out; have y6 := ZZ26.out; have y7 := ZZ27.out; have y8 := ZZ32.out; have y9 := ZZ36.out; have y10 := ZZ37.out; have y11 := ZZ43.out; have y12 := ZZ47.out; have y13 := ZZ51.out; have y14 := ZZ60.out; have y15 := ZZ66.out; omega) (fun c h1 h2 h3 => by have y0 := ZZ2.out; have y1 := ZZ7.out; have y2 := ZZ12.out; have y3 := ZZ16.out; have y4 := ZZ17.out; have y5 := ZZ22.out; have y6 := ZZ26.out; have y7 := ZZ27.out; have y8 := ZZ32.out; have y9 := ZZ36.out; have y10 := ZZ37.out; have y11 := ZZ43.out; have y12 := ZZ47.out; have y13 := ZZ51.out; have y14 := ZZ60.out; have y15 := ZZ66.out; omega)
  clear W0_60 G0_60
  clear K_64
  have G0_67 : Hid (NfaOwn (w4.alloc (.cells #[.slice (some ⟨g4, 0, none⟩) n1 n1] 34)).heap.size w5.heap.size w11 aa5 eb5 (marksE 1 an5) (marksB (1 + an5 * 3) em5)) := X_64.out
  clear X_64
  have q_68 : w11.cell? ⟨w5.heap.size, 0, none⟩ = some (.int .i64 SS) := HD_65.out.cell (b := w5.heap.size) (vs := [.int .i64 SS, .slice aa5 an5 ac5, .slice eb5 em5 ec5]) (i := 0) (by simp) (by simp)
  have q_69 : w11.cell? ⟨w5.heap.size, 1, none⟩ = some (.slice aa5 an5 ac5) := HD_65.out.cell (b := w5.heap.size) (vs := [.int .i64 SS, .slice aa5 an5 ac5, .slice eb5 em5 ec5]) (i := 1) (by simp) (by simp)
  have q_70 : w11.cell? ⟨w5.heap.size, 2, none⟩ = some (.slice eb5 em5 ec5) := HD_65.out.cell (b := w5.heap.size) (vs := [.int .i64 SS, .slice aa5 an5 ac5, .slice eb5 em5 ec5]) (i := 2) (by simp) (by simp)
  go_wp2_with fail
  refine (heldNfa_any (w4.alloc (.cells #[.slice (some ⟨g4, 0, none⟩) n1 n1] 34)).heap.size w5.heap.size SS aa5 eb5 an5 ac5 em5 ec5 1 _ G0_67.out.toIn (by have y0 := ZZ2.out; have y1 := ZZ7.out; have y2 := ZZ12.out; have y3 := ZZ16.out; have y4 := ZZ17.out; have y5 := ZZ22.out; have y6 := ZZ26.out; have y7 := ZZ27.out; have y8 := ZZ32.out; have y9 := ZZ36.out; have y10 := ZZ37.out; have y11 := ZZ43.out; have y12 := ZZ47.out; have y13 := ZZ51.out; have y14 := ZZ60.out; have y15 := ZZ66.out; omega) HZ5.out.1 HZ5.out.2 (by omega)).mono ?_
  rintro e w12 ⟨m12, rfl, HM_m12, B_71⟩
  clear q_68 q_69 q_70
  have HD_72 : Hid (Hold w w12 [(w5.heap.size, [.int .i64 SS, .slice aa5 an5 ac5, .slice eb5 em5 ec5]), (w4.heap.size, [.slice (some ⟨g4, 0, none⟩) n1 n1]), (w3.heap.size, [.int .i64 SS, .slice aa3 an3 ac3, .slice eb3 em3 ec3]), (w.heap.size, [.slice a1 n1 cap1])]) := HD_65.out.below B_71.out
  clear HD_65
  have ZZ73 : Hid (w11.heap.size ≤ w12.heap.size) := B_71.out.size
  have W0_73 : Hid (NfaIn w2.heap.size w3.heap.size w12 aa3 eb3 LA LE) := W0_66.out.below B_71.out (by have y0 := ZZ2.out; have y1 := ZZ7.out; have y2 := ZZ12.out; have y3 := ZZ16.out; have y4 := ZZ17.out; have y5 := ZZ22.out; have y6 := ZZ26.out; have y7 := ZZ27.out; have y8 := ZZ32.out; have y9 := ZZ36.out; have y10 := ZZ37.out; have y11 := ZZ43.out; have y12 := ZZ47.out; have y13 := ZZ51.out; have y14 := ZZ60.out; have y15 := ZZ66.out; have y16 := ZZ73.out; omega)
  have G0_73 : Hid (NfaOwn (w4.alloc (.cells #[.slice (some ⟨g4, 0, none⟩) n1 n1] 34)).heap.size w5.heap.size w12 aa5 eb5 (marksE 1 an5) (marksB (1 + an5 * 3) em5)) := G0_67.out.below B_71.out (by have y0 := ZZ2.out; have y1 := ZZ7.out; have y2 := ZZ12.out; have y3 := ZZ16.out; have y4 := ZZ17.out; have y5 := ZZ22.out; have y6 := ZZ26.out; have y7 := ZZ27.out; have y8 := ZZ32.out; have y9 := ZZ36.out; have y10 := ZZ37.out; have y11 := ZZ43.out; have y12 := ZZ47.out; have y13 := ZZ51.out; have y14 := ZZ60.out; have y15 := ZZ66.out; have y16 := ZZ73.out; omega)
  clear W0_66 G0_67
  clear B_71
  obtain rfl : m11 = m12 := by rw [HM_m12.out, HM_m11.out]
  clear HM_m12
  have hn_m12 : ¬ ((m11 : Nat) : Int) < 0 := by omega
  have q_75 : w12.cell? ⟨w.heap.size, 0, none⟩ = some (.slice a1 n1 cap1) := HD_72.out.cell (b := w.heap.size) (vs := [.slice a1 n1 cap1]) (i := 0) (by simp) (by simp)
  go_wp2_with fail
  refine (toPath_any 0 w.heap.size a1 n1 cap1 l1 _ (HR1.out.below HD_72.out.bel (Nat.le_refl _)) HD_72.out.bel.size HL1.out HM1.out.1 HM1.out.2.1).mono ?_
  rintro e w13 ⟨g13, rfl, X_74, B_76⟩
  clear q_75
  have HD_77 : Hid (Hold w w13 [(w5.heap.size, [.int .i64 SS, .slice aa5 an5 ac5, .slice eb5 em5 ec5]), (w4.heap.size, [.slice (some ⟨g4, 0, none⟩) n1 n1]), (w3.heap.size, [.int .i64 SS, .slice aa3 an3 ac3, .slice eb3 em3 ec3]), (w.heap.size, [.slice a1 n1 cap1])]) := HD_72.out.below B_76.out
  clear HD_72
  have ZZ78 : Hid (w12.heap.size ≤ w13.heap.size) := B_76.out.size
  have W0_78 : Hid (NfaIn w2.heap.size w3.heap.size w13 aa3 eb3 LA LE) := W0_73.out.below B_76.out (by have y0 := ZZ2.out; have y1 := ZZ7.out; have y2 := ZZ12.out; have y3 := ZZ16.out; have y4 := ZZ17.out; have y5 := ZZ22.out; have y6 := ZZ26.out; have y7 := ZZ27.out; have y8 := ZZ32.out; have y9 := ZZ36.out; have y10 := ZZ37.out; have y11 := ZZ43.out; have y12 := ZZ47.out; have y13 := ZZ51.out; have y14 := ZZ60.out; have y15 := ZZ66.out; have y16 := ZZ73.out; have y17 := ZZ78.out; omega)
  have G0_78 : Hid (NfaOwn (w4.alloc (.cells #[.slice (some ⟨g4, 0, none⟩) n1 n1] 34)).heap.size w5.heap.size w13 aa5 eb5 (marksE 1 an5) (marksB (1 + an5 * 3) em5)) := G0_73.out.below B_76.out (by have y0 := ZZ2.out; have y1 := ZZ7.out; have y2 := ZZ12.out; have y3 := ZZ16.out; have y4 := ZZ17.out; have y5 := ZZ22.out; have y6 := ZZ26.out; have y7 := ZZ27.out; have y8 := ZZ32.out; have y9 := ZZ36.out; have y10 := ZZ37.out; have y11 := ZZ43.out; have y12 := ZZ47.out; have y13 := ZZ51.out; have y14 := ZZ60.out; have y15 := ZZ66.out; have y16 := ZZ73.out; have y17 := ZZ78.out; omega)
  clear W0_73 G0_73
  clear B_76
  have T2_79 : Hid (PathOwn w12.heap.size w13.heap.size w13 (some ⟨g13, 0, none⟩) l1) := X_74.out
  clear X_74
  go_wp2_with fail
  refine (HIM.out w12.heap.size w13.heap.size g13 _ T2_79.out.toIn (by have y0 := ZZ2.out; have y1 := ZZ7.out; have y2 := ZZ12.out; have y3 := ZZ16.out; have y4 := ZZ17.out; have y5 := ZZ22.out; have y6 := ZZ26.out; have y7 := ZZ27.out; have y8 := ZZ32.out; have y9 := ZZ36.out; have y10 := ZZ37.out; have y11 := ZZ43.out; have y12 := ZZ47.out; have y13 := ZZ51.out; have y14 := ZZ60.out; have y15 := ZZ66.out; have y16 := ZZ73.out; have y17 := ZZ78.out; omega)).mono ?_
  rintro e w14 ⟨aa14, an14, ac14, eb14, em14, ec14, rfl, HA14, HE14, X_80, B_81⟩
  have HD_82 : Hid (Hold w w14 [(w5.heap.size, [.int .i64 SS, .slice aa5 an5 ac5, .slice eb5 em5 ec5]), (w4.heap.size, [.slice (some ⟨g4, 0, none⟩) n1 n1]), (w3.heap.size, [.int .i64 SS, .slice aa3 an3 ac3, .slice eb3 em3 ec3]), (w.heap.size, [.slice a1 n1 cap1])]) := HD_77.out.below B_81.out
  clear HD_77
  have ZZ83 : Hid (w13.heap.size ≤ w14.heap.size) := B_81.out.size
  have W0_83 : Hid (NfaIn w2.heap.size w3.heap.size w14 aa3 eb3 LA LE) := W0_78.out.below B_81.out (by have y0 := ZZ2.out; have y1 := ZZ7.out; have y2 := ZZ12.out; have y3 := ZZ16.out; have y4 := ZZ17.out; have y5 := ZZ22.out; have y6 := ZZ26.out; have y7 := ZZ27.out; have y8 := ZZ32.out; have y9 := ZZ36.out; have y10 := ZZ37.out; have y11 := ZZ43.out; have y12 := ZZ47.out; have y13 := ZZ51.out; have y14 := ZZ60.out; have y15 := ZZ66.out; have y16 := ZZ73.out; have y17 := ZZ78.out; have y18 := ZZ83.out; omega)
  have G0_83 : Hid (NfaOwn (w4.alloc (.cells #[.slice (some ⟨g4, 0, none⟩) n1 n1] 34)).heap.size w5.heap.size w14 aa5 eb5 (marksE 1 an5) (marksB (1 + an5 * 3) em5)) := G0_78.out.below B_81.out (by have y0 := ZZ2.out; have y1 := ZZ7.out; have y2 := ZZ12.out; have y3 := ZZ16.out; have y4 := ZZ17.out; have y5 := ZZ22.out; have y6 := ZZ26.out; have y7 := ZZ27.out; have y8 := ZZ32.out; have y9 := ZZ36.out; have y10 := ZZ37.out; have y11 := ZZ43.out; have y12 := ZZ47.out; have y13 := ZZ51.out; have y14 := ZZ60.out; have y15 := ZZ66.out; have y16 := ZZ73.out; have y17 := ZZ78.out; have y18 := ZZ83.out; omega)
  have T2_83 : Hid (PathOwn w12.heap.size w13.heap.size w14 (some ⟨g13, 0, none⟩) l1) := T2_79.out.below B_81.out (by have y0 := ZZ2.out; have y1 := ZZ7.out; have y2 := ZZ12.out; have y3 := ZZ16.out; have y4 := ZZ17.out; have y5 := ZZ22.out; have y6 := ZZ26.out; have y7 := ZZ27.out; have y8 := ZZ32.out; have y9 := ZZ36.out; have y10 := ZZ37.out; have y11 := ZZ43.out; have y12 := ZZ47.out; have y13 := ZZ51.out; have y14 := ZZ60.out; have y15 := ZZ66.out; have y16 := ZZ73.out; have y17 := ZZ78.out; have y18 := ZZ83.out; omega)
  clear W0_78 G0_78 T2_79
  clear B_81
  have H0_84 : Hid (NfaOwn w13.heap.size w14.heap.size w14 aa14 eb14 LA LE) := X_80.out
  clear X_80
  have HZ14 : Hid (an14 ≤ 1048576 ∧ em14 ≤ 1048576) := by rw [← HA14.out, ← HE14.out]; exact HLB.out
  clear T2_83
  have BA_85 : Hid (Below w14.heap.size w14 (w14.alloc (.cells #[.int .i64 SS, .slice aa14 an14 ac14, .slice eb14 em14 ec14] 29))) := below1' w14 _
  have HD_86 : Hid (Hold w (w14.alloc (.cells #[.int .i64 SS, .slice aa14 an14 ac14, .slice eb14 em14 ec14] 29)) [(w14.heap.size, [.int .i64 SS, .slice aa14 an14 ac14, .slice eb14 em14 ec14]), (w5.heap.size, [.int .i64 SS, .slice aa5 an5 ac5, .slice eb5 em5 ec5]), (w4.heap.size, [.slice (some ⟨g4, 0, none⟩) n1 n1]), (w3.heap.size, [.int .i64 SS, .slice aa3 an3 ac3, .slice eb3 em3 ec3]), (w.heap.size, [.slice a1 n1 cap1])]) := HD_82.out.more [.int .i64 SS, .slice aa14 an14 ac14, .slice eb14 em14 ec14] 29
  clear HD_82
  have ZZ87 : Hid ((w14.alloc (.cells #[.int .i64 SS, .slice aa14 an14 ac14, .slice eb14 em14 ec14] 29)).heap.size = w14.heap.size + 1) := by show _ = _; simp
  have ZZ88 : Hid (w14.heap.size ≤ (w14.alloc (.cells #[.int .i64 SS, .slice aa14 an14 ac14, .slice eb14 em14 ec14] 29)).heap.size) := BA_85.out.size
  have W0_88 : Hid (NfaIn w2.heap.size w3.heap.size (w14.alloc (.cells #[.int .i64 SS, .slice aa14 an14 ac14, .slice eb14 em14 ec14] 29)) aa3 eb3 LA LE) := W0_83.out.below BA_85.out (by have y0 := ZZ2.out; have y1 := ZZ7.out; have y2 := ZZ12.out; have y3 := ZZ16.out; have y4 := ZZ17.out; have y5 := ZZ22.out; have y6 := ZZ26.out; have y7 := ZZ27.out; have y8 := ZZ32.out; have y9 := ZZ36.out; have y10 := ZZ37.out; have y11 := ZZ43.out; have y12 := ZZ47.out; have y13 := ZZ51.out; have y14 := ZZ60.out; have y15 := ZZ66.out; have y16 := ZZ73.out; have y17 := ZZ78.out; have y18 := ZZ83.out; have y19 := ZZ87.out; have y20 := ZZ88.out; omega)
  have G0_88 : Hid (NfaOwn (w4.alloc (.cells #[.slice (some ⟨g4, 0, none⟩) n1 n1] 34)).heap.size w5.heap.size (w14.alloc (.cells #[.int .i64 SS, .slice aa14 an14 ac14, .slice eb14 em14 ec14] 29)) aa5 eb5 (marksE 1 an5) (marksB (1 + an5 * 3) em5)) := G0_83.out.below BA_85.out (by have y0 := ZZ2.out; have y1 := ZZ7.out; have y2 := ZZ12.out; have y3 := ZZ16.out; have y4 := ZZ17.out; have y5 := ZZ22.out; have y6 := ZZ26.out; have y7 := ZZ27.out; have y8 := ZZ32.out; have y9 := ZZ36.out; have y10 := ZZ37.out; have y11 := ZZ43.out; have y12 := ZZ47.out; have y13 := ZZ51.out; have y14 := ZZ60.out; have y15 := ZZ66.out; have y16 := ZZ73.out; have y17 := ZZ78.out; have y18 := ZZ83.out; have y19 := ZZ87.out; have y20 := ZZ88.out; omega)
  have H0_88 : Hid (NfaOwn w13.heap.size w14.heap.size (w14.alloc (.cells #[.int .i64 SS, .slice aa14 an14 ac14, .slice eb14 em14 ec14] 29)) aa14 eb14 LA LE) := H0_84.out.below BA_85.out (by have y0 := ZZ2.out; have y1 := ZZ7.out; have y2 := ZZ12.out; have y3 := ZZ16.out; have y4 := ZZ17.out; have y5 := ZZ22.out; have y6 := ZZ26.out; have y7 := ZZ27.out; have y8 := ZZ32.out; have y9 := ZZ36.out; have y10 := ZZ37.out; have y11 := ZZ43.out; have y12 := ZZ47.out; have y13 := ZZ51.out; have y14 := ZZ60.out; have y15 := ZZ66.out; have y16 := ZZ73.out; have y17 := ZZ78.out; have y18 := ZZ83.out; have y19 := ZZ87.out; have y20 := ZZ88.out; omega)
  clear W0_83 G0_83 H0_84
  clear BA_85
  have q_89 : (w14.alloc (.cells #[.int .i64 SS, .slice aa14 an14 ac14, .slice eb14 em14 ec14] 29)).cell? ⟨w3.heap.size, 0, none⟩ = some (.int .i64 SS) := HD_86.out.cell (b := w3.heap.size) (vs := [.int .i64 SS, .slice aa3 an3 ac3, .slice eb3 em3 ec3]) (i := 0) (by simp) (by simp)
  have q_90 : (w14.alloc (.cells #[.int .i64 SS, .slice aa14 an14 ac14, .slice eb14 em14 ec14] 29)).cell? ⟨w3.heap.size, 1, none⟩ = some (.slice aa3 an3 ac3) := HD_86.out.cell (b := w3.heap.size) (vs := [.int .i64 SS, .slice aa3 an3 ac3, .slice eb3 em3 ec3]) (i := 1) (by simp) (by simp)
  have q_91 : (w14.alloc (.cells #[.int .i64 SS, .slice aa14 an14 ac14, .slice eb14 em14 ec14] 29)).cell? ⟨w3.heap.size, 2, none⟩ = some (.slice eb3 em3 ec3) := HD_86.out.cell (b := w3.heap.size) (vs := [.int .i64 SS, .slice aa3 an3 ac3, .slice eb3 em3 ec3]) (i := 2) (by simp) (by simp)
  go_wp2_with fail
  refine (eqNfa_any w13.heap.size w14.heap.size w2.heap.size w3.heap.size SS SS aa14 aa3 eb14 eb3 an14 an3 ac14 ac3 em14 em3 ec14 ec3 LA LA LE LE true _ H0_88.out.toIn W0_88.out (by have y0 := ZZ2.out; have y1 := ZZ7.out; have y2 := ZZ12.out; have y3 := ZZ16.out; have y4 := ZZ17.out; have y5 := ZZ22.out; have y6 := ZZ26.out; have y7 := ZZ27.out; have y8 := ZZ32.out; have y9 := ZZ36.out; have y10 := ZZ37.out; have y11 := ZZ43.out; have y12 := ZZ47.out; have y13 := ZZ51.out; have y14 := ZZ60.out; have y15 := ZZ66.out; have y16 := ZZ73.out; have y17 := ZZ78.out; have y18 := ZZ83.out; have y19 := ZZ87.out; have y20 := ZZ88.out; omega) (by have y0 := ZZ2.out; have y1 := ZZ7.out; have y2 := ZZ12.out; have y3 := ZZ16.out; have y4 := ZZ17.out; have y5 := ZZ22.out; have y6 := ZZ26.out; have y7 := ZZ27.out; have y8 := ZZ32.out; have y9 := ZZ36.out; have y10 := ZZ37.out; have y11 := ZZ43.out; have y12 := ZZ47.out; have y13 := ZZ51.out; have y14 := ZZ60.out; have y15 := ZZ66.out; have y16 := ZZ73.out; have y17 := ZZ78.out; have y18 := ZZ83.out; have y19 := ZZ87.out; have y20 := ZZ88.out; omega) HA14.out HA3.out HZ14.out.1 HE14.out HE3.out HZ14.out.2 (by simp)).mono ?_
  rintro e w15 ⟨rfl, B_92⟩
  clear q_89 q_90 q_91
  have HD_93 : Hid (Hold w w15 [(w14.heap.size, [.int .i64 SS, .slice aa14 an14 ac14, .slice eb14 em14 ec14]), (w5.heap.size, [.int .i64 SS, .slice aa5 an5 ac5, .slice eb5 em5 ec5]), (w4.heap.size, [.slice (some ⟨g4, 0, none⟩) n1 n1]), (w3.heap.size, [.int .i64 SS, .slice aa3 an3 ac3, .slice eb3 em3 ec3]), (w.heap.size, [.slice a1 n1 cap1])]) := HD_86.out.below B_92.out
  clear HD_86
  have ZZ94 : Hid ((w14.alloc (.cells #[.int .i64 SS, .slice aa14 an14 ac14, .slice eb14 em14 ec14] 29)).heap.size ≤ w15.heap.size) := B_92.out.size
  have W0_94 : Hid (NfaIn w2.heap.size w3.heap.size w15 aa3 eb3 LA LE) := W0_88.out.below B_92.out (by have y0 := ZZ2.out; have y1 := ZZ7.out; have y2 := ZZ12.out; have y3 := ZZ16.out; have y4 := ZZ17.out; have y5 := ZZ22.out; have y6 := ZZ26.out; have y7 := ZZ27.out; have y8 := ZZ32.out; have y9 := ZZ36.out; have y10 := ZZ37.out; have y11 := ZZ43.out; have y12 := ZZ47.out; have y13 := ZZ51.out; have y14 := ZZ60.out; have y15 := ZZ66.out; have y16 := ZZ73.out; have y17 := ZZ78.out; have y18 := ZZ83.out; have y19 := ZZ87.out; have y20 := ZZ88.out; have y21 := ZZ94.out; omega)
  have G0_94 : Hid (NfaOwn (w4.alloc (.cells #[.slice (some ⟨g4, 0, none⟩) n1 n1] 34)).heap.size w5.heap.size w15 aa5 eb5 (marksE 1 an5) (marksB (1 + an5 * 3) em5)) := G0_88.out.below B_92.out (by have y0 := ZZ2.out; have y1 := ZZ7.out; have y2 := ZZ12.out; have y3 := ZZ16.out; have y4 := ZZ17.out; have y5 := ZZ22.out; have y6 := ZZ26.out; have y7 := ZZ27.out; have y8 := ZZ32.out; have y9 := ZZ36.out; have y10 := ZZ37.out; have y11 := ZZ43.out; have y12 := ZZ47.out; have y13 := ZZ51.out; have y14 := ZZ60.out; have y15 := ZZ66.out; have y16 := ZZ73.out; have y17 := ZZ78.out; have y18 := ZZ83.out; have y19 := ZZ87.out; have y20 := ZZ88.out; have y21 := ZZ94.out; omega)
  have H0_94 : Hid (NfaOwn w13.heap.size w14.heap.size w15 aa14 eb14 LA LE) := H0_88.out.below B_92.out (by have y0 := ZZ2.out; have y1 := ZZ7.out; have y2 := ZZ12.out; have y3 := ZZ16.out; have y4 := ZZ17.out; have y5 := ZZ22.out; have y6 := ZZ26.out; have y7 := ZZ27.out; have y8 := ZZ32.out; have y9 := ZZ36.out; have y10 := ZZ37.out; have y11 := ZZ43.out; have y12 := ZZ47.out; have y13 := ZZ51.out; have y14 := ZZ60.out; have y15 := ZZ66.out; have y16 := ZZ73.out; have y17 := ZZ78.out; have y18 := ZZ83.out; have y19 := ZZ87.out; have y20 := ZZ88.out; have y21 := ZZ94.out; omega)
  clear W0_88 G0_88 H0_88
  clear B_92
  have q_95 : w15.cell? ⟨w5.heap.size, 0, none⟩ = some (.int .i64 SS) := HD_93.out.cell (b := w5.heap.size) (vs := [.int .i64 SS, .slice aa5 an5 ac5, .slice eb5 em5 ec5]) (i := 0) (by simp) (by simp)
  have q_96 : w15.cell? ⟨w5.heap.size, 1, none⟩ = some (.slice aa5 an5 ac5) := HD_93.out.cell (b := w5.heap.size) (vs := [.int .i64 SS, .slice aa5 an5 ac5, .slice eb5 em5 ec5]) (i := 1) (by simp) (by simp)
  have q_97 : w15.cell? ⟨w5.heap.size, 2, none⟩ = some (.slice eb5 em5 ec5) := HD_93.out.cell (b := w5.heap.size) (vs := [.int .i64 SS, .slice aa5 an5 ac5, .slice eb5 em5 ec5]) (i := 2) (by simp) (by simp)
  go_wp2_with fail
  refine (heldNfa_any (w4.alloc (.cells #[.slice (some ⟨g4, 0, none⟩) n1 n1] 34)).heap.size w5.heap.size SS aa5 eb5 an5 ac5 em5 ec5 1 _ G0_94.out.toIn (by have y0 := ZZ2.out; have y1 := ZZ7.out; have y2 := ZZ12.out; have y3 := ZZ16.out; have y4 := ZZ17.out; have y5 := ZZ22.out; have y6 := ZZ26.out; have y7 := ZZ27.out; have y8 := ZZ32.out; have y9 := ZZ36.out; have y10 := ZZ37.out; have y11 := ZZ43.out; have y12 := ZZ47.out; have y13 := ZZ51.out; have y14 := ZZ60.out; have y15 := ZZ66.out; have y16 := ZZ73.out; have y17 := ZZ78.out; have y18 := ZZ83.out; have y19 := ZZ87.out; have y20 := ZZ88.out; have y21 := ZZ94.out; omega) HZ5.out.1 HZ5.out.2 (by omega)).mono ?_
  rintro e w16 ⟨m16, rfl, HM_m16, B_98⟩
  clear q_95 q_96 q_97
  have HD_99 : Hid (Hold w w16 [(w14.heap.size, [.int .i64 SS, .slice aa14 an14 ac14, .slice eb14 em14 ec14]), (w5.heap.size, [.int .i64 SS, .slice aa5 an5 ac5, .slice eb5 em5 ec5]), (w4.heap.size, [.slice (some ⟨g4, 0, none⟩) n1 n1]), (w3.heap.size, [.int .i64 SS, .slice aa3 an3 ac3, .slice eb3 em3 ec3]), (w.heap.size, [.slice a1 n1 cap1])]) := HD_93.out.below B_98.out
  clear HD_93
  have ZZ100 : Hid (w15.heap.size ≤ w16.heap.size) := B_98.out.size
  have W0_100 : Hid (NfaIn w2.heap.size w3.heap.size w16 aa3 eb3 LA LE) := W0_94.out.below B_98.out (by have y0 := ZZ2.out; have y1 := ZZ7.out; have y2 := ZZ12.out; have y3 := ZZ16.out; have y4 := ZZ17.out; have y5 := ZZ22.out; have y6 := ZZ26.out; have y7 := ZZ27.out; have y8 := ZZ32.out; have y9 := ZZ36.out; have y10 := ZZ37.out; have y11 := ZZ43.out; have y12 := ZZ47.out; have y13 := ZZ51.out; have y14 := ZZ60.out; have y15 := ZZ66.out; have y16 := ZZ73.out; have y17 := ZZ78.out; have y18 := ZZ83.out; have y19 := ZZ87.out; have y20 := ZZ88.out; have y21 := ZZ94.out; have y22 := ZZ100.out; omega)
  have G0_100 : Hid (NfaOwn (w4.alloc (.cells #[.slice (some ⟨g4, 0, none⟩) n1 n1] 34)).heap.size w5.heap.size w16 aa5 eb5 (marksE 1 an5) (marksB (1 + an5 * 3) em5)) := G0_94.out.below B_98.out (by have y0 := ZZ2.out; have y1 := ZZ7.out; have y2 := ZZ12.out; have y3 := ZZ16.out; have y4 := ZZ17.out; have y5 := ZZ22.out; have y6 := ZZ26.out; have y7 := ZZ27.out; have y8 := ZZ32.out; have y9 := ZZ36.out; have y10 := ZZ37.out; have y11 := ZZ43.out; have y12 := ZZ47.out; have y13 := ZZ51.out; have y14 := ZZ60.out; have y15 := ZZ66.out; have y16 := ZZ73.out; have y17 := ZZ78.out; have y18 := ZZ83.out; have y19 := ZZ87.out; have y20 := ZZ88.out; have y21 := ZZ94.out; have y22 := ZZ100.out; omega)
  have H0_100 : Hid (NfaOwn w13.heap.size w14.heap.size w16 aa14 eb14 LA LE) := H0_94.out.below B_98.out (by have y0 := ZZ2.out; have y1 := ZZ7.out; have y2 := ZZ12.out; have y3 := ZZ16.out; have y4 := ZZ17.out; have y5 := ZZ22.out; have y6 := ZZ26.out; have y7 := ZZ27.out; have y8 := ZZ32.out; have y9 := ZZ36.out; have y10 := ZZ37.out; have y11 := ZZ43.out; have y12 := ZZ47.out; have y13 := ZZ51.out; have y14 := ZZ60.out; have y15 := ZZ66.out; have y16 := ZZ73.out; have y17 := ZZ78.out; have y18 := ZZ83.out; have y19 := ZZ87.out; have y20 := ZZ88.out; have y21 := ZZ94.out; have y22 := ZZ100.out; omega)
  clear W0_94 G0_94 H0_94
  clear B_98
  obtain rfl : m11 = m16 := by rw [HM_m16.out, HM_m11.out]
  clear HM_m16
  have hn_m16 : ¬ ((m11 : Nat) : Int) < 0 := by omega
  go_wp2
  go_ret
  exact ⟨rfl, HD_99.out.bel⟩
end Go.Proofs.Ytkcflhlipdnbnaa
