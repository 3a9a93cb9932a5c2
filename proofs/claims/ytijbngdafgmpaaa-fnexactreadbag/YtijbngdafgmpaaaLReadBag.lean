/-
  The walk of FnExactReadBag.
-/
import Derived.Test.YtijbngdafgmpaaaRdB
import Derived.Test.YtijbngdafgmpaaaHeld
namespace Go.Proofs.Ytijbngdafgmpaaa
open Go.RowKit

set_option maxHeartbeats 4000000 in
set_option maxRecDepth 100000 in
theorem law_15 (s0 : ByteArray) (w : World) (hs0 : s0.size ≤ maxLen) :
    Calls Try.prog 15 #[.string s0] w fun e w' => e = .returned (.bool true) ∧ Below w.heap.size w w' := by
  have hsx := hs0
  clear hsx
  by_cases hs : s0.size ≤ 1048576
  · obtain ⟨ok, L, n, hL, hn, hq, _, _, hS, hI⟩ := readBoth s0 hs
    have HL : Hid (L.length = n) := hL
    have HQ : Hid (∀ i, i < n → (at' L i).1.length ≤ 1048576) := fun i hi => Nat.le_trans (hq i hi) (by omega)
    have HRW : Hid (rowsLen L n ≤ 1048576) := Nat.le_trans (rows_small n hq) (by omega)
    have HS : Hid (∀ w : World, Calls Try.prog 35 #[.string s0] w fun e w' => ∃ a cap, e = .returned (.tuple #[.agg #[.slice a n cap], .bool ok]) ∧ Hid (BagOwn w.heap.size w'.heap.size w' a L) ∧ Hid (Below w.heap.size w w')) := hS
    have HI : Hid (∀ w : World, Calls Try.prog 33 #[.string s0] w fun e w' => ∃ a cap, e = .returned (.tuple #[.agg #[.slice a n cap], .bool ok]) ∧ Hid (BagOwn w.heap.size w'.heap.size w' a L) ∧ Hid (Below w.heap.size w w')) := hI
    have hs1 : ¬ (1048576 : Int) < (s0.size : Int) := by omega
    clear hL hq hS hI hs0 hs
    go_enter Try.func15, Try.ntmps15
    go_wp2_with fail
    refine (HS.out w).mono ?_
    rintro e w1 ⟨a1, cap1, rfl, X1, B1⟩
    have H1 : Hid (Held w (w1.alloc (.cells #[.slice a1 n cap1] 26)) [(w1.heap.size, .slice a1 n cap1)]) := by
      have h0 : Held w w [] := ⟨Below.refl _ _, fun p hp => by cases hp⟩
      exact (h0.below B1.out).more _ _
    have S1 : Hid (w.heap.size ≤ w1.heap.size) := B1.out.size
    go_wp2_with fail
    refine (HI.out _).mono ?_
    rintro e w2 ⟨a2, cap2, rfl, X2, B2⟩
    have X2' : Hid (BagOwn (w1.heap.size + 1) w2.heap.size w2 a2 L) := by have h := X2.out; simp only [World.size_alloc] at h; exact h
    have X1' : Hid (BagIn w.heap.size w1.heap.size w2 a1 L) := (X1.out.toIn.below (below1' w1 _) (Nat.le_refl _)).below B2.out (by simp)
    have S2 : Hid (w1.heap.size + 1 ≤ w2.heap.size) := by have h := B2.out.size; simp only [World.size_alloc] at h; exact h
    obtain ⟨bx, HBX⟩ : ∃ bx, Hid (bx = [(w2.heap.size, Value.slice a2 n cap2), (w1.heap.size, Value.slice a1 n cap1)]) := ⟨_, rfl⟩
    have H2 : Hid (Held w (w2.alloc (.cells #[.slice a2 n cap2] 26)) bx) := by rw [HBX.out]; exact (H1.out.below B2.out).more _ _
    have M2 : Hid ((w2.heap.size, Value.slice a2 n cap2) ∈ bx ∧ (w1.heap.size, Value.slice a1 n cap1) ∈ bx) := by rw [HBX.out]; exact ⟨by simp, by simp⟩
    have N2 : Hid (∀ x ∈ bx, ¬ (w1.heap.size + 1 ≤ x.1 ∧ x.1 < w2.heap.size)) := by
      have s1 := S1.out; have s2 := S2.out
      rw [HBX.out]
      intro x hx
      simp only [List.mem_cons, List.not_mem_nil, or_false] at hx
      rcases hx with rfl | rfl <;> dsimp only <;> omega
    have X1a : Hid (BagIn w.heap.size w1.heap.size (w2.alloc (.cells #[.slice a2 n cap2] 26)) a1 L) := X1'.out.below (below1' w2 _) (by have := S2.out; omega)
    have X2a : Hid (BagOwn (w1.heap.size + 1) w2.heap.size (w2.alloc (.cells #[.slice a2 n cap2] 26)) a2 L) := X2'.out.below (below1' w2 _) (Nat.le_refl _)
    have c1 := H2.out.cell M2.out.2
    clear X1 X1' X2 X2' B1 B2 H1 HBX
    go_wp2_with fail
    refine (eqH (w := w) (bx := bx) (lo := w1.heap.size + 1) (hi := w2.heap.size) (lo' := w.heap.size) (hi' := w1.heap.size) a2 a1 n cap2 cap1 L H2.out X2a.out.toIn X1a.out (by simp) (by have := S2.out; simp; omega) HL.out (by omega) HQ.out).mono ?_
    rintro e w3 ⟨rfl, H3, B3⟩
    have S3 : Hid (w2.heap.size < w3.heap.size) := H3.out.lt M2.out.1
    have X13 : Hid (BagIn w.heap.size w1.heap.size w3 a1 L) := X1a.out.below B3.out (by have := S2.out; simp; omega)
    have X23 : Hid (BagOwn (w1.heap.size + 1) w2.heap.size w3 a2 L) := X2a.out.below B3.out (by simp)
    have d1 := H3.out.cell M2.out.1
    clear c1 H2 X1a X2a B3
    go_wp2_with fail
    refine (markH (w := w) (bx := bx) (lo := w1.heap.size + 1) (hi := w2.heap.size) a2 n cap2 1 L H3.out X23.out (Nat.le_of_lt S3.out) (by have := S1.out; omega) N2.out HL.out (by omega) HRW.out (by omega)).mono ?_
    rintro e w4 ⟨m4, rfl, HM4, X24, H4, K4⟩
    have S4 : Hid (w2.heap.size < w4.heap.size) := H4.out.lt M2.out.1
    have X14 : Hid (BagIn w.heap.size w1.heap.size w4 a1 L) := X13.out.kept K4.out (by have := S2.out; have := S3.out; omega) (fun c h1 h2 h3 => by omega)
    have e1 := H4.out.cell M2.out.1
    have hm4 : ¬ ((m4 : Nat) : Int) < 0 := by omega
    clear d1 H3 X13 X23 K4 S3
    go_wp2_with fail
    refine (heldH (w := w) (bx := bx) (lo := w1.heap.size + 1) (hi := w2.heap.size) a2 n cap2 1 L H4.out X24.out (Nat.le_of_lt S4.out) HL.out (by omega) HRW.out (by omega)).mono ?_
    rintro e w5 ⟨m5, rfl, HM5, X25, H5, B5⟩
    obtain rfl : m5 = m4 := by rw [HM5.out, HM4.out]
    have S5 : Hid (w2.heap.size < w5.heap.size) := H5.out.lt M2.out.1
    have X15 : Hid (BagIn w.heap.size w1.heap.size w5 a1 L) := X14.out.below B5.out (by have := S2.out; have := S4.out; omega)
    clear e1 H4 X14 X24 B5 S4
    go_wp2_with fail
    refine (HI.out w5).mono ?_
    rintro e w6 ⟨a6, cap6, rfl, X6, B6⟩
    have H6 : Hid (Held w (w6.alloc (.cells #[.slice a6 n cap6] 26)) ((w6.heap.size, .slice a6 n cap6) :: bx)) := (H5.out.below B6.out).more _ _
    have S6 : Hid (w2.heap.size < w6.heap.size ∧ w5.heap.size ≤ w6.heap.size) := ⟨Nat.lt_of_lt_of_le S5.out B6.out.size, B6.out.size⟩
    have X16 : Hid (BagIn w.heap.size w1.heap.size (w6.alloc (.cells #[.slice a6 n cap6] 26)) a1 L) := (X15.out.below B6.out (by have := S2.out; have := S5.out; omega)).below (below1' w6 _) (by have := S2.out; have := S6.out; omega)
    have X26 : Hid (BagOwn (w1.heap.size + 1) w2.heap.size (w6.alloc (.cells #[.slice a6 n cap6] 26)) a2 (mkTo 1 L n)) := (X25.out.below B6.out (Nat.le_of_lt S5.out)).below (below1' w6 _) (Nat.le_of_lt S6.out.1)
    have X6' : Hid (BagIn w5.heap.size w6.heap.size (w6.alloc (.cells #[.slice a6 n cap6] 26)) a6 L) := X6.out.toIn.below (below1' w6 _) (Nat.le_refl _)
    have f1 := H6.out.cell (List.mem_cons_of_mem _ M2.out.2)
    clear H5 X15 X25 X6 B6 S5
    go_wp2_with fail
    refine (eqH (w := w) (bx := (w6.heap.size, .slice a6 n cap6) :: bx) (lo := w5.heap.size) (hi := w6.heap.size) (lo' := w.heap.size) (hi' := w1.heap.size) a6 a1 n cap6 cap1 L H6.out X6'.out X16.out (by simp) (by have := S2.out; have := S6.out; simp; omega) HL.out (by omega) HQ.out).mono ?_
    rintro e w7 ⟨rfl, H7, B7⟩
    have S7 : Hid (w2.heap.size < w7.heap.size) := H7.out.lt (List.mem_cons_of_mem _ M2.out.1)
    have X27 : Hid (BagOwn (w1.heap.size + 1) w2.heap.size w7 a2 (mkTo 1 L n)) := X26.out.below B7.out (by have := S6.out; simp; omega)
    have g1 := H7.out.cell (List.mem_cons_of_mem _ M2.out.1)
    clear f1 H6 X16 X26 X6' B7 S6
    go_wp2_with fail
    refine (heldH (w := w) (bx := (w6.heap.size, .slice a6 n cap6) :: bx) (lo := w1.heap.size + 1) (hi := w2.heap.size) a2 n cap2 1 L H7.out X27.out (Nat.le_of_lt S7.out) HL.out (by omega) HRW.out (by omega)).mono ?_
    rintro e w8 ⟨m8, rfl, HM8, _, H8, _⟩
    obtain rfl : m8 = m5 := by rw [HM8.out, HM4.out]
    go_wp2
    go_ret
    exact ⟨rfl, H8.out.bel⟩
  · have hs1 : (1048576 : Int) < (s0.size : Int) := by omega
    go_enter Try.func15, Try.ntmps15
    go_wp2
    go_ret
    exact ⟨rfl, Below.refl _ _⟩

end Go.Proofs.Ytijbngdafgmpaaa
