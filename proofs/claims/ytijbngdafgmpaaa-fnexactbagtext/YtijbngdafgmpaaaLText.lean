/-
  The walk of FnExactBagText.
-/
import Derived.Test.YtijbngdafgmpaaaTxtS
namespace Go.Proofs.Ytijbngdafgmpaaa
open Go.RowKit


/-- toBag, of the bag that came in -/
theorem toB14 (a : Option Addr) (n cap : Nat) (l : List It) (w0 w : World) (hr : BagIn 0 w0.heap.size w0 a l) (hb : Below w0.heap.size w0 w) (hl : l.length = n) (hm : n ≤ 1048576) (hq : ∀ i, i < n → (at' l i).1.length ≤ 1048576) :
    Calls Try.prog 42 #[.agg #[.slice a n cap]] w fun e w' => ∃ g : Nat, e = .returned (.agg #[.slice (some ⟨g, 0, none⟩) n n]) ∧ Hid (BagIn w.heap.size w'.heap.size w' (some ⟨g, 0, none⟩) l) ∧ Hid (Below w.heap.size w w') :=
  (toBag_any 0 w0.heap.size a n cap l w (hr.below hb (Nat.le_refl _)) hb.size hl hm hq).mono fun _ _ ⟨g, h1, h2, h3⟩ => ⟨g, h1, h2.out.toIn, h3⟩

theorem box_below14 {w w1 : World} {b : Nat} {v : Value} {T : TypeId} (hb : b = w.heap.size) (h : Below (w.alloc (.cells #[v] T)).heap.size (w.alloc (.cells #[v] T)) w1) : w1.cell? ⟨b, 0, none⟩ = some v ∧ Below w.heap.size w w1 ∧ b < w1.heap.size := by
  have hk := (blk_one w b hb v T).of_block (h.block b (by rw [hb]; simp))
  exact ⟨hk.cell (i := 0) (by omega), (below1 w _).trans (h.mono (by simp)), hk.lt⟩

set_option maxHeartbeats 4000000 in
set_option maxRecDepth 100000 in
theorem law_14 (a0 : Option Addr) (n0 cap0 : Nat) (l0 : List It) (w : World) (hl0 : l0.length = n0 ∧ ∀ i, i < n0 → (l0.getD i ([], 0)).1.length ≤ maxLen) (hm0 : n0 ≤ maxLen) (hr0 : BagIn 0 w.heap.size w a0 l0) :
    Calls Try.prog 14 #[.agg #[.slice a0 n0 cap0]] w fun e w' => e = .returned (.bool true) ∧ Below w.heap.size w w' := by
  have HR0 : Hid (BagIn 0 w.heap.size w a0 l0) := hr0
  have HL0 : Hid (l0.length = n0) := hl0.1
  have HLM : Hid (∀ i, i < n0 → (l0.getD i ([], 0)).1.length ≤ maxLen) := hl0.2
  have HMX : Hid (n0 ≤ maxLen) := hm0
  clear hr0 hl0 hm0
  go_enter Try.func14, Try.ntmps14
  go_wp2_with fail
  refine (szBag_any 0 w.heap.size a0 n0 cap0 1048576 l0 _ (HR0.out.below (below1 w _) (Nat.le_refl _)) (by simp) HL0.out HMX.out HLM.out (by omega)).mono ?_
  rintro e w1 ⟨x, rfl, HX, hb1⟩
  obtain ⟨c1, B1, S1⟩ := box_below14 rfl hb1.out
  have HB1 : Hid (Below w.heap.size w w1) := B1
  have HS1 : Hid (w.heap.size < w1.heap.size) := S1
  clear B1 S1 hb1
  by_cases hx : x < 0
  · go_wp2
    go_ret
    exact ⟨rfl, HB1.out⟩
  · have HM : Hid (n0 ≤ 1048576 ∧ ∀ i, i < n0 → (at' l0 i).1.length ≤ 1048576) := by
      rcases HX.out with h | ⟨h1, h2⟩
      · omega
      · refine ⟨by omega, fun i hi => ?_⟩
        have := row_le l0 hi
        omega
    clear HX
    go_wp2_with fail
    refine (toB14 a0 n0 cap0 l0 w w1 HR0.out HB1.out HL0.out HM.out.1 HM.out.2).mono ?_
    rintro e w2 ⟨g2, rfl, X2, B2⟩
    have c2 := cell_below c1 B2.out HS1.out
    have HB2 : Hid (Below w.heap.size w w2) := HB1.out.trans (B2.out.mono HB1.out.size)
    have HS2 : Hid (w.heap.size < w2.heap.size) := Nat.lt_of_lt_of_le HS1.out B2.out.size
    clear c1 B2 HB1
    go_wp2_with fail
    refine (specText_any w1.heap.size w2.heap.size (some ⟨g2, 0, none⟩) n0 n0 l0 w2 X2.out (Nat.le_refl _) HL0.out HM.out.1 HM.out.2).mono ?_
    rintro e w3 ⟨t3, ok3, rfl, HE3, B3⟩
    have hb3 := B3.out
    clear B3
    have c3 := cell_below c2 hb3 HS2.out
    have HB3 : Hid (Below w.heap.size w w3) := HB2.out.trans (hb3.mono HB2.out.size)
    have HS3 : Hid (w.heap.size < w3.heap.size) := Nat.lt_of_lt_of_le HS2.out hb3.size
    clear c2 hb3 HB2 HS2 HS1 X2
    go_wp2_with fail
    refine (toB14 a0 n0 cap0 l0 w w3 HR0.out HB3.out HL0.out HM.out.1 HM.out.2).mono ?_
    rintro e w4 ⟨g4, rfl, X4, B4⟩
    have c4 := cell_below c3 B4.out HS3.out
    have HB4 : Hid (Below w.heap.size w w4) := HB3.out.trans (B4.out.mono HB3.out.size)
    have HS4 : Hid (w.heap.size < w4.heap.size) := Nat.lt_of_lt_of_le HS3.out B4.out.size
    clear c3 B4 HB3 HS3
    go_wp2_with fail
    refine (bagText_any w3.heap.size w4.heap.size (some ⟨g4, 0, none⟩) n0 n0 l0 _ (X4.out.below (below1 w4 _) (Nat.le_refl _)) (by simp) HL0.out HM.out.1 HM.out.2).mono ?_
    rintro e w5 ⟨t5, ok5, rfl, HE5, B5⟩
    have hb5 := B5.out
    clear B5
    obtain rfl : t5 = t3 := by rw [HE5.out.2, HE3.out.2]
    obtain rfl : ok5 = ok3 := by rw [HE5.out.1, HE3.out.1]
    obtain ⟨d5, B5, S5⟩ := box_below14 rfl hb5
    have c5 := cell_below c4 B5 HS4.out
    have HB5 : Hid (Below w.heap.size w w5) := HB4.out.trans (B5.mono HB4.out.size)
    have X5 : Hid (BagIn w3.heap.size w4.heap.size w5 (some ⟨g4, 0, none⟩) l0) := X4.out.below B5 (Nat.le_refl _)
    have HS5 : Hid (w4.heap.size < w5.heap.size) := S5
    clear c4 B5 hb5 HB4 X4 S5
    have HC1 : Hid (∀ w0, Below w5.heap.size w5 w0 → Calls Try.prog 42 #[.agg #[.slice a0 n0 cap0]] w0 fun e w' => ∃ g : Nat, e = .returned (.agg #[.slice (some ⟨g, 0, none⟩) n0 n0]) ∧ Hid (BagIn w5.heap.size w'.heap.size w' (some ⟨g, 0, none⟩) l0) ∧ Hid (Below w5.heap.size w5 w') ∧ (w'.cell? ⟨w4.heap.size, 0, none⟩ = some (.slice (some ⟨g4, 0, none⟩) n0 n0) ∧ w'.cell? ⟨w.heap.size, 0, none⟩ = some (.slice a0 n0 cap0))) := fun w0 h =>
      (toB14 a0 n0 cap0 l0 w w0 HR0.out (HB5.out.trans (h.mono HB5.out.size)) HL0.out HM.out.1 HM.out.2).mono fun _ _ ⟨g, h1, h2, h3⟩ =>
        have hk := h.trans (h3.out.mono h.size)
        ⟨g, h1, h2.out.wide h.size (Nat.le_refl _), hk, cell_below d5 hk HS5.out, cell_below c5 hk (Nat.lt_trans HS4.out HS5.out)⟩
    have HC2 : Hid (∀ (g : Nat) w0, Below w5.heap.size w5 w0 → BagIn w5.heap.size w0.heap.size w0 (some ⟨g, 0, none⟩) l0 → Calls Try.prog 43 #[.agg #[.slice (some ⟨g4, 0, none⟩) n0 n0], .agg #[.slice (some ⟨g, 0, none⟩) n0 n0]] w0 fun e w' => e = .returned (.bool true) ∧ Hid (Below w5.heap.size w5 w') ∧ (w'.cell? ⟨w4.heap.size, 0, none⟩ = some (.slice (some ⟨g4, 0, none⟩) n0 n0) ∧ w'.cell? ⟨w.heap.size, 0, none⟩ = some (.slice a0 n0 cap0))) := fun g w0 h hx =>
      (eqBag_any w3.heap.size w4.heap.size w5.heap.size w0.heap.size (some ⟨g4, 0, none⟩) (some ⟨g, 0, none⟩) n0 n0 n0 n0 l0 l0 true w0 (X5.out.below h (Nat.le_of_lt HS5.out)) hx (Nat.le_trans (Nat.le_of_lt HS5.out) h.size) (Nat.le_refl _) HL0.out HL0.out HM.out.1 HM.out.2 (by simp)).mono fun _ _ ⟨h1, h2⟩ =>
        have hk := h.trans (h2.mono h.size)
        ⟨h1, hk, cell_below d5 hk HS5.out, cell_below c5 hk (Nat.lt_trans HS4.out HS5.out)⟩
    go_wp2_with fail
    go_region_held (fun w' => w'.cell? ⟨w4.heap.size, 0, none⟩ = some (.slice (some ⟨g4, 0, none⟩) n0 n0) ∧ w'.cell? ⟨w.heap.size, 0, none⟩ = some (.slice a0 n0 cap0)) (first | exact ⟨d5, c5⟩ | exact hk6 | exact hk7) (first | (go_at_call 42; refine (HC1.out _ ((Below.refl _ _).drew)).mono ?_; rintro e w6 ⟨g6, rfl, X6, B6, hk6⟩) | (go_at_call 43; refine (HC2.out _ _ B6.out X6.out).mono ?_; rintro e w7 ⟨rfl, B7, hk7⟩))
    all_goals go_wp2
    all_goals go_ret
    all_goals exact ⟨rfl, HB5.out.trans (B7.out.mono HB5.out.size)⟩

end Go.Proofs.Ytijbngdafgmpaaa
