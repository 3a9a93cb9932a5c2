/-
  The walk of FnExactBagEach.
-/
import Derived.Test.YtijbngdafgmpaaaEachS
import Derived.Test.YtijbngdafgmpaaaHeld
namespace Go.Proofs.Ytijbngdafgmpaaa
open Go.RowKit

theorem each_len (l : List It) : (eachOf l).length = l.length := by simp [eachOf]
theorem each_row {l : List It} {i : Nat} (h : i < l.length) : (at' (eachOf l) i).1 = (at' l i).1 := by simp [eachOf, at', List.getD, h]
theorem each_rows {l : List It} {k : Nat} (h : k ≤ l.length) : rowsLen (eachOf l) k = rowsLen l k := by
  induction k with
  | zero => rfl
  | succ k ih => simp only [rowsLen]; rw [ih (by omega), each_row (by omega)]

set_option maxHeartbeats 4000000 in
set_option maxRecDepth 100000 in
theorem law_12 (a0 : Option Addr) (n0 cap0 : Nat) (l0 : List It) (w : World) (hl0 : l0.length = n0 ∧ ∀ i, i < n0 → (l0.getD i ([], 0)).1.length ≤ maxLen) (hm0 : n0 ≤ maxLen) (hr0 : BagIn 0 w.heap.size w a0 l0) :
    Calls Try.prog 12 #[.agg #[.slice a0 n0 cap0]] w fun e w' => e = .returned (.bool true) ∧ Below w.heap.size w w' := by
  have HR0 : Hid (BagIn 0 w.heap.size w a0 l0) := hr0
  have HL0 : Hid (l0.length = n0) := hl0.1
  have HLM : Hid (∀ i, i < n0 → (l0.getD i ([], 0)).1.length ≤ maxLen) := hl0.2
  have HMX : Hid (n0 ≤ maxLen) := hm0
  clear hr0 hl0 hm0
  go_enter Try.func12, Try.ntmps12
  go_wp2_with fail
  refine (szBag_any 0 w.heap.size a0 n0 cap0 1048576 l0 _ (HR0.out.below (below1' w _) (Nat.le_refl _)) (by simp) HL0.out HMX.out HLM.out (by omega)).mono ?_
  rintro e w1 ⟨x, rfl, HX, hb1⟩
  have H1 : Hid (Held w w1 [(w.heap.size, .slice a0 n0 cap0)]) := (Held.start w _ _).below hb1.out
  clear hb1
  by_cases hx : x < 0
  · go_wp2
    go_ret
    exact ⟨rfl, H1.out.bel⟩
  · have HM : Hid (n0 ≤ 1048576 ∧ (∀ i, i < n0 → (at' l0 i).1.length ≤ 1048576) ∧ rowsLen l0 n0 ≤ 1048576) := by
      rcases HX.out with h | ⟨h1, h2⟩
      · omega
      · refine ⟨by omega, fun i hi => ?_, by omega⟩
        have := row_le l0 hi
        omega
    have HE : Hid ((eachOf l0).length = n0 ∧ (∀ i, i < n0 → (at' (eachOf l0) i).1.length ≤ 1048576) ∧ rowsLen (eachOf l0) n0 ≤ 1048576) := by
      have hl := HL0.out
      refine ⟨by rw [each_len, hl], fun i hi => ?_, ?_⟩
      · rw [each_row (by omega)]; exact HM.out.2.1 i hi
      · rw [each_rows (by omega)]; exact HM.out.2.2
    clear HX
    have c1 := H1.out.cell (List.mem_cons_self ..)
    go_wp2_with fail
    refine (toB a0 n0 cap0 l0 HR0.out H1.out HL0.out HM.out.1 HM.out.2.1).mono ?_
    rintro e w2 ⟨g2, rfl, X2, H2, B2⟩
    clear c1 B2
    go_wp2_with fail
    refine (specEach_any w1.heap.size w2.heap.size (some ⟨g2, 0, none⟩) n0 n0 l0 w2 X2.out.toIn (Nat.le_refl _) HL0.out HM.out.1 HM.out.2.1).mono ?_
    rintro e w3 ⟨a3, cap3, rfl, X3, B3⟩
    have H3 : Hid (Held w w3 [(w.heap.size, .slice a0 n0 cap0)]) := H2.out.below B3.out
    have H3' : Hid (Held w (w3.alloc (.cells #[.slice a3 n0 cap3] 26)) [(w3.heap.size, .slice a3 n0 cap3), (w.heap.size, .slice a0 n0 cap0)]) := H3.out.more _ _
    have S3 : Hid (w.heap.size < w2.heap.size ∧ w2.heap.size ≤ w3.heap.size) := ⟨H2.out.lt (List.mem_cons_self ..), B3.out.size⟩
    clear X2 H2 B3 H1
    have c3 := H3'.out.cell (b := w.heap.size) (v := .slice a0 n0 cap0) (by simp)
    go_wp2_with fail
    refine (toB a0 n0 cap0 l0 HR0.out H3'.out HL0.out HM.out.1 HM.out.2.1).mono ?_
    rintro e w4 ⟨g4, rfl, X4, H4, B4⟩
    have X3' : Hid (BagIn w2.heap.size w3.heap.size w4 a3 (eachOf l0)) := (X3.out.below (below1' w3 _) (Nat.le_refl _)).below B4.out (by simp)
    have X4' : Hid (BagOwn (w3.heap.size + 1) w4.heap.size w4 (some ⟨g4, 0, none⟩) l0) := by have h := X4.out; simp only [World.size_alloc] at h; exact h
    have S4 : Hid (w3.heap.size + 1 ≤ w4.heap.size) := by have h := B4.out.size; simp only [World.size_alloc] at h; exact h
    have H4' : Hid (Held w (w4.alloc (.cells #[.slice (some ⟨g4, 0, none⟩) n0 n0] 26)) [(w4.heap.size, .slice (some ⟨g4, 0, none⟩) n0 n0), (w3.heap.size, .slice a3 n0 cap3), (w.heap.size, .slice a0 n0 cap0)]) := H4.out.more _ _
    clear c3 H3 H3' X3 X4 B4
    go_wp2_with fail
    refine (bagEach_any (w3.heap.size + 1) w4.heap.size (some ⟨g4, 0, none⟩) n0 n0 l0 _ (X4'.out.toIn.below (below1' w4 _) (Nat.le_refl _)) (by simp) HL0.out HM.out.1 HM.out.2.1).mono ?_
    rintro e w5 ⟨a5, cap5, rfl, X5, B5⟩
    have hb45 : Below w4.heap.size w4 w5 := (below1' w4 _).trans (B5.out.mono (by simp))
    have X5' : Hid (BagOwn (w4.heap.size + 1) w5.heap.size w5 a5 (eachOf l0)) := by have h := X5.out; simp only [World.size_alloc] at h; exact h
    have S5 : Hid (w4.heap.size + 1 ≤ w5.heap.size) := by have h := B5.out.size; simp only [World.size_alloc] at h; exact h
    obtain ⟨bx, HBX⟩ : ∃ bx, Hid (bx = [(w5.heap.size, Value.slice a5 n0 cap5), (w4.heap.size, .slice (some ⟨g4, 0, none⟩) n0 n0), (w3.heap.size, .slice a3 n0 cap3), (w.heap.size, .slice a0 n0 cap0)]) := ⟨_, rfl⟩
    have M5 : Hid ((w5.heap.size, Value.slice a5 n0 cap5) ∈ bx ∧ (w4.heap.size, Value.slice (some ⟨g4, 0, none⟩) n0 n0) ∈ bx ∧ (w3.heap.size, Value.slice a3 n0 cap3) ∈ bx ∧ (w.heap.size, Value.slice a0 n0 cap0) ∈ bx) := by
      rw [HBX.out]; exact ⟨by simp, by simp, by simp, by simp⟩
    have N4 : Hid (∀ x ∈ bx, ¬ (w3.heap.size + 1 ≤ x.1 ∧ x.1 < w4.heap.size)) := by
      have s3 := S3.out; have s4 := S4.out; have s5 := S5.out
      rw [HBX.out]
      intro x hx
      simp only [List.mem_cons, List.not_mem_nil, or_false] at hx
      rcases hx with rfl | rfl | rfl | rfl <;> dsimp only <;> omega
    have N5 : Hid (∀ x ∈ bx, ¬ (w4.heap.size + 1 ≤ x.1 ∧ x.1 < w5.heap.size)) := by
      have s3 := S3.out; have s4 := S4.out; have s5 := S5.out
      rw [HBX.out]
      intro x hx
      simp only [List.mem_cons, List.not_mem_nil, or_false] at hx
      rcases hx with rfl | rfl | rfl | rfl <;> dsimp only <;> omega
    have H5' : Hid (Held w (w5.alloc (.cells #[.slice a5 n0 cap5] 26)) bx) := by rw [HBX.out]; exact (H4'.out.below B5.out).more _ _
    have B5a : Hid (Below w5.heap.size w5 (w5.alloc (.cells #[.slice a5 n0 cap5] 26))) := below1' w5 _
    have SL : Hid (w5.heap.size < (w5.alloc (.cells #[Value.slice a5 n0 cap5] 26)).heap.size) := by show _ < _; simp
    have X35 : Hid (BagIn w2.heap.size w3.heap.size (w5.alloc (.cells #[.slice a5 n0 cap5] 26)) a3 (eachOf l0)) := (X3'.out.below hb45 (by have := S4.out; omega)).below B5a.out (by have := S4.out; have := S5.out; omega)
    have X45 : Hid (BagOwn (w3.heap.size + 1) w4.heap.size (w5.alloc (.cells #[.slice a5 n0 cap5] 26)) (some ⟨g4, 0, none⟩) l0) := (X4'.out.below hb45 (Nat.le_refl _)).below B5a.out (by have := S5.out; omega)
    have X55 : Hid (BagOwn (w4.heap.size + 1) w5.heap.size (w5.alloc (.cells #[.slice a5 n0 cap5] 26)) a5 (eachOf l0)) := X5'.out.below B5a.out (Nat.le_refl _)
    have c5 := H5'.out.cell M5.out.2.2.1
    clear hb45 H4 H4' X3' X4' X5 X5' B5 B5a HBX
    go_wp2_with fail
    refine (eqH (w := w) (bx := bx) (lo := w4.heap.size + 1) (hi := w5.heap.size) (lo' := w2.heap.size) (hi' := w3.heap.size) a5 a3 n0 cap5 cap3 (eachOf l0) H5'.out X55.out.toIn X35.out (Nat.le_of_lt SL.out) (by have := S4.out; have := S5.out; have := SL.out; omega) HE.out.1 HM.out.1 HE.out.2.1).mono ?_
    rintro e w6 ⟨rfl, H6, B6⟩
    have X36 : Hid (BagIn w2.heap.size w3.heap.size w6 a3 (eachOf l0)) := X35.out.below B6.out (by have := S4.out; have := S5.out; have := SL.out; omega)
    have X46 : Hid (BagOwn (w3.heap.size + 1) w4.heap.size w6 (some ⟨g4, 0, none⟩) l0) := X45.out.below B6.out (by have := S5.out; have := SL.out; omega)
    have X56 : Hid (BagOwn (w4.heap.size + 1) w5.heap.size w6 a5 (eachOf l0)) := X55.out.below B6.out (Nat.le_of_lt SL.out)
    have S6 : Hid (w5.heap.size < w6.heap.size) := H6.out.lt M5.out.1
    have d1 := H6.out.cell M5.out.2.1
    have d2 := H6.out.cell M5.out.2.2.2
    clear c5 B6 SL X35 X45 X55 H5'
    have HC1 : Hid (∀ w0, Below w6.heap.size w6 w0 → Calls Try.prog 42 #[.agg #[.slice a0 n0 cap0]] w0 fun e w' => ∃ g : Nat, e = .returned (.agg #[.slice (some ⟨g, 0, none⟩) n0 n0]) ∧ Hid (BagIn w6.heap.size w'.heap.size w' (some ⟨g, 0, none⟩) l0) ∧ Hid (Below w6.heap.size w6 w') ∧ (w'.cell? ⟨w4.heap.size, 0, none⟩ = some (.slice (some ⟨g4, 0, none⟩) n0 n0) ∧ w'.cell? ⟨w.heap.size, 0, none⟩ = some (.slice a0 n0 cap0))) := fun w0 h =>
      (toB a0 n0 cap0 l0 HR0.out (H6.out.below h) HL0.out HM.out.1 HM.out.2.1).mono fun _ _ ⟨g, h1, h2, h3, h4⟩ =>
        ⟨g, h1, h2.out.toIn.wide h.size (Nat.le_refl _), h.trans (h4.out.mono h.size), h3.out.cell M5.out.2.1, h3.out.cell M5.out.2.2.2⟩
    have HC2 : Hid (∀ (g : Nat) w0, Below w6.heap.size w6 w0 → BagIn w6.heap.size w0.heap.size w0 (some ⟨g, 0, none⟩) l0 → Calls Try.prog 43 #[.agg #[.slice (some ⟨g4, 0, none⟩) n0 n0], .agg #[.slice (some ⟨g, 0, none⟩) n0 n0]] w0 fun e w' => e = .returned (.bool true) ∧ Hid (Below w6.heap.size w6 w') ∧ (w'.cell? ⟨w4.heap.size, 0, none⟩ = some (.slice (some ⟨g4, 0, none⟩) n0 n0) ∧ w'.cell? ⟨w.heap.size, 0, none⟩ = some (.slice a0 n0 cap0))) := fun g w0 h hx =>
      (eqH (w := w) (bx := bx) (lo := w3.heap.size + 1) (hi := w4.heap.size) (lo' := w6.heap.size) (hi' := w0.heap.size) (some ⟨g4, 0, none⟩) (some ⟨g, 0, none⟩) n0 n0 n0 l0 (H6.out.below h) (X46.out.toIn.below h (by have := S5.out; have := S6.out; omega)) hx (by have := S5.out; have := S6.out; have := h.size; omega) (Nat.le_refl _) HL0.out HM.out.1 HM.out.2.1).mono fun _ _ ⟨h1, h2, h3⟩ =>
        ⟨h1, h.trans (h3.out.mono h.size), h2.out.cell M5.out.2.1, h2.out.cell M5.out.2.2.2⟩
    go_wp2_with fail
    go_region_held (fun w' => w'.cell? ⟨w4.heap.size, 0, none⟩ = some (.slice (some ⟨g4, 0, none⟩) n0 n0) ∧ w'.cell? ⟨w.heap.size, 0, none⟩ = some (.slice a0 n0 cap0)) (first | exact ⟨d1, d2⟩ | exact hk7 | exact hk8) (first | (go_at_call 42; refine (HC1.out _ ((Below.refl _ _).drew)).mono ?_; rintro e w7 ⟨g7, rfl, X7, B7, hk7⟩) | (go_at_call 43; refine (HC2.out _ _ B7.out X7.out).mono ?_; rintro e w8 ⟨rfl, B8, hk8⟩))
    have H8 : Hid (Held w w8 bx) := H6.out.below B8.out
    have X38 : Hid (BagIn w2.heap.size w3.heap.size w8 a3 (eachOf l0)) := X36.out.below B8.out (by have := S4.out; have := S5.out; have := S6.out; omega)
    have X48 : Hid (BagOwn (w3.heap.size + 1) w4.heap.size w8 (some ⟨g4, 0, none⟩) l0) := X46.out.below B8.out (by have := S5.out; have := S6.out; omega)
    have X58 : Hid (BagOwn (w4.heap.size + 1) w5.heap.size w8 a5 (eachOf l0)) := X56.out.below B8.out (Nat.le_of_lt S6.out)
    have S8 : Hid (w5.heap.size < w8.heap.size) := H8.out.lt M5.out.1
    have e1 := H8.out.cell M5.out.2.1
    clear d1 d2 hk7 hk8 B7 B8 X7 HC1 HC2 H6 X36 X46 X56 S6
    go_wp2_with fail
    refine (markH (w := w) (bx := bx) (lo := w3.heap.size + 1) (hi := w4.heap.size) (some ⟨g4, 0, none⟩) n0 n0 1 l0 H8.out X48.out (by have := S5.out; have := S8.out; omega) (by have := S3.out; omega) N4.out HL0.out HM.out.1 HM.out.2.2 (by omega)).mono ?_
    rintro e w9 ⟨m9, rfl, HM9, _, H9, K9⟩
    have X39 : Hid (BagIn w2.heap.size w3.heap.size w9 a3 (eachOf l0)) := X38.out.kept K9.out (by have := S4.out; have := S5.out; have := S8.out; omega) (fun c h1 h2 h3 => by omega)
    have X59 : Hid (BagOwn (w4.heap.size + 1) w5.heap.size w9 a5 (eachOf l0)) := X58.out.kept K9.out (Nat.le_of_lt S8.out) (fun c h1 h2 h3 => by omega)
    have S9 : Hid (w5.heap.size < w9.heap.size) := H9.out.lt M5.out.1
    have f1 := H9.out.cell M5.out.1
    have f2 := H9.out.cell M5.out.2.2.1
    have hm9 : ¬ ((m9 : Nat) : Int) < 0 := by omega
    clear e1 K9 H8 X38 X48 X58 S8
    go_wp2_with fail
    refine (eqH (w := w) (bx := bx) (lo := w4.heap.size + 1) (hi := w5.heap.size) (lo' := w2.heap.size) (hi' := w3.heap.size) a5 a3 n0 cap5 cap3 (eachOf l0) H9.out X59.out.toIn X39.out (Nat.le_of_lt S9.out) (by have := S4.out; have := S5.out; have := S9.out; omega) HE.out.1 HM.out.1 HE.out.2.1).mono ?_
    rintro e w10 ⟨rfl, H10, B10⟩
    have X310 : Hid (BagIn w2.heap.size w3.heap.size w10 a3 (eachOf l0)) := X39.out.below B10.out (by have := S4.out; have := S5.out; have := S9.out; omega)
    have X510 : Hid (BagOwn (w4.heap.size + 1) w5.heap.size w10 a5 (eachOf l0)) := X59.out.below B10.out (Nat.le_of_lt S9.out)
    have S10 : Hid (w5.heap.size < w10.heap.size) := H10.out.lt M5.out.1
    have g1 := H10.out.cell M5.out.1
    clear f1 f2 B10 H9 X39 X59 S9
    go_wp2_with fail
    refine (markH (w := w) (bx := bx) (lo := w4.heap.size + 1) (hi := w5.heap.size) a5 n0 cap5 1 (eachOf l0) H10.out X510.out (Nat.le_of_lt S10.out) (by have := S3.out; have := S4.out; omega) N5.out HE.out.1 HM.out.1 HE.out.2.2 (by omega)).mono ?_
    rintro e w11 ⟨m11, rfl, HM11, X511, H11, K11⟩
    have X311 : Hid (BagIn w2.heap.size w3.heap.size w11 a3 (eachOf l0)) := X310.out.kept K11.out (by have := S4.out; have := S5.out; have := S10.out; omega) (fun c h1 h2 h3 => by have := S4.out; omega)
    have S11 : Hid (w5.heap.size < w11.heap.size) := H11.out.lt M5.out.1
    have h1 := H11.out.cell M5.out.1
    clear g1 K11 H10 X310 X510 S10
    go_wp2_with fail
    refine (heldH (w := w) (bx := bx) (lo := w4.heap.size + 1) (hi := w5.heap.size) a5 n0 cap5 1 (eachOf l0) H11.out X511.out (Nat.le_of_lt S11.out) HE.out.1 HM.out.1 HE.out.2.2 (by omega)).mono ?_
    rintro e w12 ⟨m12, rfl, HM12, X512, H12, B12⟩
    have X312 : Hid (BagIn w2.heap.size w3.heap.size w12 a3 (eachOf l0)) := X311.out.below B12.out (by have := S4.out; have := S5.out; have := S11.out; omega)
    have S12 : Hid (w5.heap.size < w12.heap.size) := H12.out.lt M5.out.1
    obtain rfl : m12 = m11 := by rw [HM12.out, HM11.out]
    have hm12 : ¬ ((m12 : Nat) : Int) < 0 := by omega
    have i1 := H12.out.cell M5.out.2.2.2
    clear h1 B12 H11 X311 X511 S11
    go_wp2_with fail
    refine (toB a0 n0 cap0 l0 HR0.out H12.out HL0.out HM.out.1 HM.out.2.1).mono ?_
    rintro e w13 ⟨g13, rfl, X13, H13, B13⟩
    have X313 : Hid (BagIn w2.heap.size w3.heap.size w13 a3 (eachOf l0)) := X312.out.below B13.out (by have := S4.out; have := S5.out; have := S12.out; omega)
    have X513 : Hid (BagOwn (w4.heap.size + 1) w5.heap.size w13 a5 (mkTo 1 (eachOf l0) n0)) := X512.out.below B13.out (Nat.le_of_lt S12.out)
    have S13 : Hid (w5.heap.size < w13.heap.size) := H13.out.lt M5.out.1
    clear i1 B13 H12 X312 X512 S12
    go_wp2_with fail
    refine (bagEach_any w12.heap.size w13.heap.size (some ⟨g13, 0, none⟩) n0 n0 l0 w13 X13.out.toIn (Nat.le_refl _) HL0.out HM.out.1 HM.out.2.1).mono ?_
    rintro e w14 ⟨a14, cap14, rfl, X14, B14⟩
    have H14 : Hid (Held w (w14.alloc (.cells #[.slice a14 n0 cap14] 26)) ((w14.heap.size, .slice a14 n0 cap14) :: bx)) := (H13.out.below B14.out).more _ _
    have B14a : Hid (Below w14.heap.size w14 (w14.alloc (.cells #[.slice a14 n0 cap14] 26))) := below1' w14 _
    have X314 : Hid (BagIn w2.heap.size w3.heap.size (w14.alloc (.cells #[.slice a14 n0 cap14] 26)) a3 (eachOf l0)) := (X313.out.below B14.out (by have := S4.out; have := S5.out; have := S13.out; omega)).below B14a.out (by have := S4.out; have := S5.out; have := S13.out; have := B14.out.size; omega)
    have X514 : Hid (BagOwn (w4.heap.size + 1) w5.heap.size (w14.alloc (.cells #[.slice a14 n0 cap14] 26)) a5 (mkTo 1 (eachOf l0) n0)) := (X513.out.below B14.out (Nat.le_of_lt S13.out)).below B14a.out (by have := S13.out; have := B14.out.size; omega)
    have X14' : Hid (BagIn w13.heap.size w14.heap.size (w14.alloc (.cells #[.slice a14 n0 cap14] 26)) a14 (eachOf l0)) := X14.out.toIn.below B14a.out (Nat.le_refl _)
    have S14 : Hid (w5.heap.size < w14.heap.size) := Nat.lt_of_lt_of_le S13.out B14.out.size
    have S14a : Hid (w14.heap.size < (w14.alloc (.cells #[Value.slice a14 n0 cap14] 26)).heap.size) := by show _ < _; simp
    have j1 := H14.out.cell (List.mem_cons_of_mem _ M5.out.2.2.1)
    clear H13 B14 B14a X313 X513 X13 X14 S13
    go_wp2_with fail
    refine (eqH (w := w) (bx := (w14.heap.size, .slice a14 n0 cap14) :: bx) (lo := w13.heap.size) (hi := w14.heap.size) (lo' := w2.heap.size) (hi' := w3.heap.size) a14 a3 n0 cap14 cap3 (eachOf l0) H14.out X14'.out X314.out (Nat.le_of_lt S14a.out) (by have := S4.out; have := S5.out; have := S14.out; have := S14a.out; omega) HE.out.1 HM.out.1 HE.out.2.1).mono ?_
    rintro e w15 ⟨rfl, H15, B15⟩
    have X515 : Hid (BagOwn (w4.heap.size + 1) w5.heap.size w15 a5 (mkTo 1 (eachOf l0) n0)) := X514.out.below B15.out (by have := S14.out; have := S14a.out; omega)
    have S15 : Hid (w5.heap.size < w15.heap.size) := H15.out.lt (List.mem_cons_of_mem _ M5.out.1)
    have k1 := H15.out.cell (List.mem_cons_of_mem _ M5.out.1)
    clear j1 B15 H14 X314 X514 X14' S14 S14a
    go_wp2_with fail
    refine (heldH (w := w) (bx := (w14.heap.size, .slice a14 n0 cap14) :: bx) (lo := w4.heap.size + 1) (hi := w5.heap.size) a5 n0 cap5 1 (eachOf l0) H15.out X515.out (Nat.le_of_lt S15.out) HE.out.1 HM.out.1 HE.out.2.2 (by omega)).mono ?_
    rintro e w16 ⟨m16, rfl, HM16, _, H16, _⟩
    obtain rfl : m16 = m12 := by rw [HM16.out, HM11.out]
    go_wp2
    go_ret
    exact ⟨rfl, H16.out.bel⟩

end Go.Proofs.Ytijbngdafgmpaaa
