/-
  Right paths, by the model: spec.PathOk.
-/
import Derived.Test.YtkcflhlipdnbnaaPtC
import Derived.Test.YtkcflhlipdnbnaaPM
import Derived.Test.YtkcflhlipdnbnaaNxS
import Derived.Deep.DeepCutAuto
import Derived.Deep.CutBlock
namespace Go.Proofs.Ytkcflhlipdnbnaa
open Go.RowKit

/-- a to d -/
def isL (x : Int) : Bool := decide (97 ≤ x) && decide (x ≤ 100)
set_option maxHeartbeats 1000000 in
theorem isLabel_any (x : Int) (r : Bool) (w : World) (hr : r = isL x) : Calls Try.prog 97 #[.int .u8 x] w fun e w' => e = .returned (.bool r) ∧ w = w' := by
  by_cases h0 : 97 ≤ x
  · have hd : decide (x ≥ 97) = true := by simpa using h0
    have hr2 : decide (x ≤ 100) = r := by rw [hr]; unfold isL; simp [h0]
    clear hr
    go_enter Try.func97, Try.ntmps97
    go_wp2
    go_ret
    exact ⟨rfl, rfl⟩
  · have hd : decide (x ≥ 97) = false := by simp; omega
    have hr2 : r = false := by rw [hr]; unfold isL; simp [h0]
    subst hr2
    clear hr
    go_enter Try.func97, Try.ntmps97
    go_wp2
    go_ret
    exact ⟨rfl, rfl⟩
/-- whether a piece has what is its own, and nothing else -/
def formOk (x : Pc) : Bool :=
  if x.1 = 1 then isL x.2.1 && decide (x.2.2.length = 0)
  else if x.1 = 2 ∨ x.1 = 3 then decide (x.2.1 = 0) && decide (2 ≤ x.2.2.length)
  else if x.1 = 4 ∨ x.1 = 5 ∨ x.1 = 6 then decide (x.2.1 = 0) && decide (x.2.2.length = 1)
  else false
def kidsOk (i : Nat) (ks : List Int) : Bool := ks.all fun k => decide (0 ≤ k) && decide (k < (i : Int))
def okToP (l : List Pc) : Nat → Bool
  | 0 => true
  | k + 1 => okToP l k && (formOk (pat l k) && kidsOk k (pat l k).2.2)
def okP (l : List Pc) : Bool := decide (1 ≤ l.length) && decide (l.length ≤ 60) && okToP l l.length
theorem okToP_no {l : List Pc} {k : Nat} (h : okToP l k = false) : ∀ n, k ≤ n → okToP l n = false := by
  intro n hn
  induction n with
  | zero => obtain rfl : k = 0 := by omega
            exact h
  | succ n ih =>
    rcases Nat.lt_or_ge k (n + 1) with h1 | h1
    · simp only [okToP]; rw [ih (by omega)]; rfl
    · obtain rfl : k = n + 1 := by omega
      exact h
theorem okP_no {l : List Pc} {k : Nat} (hk : k < l.length) (h : (formOk (pat l k) && kidsOk k (pat l k).2.2) = false) : okP l = false := by
  unfold okP
  rw [okToP_no (k := k + 1) (by simp only [okToP]; rw [h, Bool.and_false]) l.length (by omega), Bool.and_false]
theorem kidsOk_no {i : Nat} {ks : List Int} {j : Nat} (hj : j < ks.length) (h : (decide (0 ≤ ks.getD j 0) && decide (ks.getD j 0 < (i : Int))) = false) : kidsOk i ks = false := by
  rw [Bool.eq_false_iff]
  intro h1
  have := List.all_eq_true.1 h1 (ks.getD j 0) (by simp [List.getD, hj])
  rw [this] at h
  cases h
theorem kidsOk_yes {i : Nat} {ks : List Int} (h : ∀ j, j < ks.length → (decide (0 ≤ ks.getD j 0) && decide (ks.getD j 0 < (i : Int))) = true) : kidsOk i ks = true := by
  refine List.all_eq_true.2 fun x hx => ?_
  obtain ⟨j, hj, rfl⟩ := List.getElem_of_mem hx
  have := h j hj
  simpa [List.getD, hj] using this
theorem formOk_cases {x y : Int} {ks : List Int} (h : formOk (x, y, ks) = true) : (x = 1 ∧ isL y = true ∧ ks.length = 0) ∨ (x = 2 ∧ y = 0 ∧ 2 ≤ ks.length) ∨ (x = 3 ∧ y = 0 ∧ 2 ≤ ks.length) ∨ (x = 4 ∧ y = 0 ∧ ks.length = 1) ∨ (x = 5 ∧ y = 0 ∧ ks.length = 1) ∨ (x = 6 ∧ y = 0 ∧ ks.length = 1) := by
  unfold formOk at h
  dsimp only at h
  by_cases h1 : x = 1
  · rw [if_pos h1, Bool.and_eq_true, decide_eq_true_eq] at h; exact .inl ⟨h1, h⟩
  · rw [if_neg h1] at h
    by_cases h2 : x = 2 ∨ x = 3
    · rw [if_pos h2, Bool.and_eq_true, decide_eq_true_eq, decide_eq_true_eq] at h
      rcases h2 with h2 | h2
      · exact .inr (.inl ⟨h2, h⟩)
      · exact .inr (.inr (.inl ⟨h2, h⟩))
    · rw [if_neg h2] at h
      by_cases h3 : x = 4 ∨ x = 5 ∨ x = 6
      · rw [if_pos h3, Bool.and_eq_true, decide_eq_true_eq, decide_eq_true_eq] at h
        rcases h3 with h3 | h3 | h3
        · exact .inr (.inr (.inr (.inl ⟨h3, h⟩)))
        · exact .inr (.inr (.inr (.inr (.inl ⟨h3, h⟩))))
        · exact .inr (.inr (.inr (.inr (.inr ⟨h3, h⟩))))
      · rw [if_neg h3] at h; cases h
theorem formOk_not {x y : Int} {ks : List Int} (h : formOk (x, y, ks) = false) : (x = 1 ∧ (isL y = false ∨ ks.length ≠ 0)) ∨ ((x = 2 ∨ x = 3) ∧ (y ≠ 0 ∨ ks.length < 2)) ∨ ((x = 4 ∨ x = 5 ∨ x = 6) ∧ (y ≠ 0 ∨ ks.length ≠ 1)) ∨ (x ≠ 1 ∧ x ≠ 2 ∧ x ≠ 3 ∧ x ≠ 4 ∧ x ≠ 5 ∧ x ≠ 6) := by
  unfold formOk at h
  dsimp only at h
  by_cases h1 : x = 1
  · rw [if_pos h1, Bool.and_eq_false_iff, decide_eq_false_iff_not] at h; exact .inl ⟨h1, h⟩
  · rw [if_neg h1] at h
    by_cases h2 : x = 2 ∨ x = 3
    · rw [if_pos h2, Bool.and_eq_false_iff, decide_eq_false_iff_not, decide_eq_false_iff_not] at h
      exact .inr (.inl ⟨h2, h.imp id (fun h => by omega)⟩)
    · rw [if_neg h2] at h
      by_cases h3 : x = 4 ∨ x = 5 ∨ x = 6
      · rw [if_pos h3, Bool.and_eq_false_iff, decide_eq_false_iff_not, decide_eq_false_iff_not] at h
        exact .inr (.inr (.inl ⟨h3, h⟩))
      · exact .inr (.inr (.inr ⟨h1, fun e => h2 (.inl e), fun e => h2 (.inr e), fun e => h3 (.inl e), fun e => h3 (.inr (.inl e)), fun e => h3 (.inr (.inr e))⟩))
theorem isL_yes {y : Int} (h : isL y = true) : 97 ≤ y ∧ y ≤ 100 := by
  unfold isL at h; rw [Bool.and_eq_true, decide_eq_true_eq, decide_eq_true_eq] at h; exact h
theorem isL_no {y : Int} (h : isL y = false) : y < 97 ∨ 100 < y := by
  unfold isL at h; rw [Bool.and_eq_false_iff, decide_eq_false_iff_not, decide_eq_false_iff_not] at h; omega

set_option maxHeartbeats 8000000 in
set_option maxRecDepth 100000 in
theorem specPathOk_any (lo hi : Nat) (a : Option Addr) (n cap : Nat) (l : List Pc) (r : Bool) (w : World) (ha : PathIn lo hi w a l) (hh : hi ≤ w.heap.size) (hn : l.length = n) (hm : n ≤ 1048576) (hq : ∀ i, i < n → (pat l i).2.2.length ≤ 1048576) (hr : r = okP l) :
    Calls Try.prog 33 #[pv a n cap] w fun e w' => e = .returned (.bool r) ∧ Hid (Below w.heap.size w w') := by
  have HN : Hid (l.length = n) := hn
  have HA : Hid (PathIn lo hi w a l) := ha
  have HH : Hid (hi ≤ w.heap.size) := hh
  have HR : Hid (r = okP l) := hr
  have HQ : Hid (∀ i, i < n → (pat l i).2.2.length ≤ 1048576) := hq
  clear ha hh hn hr hq
  obtain ⟨B, HB⟩ : ∃ B, Hid (B = w.heap.size) := ⟨_, rfl⟩
  unfold pv
  go_enter Try.func33, Try.ntmps33
  go_wp2
  rw [← HB.out]
  go_loopw [3] (fun i wr => ∃ k : Nat, i = .int .i64 k ∧ k ≤ n ∧ Hid (okToP l k = true) ∧ Hid (Below w.heap.size w wr) ∧ Hid (Blk wr B 1 (fun _ => .slice a n cap))) (fun i _ => n - (intOf i).toNat)
  case atStart => exact ⟨0, rfl, by omega, rfl, below1 _ _, blk_one w B HB.out _ _⟩
  case round =>
    obtain ⟨k, rfl, hk, HE, HL, HX⟩ := hrel
    have c0 := HX.out.cell (i := 0) (by omega)
    by_cases hlt : k < n
    · have hlt1 : (k : Int) < (n : Int) := by omega
      have hlt0 : (0 : Int) ≤ (k : Int) := by omega
      have HER : Hid (PathIn lo hi wr a l) := HA.out.below HL.out HH.out
      obtain ⟨b, o, rfl, _, _, hx⟩ := HER.out.piece (k := k) (by rw [HN.out]; exact hlt)
      obtain ⟨z, HZ⟩ : ∃ z : Pc, Hid (z = pat l k) := ⟨_, rfl⟩
      have HQK : Hid ((pat l k).2.2.length ≤ 1048576) := HQ.out k hlt
      have HNO : Hid ((formOk (pat l k) && kidsOk k (pat l k).2.2) = false → r = false) := fun h => by rw [HR.out]; exact okP_no (by rw [HN.out]; exact hlt) h
      have HYES : Hid ((formOk (pat l k) && kidsOk k (pat l k).2.2) = true → okToP l (k + 1) = true) := fun h => by simp only [okToP]; rw [HE.out, h]; rfl
      rw [← HZ.out] at hx HQK HNO HYES
      obtain ⟨x, y, ks⟩ := z
      obtain ⟨p0, p1, ra, rc, p2, hrow⟩ := hx
      dsimp only at p0 p1 p2 hrow HQK HNO HYES
      obtain ⟨q, HKL⟩ : ∃ q, Hid (ks.length = q) := ⟨_, rfl⟩
      rw [HKL.out] at p2 HQK
      have hqk : q ≤ 1048576 := HQK.out
      obtain ⟨E, HEE⟩ : ∃ E, Hid (E = wr.heap.size) := ⟨_, rfl⟩
      obtain ⟨W, HW⟩ : ∃ W, Hid (W = wr.alloc (.cells #[.int .i64 x, .int .u8 y, .slice ra q rc] 120)) := ⟨_, rfl⟩
      have HWB : Hid (Below wr.heap.size wr W) := by rw [HW.out]; exact below1 _ _
      obtain ⟨q0, q1, q2⟩ : W.cell? ⟨E, 0, none⟩ = some (.int .i64 x) ∧ W.cell? ⟨E, 1, none⟩ = some (.int .u8 y) ∧ W.cell? ⟨E, 2, none⟩ = some (.slice ra q rc) := by rw [HW.out]; exact box_cells wr _ _ _ 120 _ HEE.out
      have HRW : Hid (RowIn lo hi W ra ks) := hrow.below HWB.out (Nat.le_trans HH.out HL.out.size)
      have HLW : Hid (Below w.heap.size w W) := HL.out.trans (HWB.out.mono HL.out.size)
      have HXW : Hid (Blk W B 1 (fun _ => .slice (some ⟨b, o, none⟩) n cap)) := HX.out.of_block (HWB.out.block _ HX.out.lt)
      clear hrow HWB
      go_upto_block 2 with fail
      rw [← HEE.out, ← HW.out]
      clear p0 p1 p2 c0 HER HX HL HA HQK
      by_cases hf : formOk (x, y, ks) = true
      · go_cut [] (fun wc => wc = W)
        case first =>
          rcases formOk_cases hf with ⟨rfl, h1, h2⟩ | ⟨rfl, rfl, h2⟩ | ⟨rfl, rfl, h2⟩ | ⟨rfl, rfl, h2⟩ | ⟨rfl, rfl, h2⟩ | ⟨rfl, rfl, h2⟩
          · obtain ⟨h3, h4⟩ := isL_yes h1
            obtain rfl : q = 0 := by have := HKL.out; omega
            have d1 : decide (y < 97) = false := by simp; omega
            have d2 : decide ((100 : Int) < y) = false := by simp; omega
            go_wp2_with fail
            go_meet
            case rel => rfl
          · have d1 : decide ((q : Int) < 2) = false := by have := HKL.out; simp; omega
            go_wp2_with fail
            go_meet
            case rel => rfl
          · have d1 : decide ((q : Int) < 2) = false := by have := HKL.out; simp; omega
            go_wp2_with fail
            go_meet
            case rel => rfl
          · obtain rfl : q = 1 := by have := HKL.out; omega
            go_wp2_with fail
            go_meet
            case rel => rfl
          · obtain rfl : q = 1 := by have := HKL.out; omega
            go_wp2_with fail
            go_meet
            case rel => rfl
          · obtain rfl : q = 1 := by have := HKL.out; omega
            go_wp2_with fail
            go_meet
            case rel => rfl
        case rest =>
          subst hcut
          have HNO2 : Hid (kidsOk k ks = false → r = false) := fun h => HNO.out (by rw [hf, h]; rfl)
          have HYES2 : Hid (kidsOk k ks = true → okToP l (k + 1) = true) := fun h => HYES.out (by rw [hf, h]; rfl)
          clear HNO HYES hf
          go_wp2
          go_loop [6] (fun j => ∃ m : Nat, j = .int .i64 m ∧ m ≤ q ∧ Hid (∀ t, t < m → (decide (0 ≤ ks.getD t 0) && decide (ks.getD t 0 < (k : Int))) = true)) (fun j => q - (intOf j).toNat)
          case atStart => exact ⟨0, rfl, by omega, fun t ht => absurd ht (by omega)⟩
          case round =>
            obtain ⟨m, rfl, hm1, HP⟩ := hrel
            by_cases hmq : m < q
            · have hmq1 : (m : Int) < (q : Int) := by omega
              have hmq0 : (0 : Int) ≤ (m : Int) := by omega
              obtain ⟨b2, o2, rfl, hc⟩ := HRW.out.num (i := m) (by rw [HKL.out]; exact hmq)
              obtain ⟨v, HV⟩ : ∃ v, Hid (v = ks.getD m 0) := ⟨_, rfl⟩
              rw [← HV.out] at hc
              obtain ⟨u, HU⟩ : ∃ u, Hid (u = (decide (0 ≤ v) && decide (v ≤ (k : Int) - 1))) := ⟨_, rfl⟩
              have HUU : Hid (u = (decide (0 ≤ v) && decide (v < (k : Int)))) := by
                show _ = _
                rw [HU.out]
                have : decide (v ≤ (k : Int) - 1) = decide (v < (k : Int)) := by rw [decide_eq_decide]; omega
                rw [this]
              go_wp2_with fail
              refine (l01In_any v 0 ((k : Int) - 1) _).mono ?_
              rintro e w1 ⟨rfl, rfl⟩
              rw [← HU.out]
              rcases Bool.eq_false_or_eq_true u with hu | hu
              · subst hu
                go_wp2
                go_roundw
                case rel =>
                  refine ⟨m + 1, by go_num, by omega, fun t ht => ?_⟩
                  by_cases e : t = m
                  · subst e; rw [← HV.out]; exact HUU.out.symm
                  · exact HP.out t (by omega)
                case measure => simp [intOf]; omega
              · subst hu
                go_wp2
                go_ret
                have : r = false := HNO2.out (kidsOk_no (j := m) (by rw [HKL.out]; exact hmq) (by rw [← HV.out]; exact HUU.out.symm))
                exact ⟨by rw [this]; rfl, HLW⟩
            · obtain rfl : m = q := by omega
              go_wp2
              go_roundw
              case rel => exact ⟨k + 1, by go_num, by omega, HYES2.out (kidsOk_yes (fun j hj => HP.out j (by rw [← HKL.out]; exact hj))), HLW, HXW⟩
              case measure => simp [intOf]; omega
      · have hff : formOk (x, y, ks) = false := by simpa using hf
        have HF : Hid (r = false) := HNO.out (by rw [hff]; rfl)
        rcases formOk_not hff with ⟨rfl, h⟩ | ⟨h1, h2⟩ | ⟨h1, h2⟩ | ⟨h1, h2, h3, h4, h5, h6⟩
        · by_cases h1 : isL y = true
          · obtain ⟨h3, h4⟩ := isL_yes h1
            have d1 : decide (y < 97) = false := by simp; omega
            have d2 : decide ((100 : Int) < y) = false := by simp; omega
            have d3 : ¬ (q : Int) = 0 := by have := HKL.out; rcases h with h | h; rw [h1] at h; cases h; omega
            have d4 : ¬ q = 0 := by omega
            go_wp2
            go_ret
            exact ⟨by rw [HF.out]; rfl, HLW⟩
          · rcases isL_no (by simpa using h1) with h3 | h3
            · have d1 : decide (y < 97) = true := by simp; omega
              go_wp2
              go_ret
              exact ⟨by rw [HF.out]; rfl, HLW⟩
            · have d1 : decide (y < 97) = false := by simp; omega
              have d2 : decide ((100 : Int) < y) = true := by simp; omega
              go_wp2
              go_ret
              exact ⟨by rw [HF.out]; rfl, HLW⟩
        · by_cases hy : y = 0
          · subst hy
            have d1 : decide ((q : Int) < 2) = true := by have := HKL.out; rcases h2 with h | h; exact absurd rfl h; simp; omega
            rcases h1 with rfl | rfl
            · go_wp2
              go_ret
              exact ⟨by rw [HF.out]; rfl, HLW⟩
            · go_wp2
              go_ret
              exact ⟨by rw [HF.out]; rfl, HLW⟩
          · rcases h1 with rfl | rfl
            · go_wp2
              go_ret
              exact ⟨by rw [HF.out]; rfl, HLW⟩
            · go_wp2
              go_ret
              exact ⟨by rw [HF.out]; rfl, HLW⟩
        · by_cases hy : y = 0
          · subst hy
            have d3 : ¬ (q : Int) = 1 := by have := HKL.out; rcases h2 with h | h; exact absurd rfl h; omega
            have d4 : ¬ q = 1 := by omega
            rcases h1 with rfl | rfl | rfl
            · go_wp2
              go_ret
              exact ⟨by rw [HF.out]; rfl, HLW⟩
            · go_wp2
              go_ret
              exact ⟨by rw [HF.out]; rfl, HLW⟩
            · go_wp2
              go_ret
              exact ⟨by rw [HF.out]; rfl, HLW⟩
          · rcases h1 with rfl | rfl | rfl
            · go_wp2
              go_ret
              exact ⟨by rw [HF.out]; rfl, HLW⟩
            · go_wp2
              go_ret
              exact ⟨by rw [HF.out]; rfl, HLW⟩
            · go_wp2
              go_ret
              exact ⟨by rw [HF.out]; rfl, HLW⟩
        · go_wp2
          go_ret
          exact ⟨by rw [HF.out]; rfl, HLW⟩
    · obtain rfl : k = n := by omega
      have HRR : Hid (r = (decide ((1 : Int) ≤ (k : Int)) && decide ((k : Int) ≤ 60))) := by
        show _ = _
        rw [HR.out]; unfold okP; rw [HN.out, HE.out, Bool.and_true]
        have e1 : decide (1 ≤ k) = decide ((1 : Int) ≤ (k : Int)) := by rw [decide_eq_decide]; omega
        have e2 : decide (k ≤ 60) = decide ((k : Int) ≤ 60) := by rw [decide_eq_decide]; omega
        rw [e1, e2]
      go_wp2_with fail
      refine (l01In_any (k : Int) 1 60 _).mono ?_
      rintro e w1 ⟨rfl, rfl⟩
      rw [← HRR.out]
      go_wp2
      go_ret
      exact ⟨rfl, HL⟩
end Go.Proofs.Ytkcflhlipdnbnaa
