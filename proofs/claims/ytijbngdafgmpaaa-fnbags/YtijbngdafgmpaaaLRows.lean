/-
  The walk of FnRowsLess.
-/
import Derived.Test.YtijbngdafgmpaaaDRow
namespace Go.Proofs.Ytijbngdafgmpaaa
open Go.RowKit

theorem rowLt_flip (l m : List Int) : cmpRow l m = - cmpRow m l := by
  induction l generalizing m with
  | nil => cases m <;> simp [cmpRow]
  | cons x xs ih =>
    cases m with
    | nil => simp [cmpRow]
    | cons y ys =>
      simp only [cmpRow]
      by_cases h1 : x < y
      · rw [if_pos h1, if_neg (by omega), if_pos h1]
      · by_cases h2 : y < x
        · rw [if_neg h1, if_pos h2, if_pos h2]; rfl
        · rw [if_neg h1, if_neg h2, if_neg h2, if_neg h1, ih]
theorem cmpRow_zero (l m : List Int) : cmpRow l m = 0 ↔ l = m := by
  induction l generalizing m with
  | nil => cases m <;> simp [cmpRow]
  | cons x xs ih =>
    cases m with
    | nil => simp [cmpRow]
    | cons y ys =>
      simp only [cmpRow]
      by_cases h1 : x < y
      · rw [if_pos h1]; simp; omega
      · by_cases h2 : y < x
        · rw [if_neg h1, if_pos h2]; simp; omega
        · rw [if_neg h1, if_neg h2, ih]
          obtain rfl : x = y := by omega
          simp
/-- of two rows one is ahead, or they are the same -/
theorem row_tri (l m : List Int) : (rowLt l m = true ∧ rowLt m l = false ∧ decide (l = m) = false) ∨ (rowLt l m = false ∧ rowLt m l = true ∧ decide (l = m) = false) ∨ (rowLt l m = false ∧ rowLt m l = false ∧ decide (l = m) = true) := by
  have h1 := rowLt_flip l m
  have h2 := cmpRow_zero l m
  unfold rowLt
  by_cases h : cmpRow l m < 0
  · left; refine ⟨by simp [h], by simp; omega, ?_⟩
    rw [decide_eq_false]; intro e; have := h2.2 e; omega
  · by_cases h' : 0 < cmpRow l m
    · right; left; refine ⟨by simp; omega, by simp; omega, ?_⟩
      rw [decide_eq_false]; intro e; have := h2.2 e; omega
    · right; right; refine ⟨by simp; omega, by simp; omega, ?_⟩
      rw [decide_eq_true]; exact h2.1 (by omega)

/-- what the law's end asks, with the rows' own answers -/
theorem lit_row (w : World) (o : Obj) : RowIn 0 ((w.alloc (.cells #[.int .i64 1] 3)).alloc o).heap.size ((w.alloc (.cells #[.int .i64 1] 3)).alloc o) (some ⟨w.heap.size, 0, none⟩) [1] := by
  refine .inr ⟨w.heap.size, 0, rfl, Nat.zero_le _, by simp; omega, fun i hi => ?_⟩
  have hi' : i = 0 := by simpa using hi
  subst hi'
  exact ((blk_one w _ rfl _ _).alloc _).cell (i := 0) (by omega)
theorem lit_row2 (w : World) (b : Nat) (hb : b = w.heap.size) : RowIn 0 (w.alloc (.cells #[.int .i64 1, .int .i64 0] 3)).heap.size (w.alloc (.cells #[.int .i64 1, .int .i64 0] 3)) (some ⟨b, 0, none⟩) [1, 0] := by
  subst hb
  refine .inr ⟨w.heap.size, 0, rfl, Nat.zero_le _, by simp, fun i hi => ?_⟩
  have hi' : i < 2 := by simpa using hi
  have hk := blk_two w w.heap.size rfl (.int .i64 1) (.int .i64 0) 3
  rw [Nat.zero_add, hk.cell hi']
  rcases i with _ | _ | i
  · rfl
  · rfl
  · omega

set_option maxHeartbeats 4000000 in
set_option maxRecDepth 100000 in
theorem law_6 (a0 : Option Addr) (n0 cap0 : Nat) (w : World) (hc0 : CodeIn w a0 n0) :
    Calls Try.prog 6 #[.slice a0 n0 cap0] w fun e w' => e = .returned (.bool true) ∧ Below w.heap.size w w' := by
  by_cases hbig : (1048576 : Int) < (n0 : Int)
  · go_enter Try.func6, Try.ntmps6
    go_wp2_with fail
    refine (big_yes a0 n0 cap0 w hbig).mono ?_
    rintro e w1 ⟨rfl, rfl⟩
    go_wp2
    go_ret
    exact ⟨rfl, Below.refl _ _⟩
  · have HCD : Hid (CodeIn w a0 n0) := hc0
    clear hc0
    go_enter Try.func6, Try.ntmps6
    go_wp2_with fail
    refine (big_no a0 n0 cap0 w (by omega)).mono ?_
    rintro e w1 ⟨rfl, rfl⟩
    go_wp2_with fail
    refine (drawRow_any a0 n0 cap0 w (by omega) HCD.out).mono ?_
    rintro e w2 ⟨a, b, na, ca, nb, cb, la, lb, rfl, HR, HB⟩
    have hna : na ≤ 1048576 := by have := HR.out.2.2.1; omega
    have hnb : nb ≤ 1048576 := by have := HR.out.2.2.2.1; omega
    obtain ⟨r1, H1⟩ : ∃ r : Bool, Hid (r = rowLt la lb) := ⟨_, rfl⟩
    obtain ⟨r2, H2⟩ : ∃ r : Bool, Hid (r = rowLt lb la) := ⟨_, rfl⟩
    obtain ⟨r3, H3⟩ : ∃ r : Bool, Hid (r = decide (la = lb)) := ⟨_, rfl⟩
    have HC1 : Hid (∀ w0, Below w2.heap.size w2 w0 → Calls Try.prog 22 #[.slice a na ca, .slice b nb cb] w0 fun e w' => e = .returned (.bool r1) ∧ w0 = w') := fun w0 h => by
      rw [H1.out]; exact rowLess_any 0 w2.heap.size 0 w2.heap.size a b na nb ca cb la lb w0 (HR.out.2.2.2.2.1.below h (Nat.le_refl _)) (HR.out.2.2.2.2.2.below h (Nat.le_refl _)) HR.out.1 HR.out.2.1 hna hnb
    have HC2 : Hid (∀ w0, Below w2.heap.size w2 w0 → Calls Try.prog 22 #[.slice b nb cb, .slice a na ca] w0 fun e w' => e = .returned (.bool r2) ∧ w0 = w') := fun w0 h => by
      rw [H2.out]; exact rowLess_any 0 w2.heap.size 0 w2.heap.size b a nb na cb ca lb la w0 (HR.out.2.2.2.2.2.below h (Nat.le_refl _)) (HR.out.2.2.2.2.1.below h (Nat.le_refl _)) HR.out.2.1 HR.out.1 hnb hna
    have HC3 : Hid (∀ w0, Below w2.heap.size w2 w0 → Calls Try.prog 20 #[.slice a na ca, .slice b nb cb] w0 fun e w' => e = .returned (.bool r3) ∧ Hid (Below w2.heap.size w2 w')) := fun w0 h =>
      (sameInts_any 0 w2.heap.size 0 w2.heap.size a b na nb ca cb la lb r3 w0 (HR.out.2.2.2.2.1.below h (Nat.le_refl _)) (HR.out.2.2.2.2.2.below h (Nat.le_refl _)) HR.out.1 HR.out.2.1 hna H3.out).mono fun _ _ ⟨e1, e2⟩ => ⟨e1, h.trans (e2.mono h.size)⟩
    have HC4 : Hid (∀ w0, Below w2.heap.size w2 w0 → Calls Try.prog 38 #[.slice a na ca, .slice b nb cb] w0 fun e w' => e = .returned (.bool r1) ∧ Hid (Below w2.heap.size w2 w')) := fun w0 h =>
      (specLess_any 0 w2.heap.size 0 w2.heap.size a b na nb ca cb la lb r1 w0 (HR.out.2.2.2.2.1.below h (Nat.le_refl _)) (HR.out.2.2.2.2.2.below h (Nat.le_refl _)) HR.out.1 HR.out.2.1 hna hnb H1.out).mono fun _ _ ⟨e1, e2⟩ => ⟨e1, h.trans (e2.mono h.size)⟩
    have HTRI := row_tri la lb
    rw [← H1.out, ← H2.out, ← H3.out] at HTRI
    clear HR H1 H2 H3 hna hnb
    rcases HTRI with ⟨rfl, rfl, rfl⟩ | ⟨rfl, rfl, rfl⟩ | ⟨rfl, rfl, rfl⟩
    · go_wp2_with fail
      refine (HC1.out w2 (Below.refl _ _)).mono ?_
      rintro e w3 ⟨rfl, rfl⟩
      go_wp2_with fail
      refine (HC2.out w2 (Below.refl _ _)).mono ?_
      rintro e w3 ⟨rfl, rfl⟩
      go_wp2_with fail
      refine (HC3.out w2 (Below.refl _ _)).mono ?_
      rintro e w4 ⟨rfl, B4⟩
      go_wp2_with fail
      refine (HC1.out w4 B4.out).mono ?_
      rintro e w5 ⟨rfl, rfl⟩
      go_wp2_with fail
      refine (HC4.out w4 B4.out).mono ?_
      rintro e w6 ⟨rfl, B6⟩
      go_wp2_with fail
      refine (rowLess_any 0 _ 0 _ (some ⟨w6.heap.size, 0, none⟩) (some ⟨w6.heap.size + 1, 0, none⟩) 1 2 1 2 [1] [1, 0] _ (lit_row w6 _) (lit_row2 (w6.alloc _) _ (by simp)) rfl rfl (by omega) (by omega)).mono ?_
      rintro e w7 ⟨rfl, rfl⟩
      have hlit : rowLt [1] [1, 0] = true := by decide
      rw [hlit]
      go_wp2
      go_ret
      exact ⟨rfl, (HB.out.trans (B6.out.mono HB.out.size)).trans ((((Below.refl _ w6).alloc (Nat.le_refl _) _).alloc (by simp) _).mono (by have := HB.out.size; have := B6.out.size; omega))⟩
    · go_wp2_with fail
      refine (HC1.out w2 (Below.refl _ _)).mono ?_
      rintro e w3 ⟨rfl, rfl⟩
      go_wp2_with fail
      refine (HC2.out w2 (Below.refl _ _)).mono ?_
      rintro e w3 ⟨rfl, rfl⟩
      go_wp2_with fail
      refine (HC3.out w2 (Below.refl _ _)).mono ?_
      rintro e w4 ⟨rfl, B4⟩
      go_wp2_with fail
      refine (HC1.out w4 B4.out).mono ?_
      rintro e w5 ⟨rfl, rfl⟩
      go_wp2_with fail
      refine (HC4.out w4 B4.out).mono ?_
      rintro e w6 ⟨rfl, B6⟩
      go_wp2_with fail
      refine (rowLess_any 0 _ 0 _ (some ⟨w6.heap.size, 0, none⟩) (some ⟨w6.heap.size + 1, 0, none⟩) 1 2 1 2 [1] [1, 0] _ (lit_row w6 _) (lit_row2 (w6.alloc _) _ (by simp)) rfl rfl (by omega) (by omega)).mono ?_
      rintro e w7 ⟨rfl, rfl⟩
      have hlit : rowLt [1] [1, 0] = true := by decide
      rw [hlit]
      go_wp2
      go_ret
      exact ⟨rfl, (HB.out.trans (B6.out.mono HB.out.size)).trans ((((Below.refl _ w6).alloc (Nat.le_refl _) _).alloc (by simp) _).mono (by have := HB.out.size; have := B6.out.size; omega))⟩
    · go_wp2_with fail
      refine (HC1.out w2 (Below.refl _ _)).mono ?_
      rintro e w3 ⟨rfl, rfl⟩
      go_wp2_with fail
      refine (HC2.out w2 (Below.refl _ _)).mono ?_
      rintro e w3 ⟨rfl, rfl⟩
      go_wp2_with fail
      refine (HC3.out w2 (Below.refl _ _)).mono ?_
      rintro e w4 ⟨rfl, B4⟩
      go_wp2_with fail
      refine (HC1.out w4 B4.out).mono ?_
      rintro e w5 ⟨rfl, rfl⟩
      go_wp2_with fail
      refine (HC4.out w4 B4.out).mono ?_
      rintro e w6 ⟨rfl, B6⟩
      go_wp2_with fail
      refine (rowLess_any 0 _ 0 _ (some ⟨w6.heap.size, 0, none⟩) (some ⟨w6.heap.size + 1, 0, none⟩) 1 2 1 2 [1] [1, 0] _ (lit_row w6 _) (lit_row2 (w6.alloc _) _ (by simp)) rfl rfl (by omega) (by omega)).mono ?_
      rintro e w7 ⟨rfl, rfl⟩
      have hlit : rowLt [1] [1, 0] = true := by decide
      rw [hlit]
      go_wp2
      go_ret
      exact ⟨rfl, (HB.out.trans (B6.out.mono HB.out.size)).trans ((((Below.refl _ w6).alloc (Nat.le_refl _) _).alloc (by simp) _).mono (by have := HB.out.size; have := B6.out.size; omega))⟩

end Go.Proofs.Ytijbngdafgmpaaa
