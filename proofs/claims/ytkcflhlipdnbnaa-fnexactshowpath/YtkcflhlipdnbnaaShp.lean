/-
  Shapes of pieces: impl.shapeOf, impl.shapesOf, impl.PathOk.
-/
import Derived.Test.YtkcflhlipdnbnaaPOk
import Derived.Handy
namespace Go.Proofs.Ytkcflhlipdnbnaa
open Go.RowKit

/-- the shape of a right piece -/
def shv (ra : Option Addr) (rc : Nat) (x : Pc) : Value :=
  if x.1 = 1 then .iface 136 (.agg #[.int .u8 x.2.1])
  else if x.1 = 2 then .iface 141 (.agg #[.slice ra x.2.2.length rc])
  else if x.1 = 3 then .iface 143 (.agg #[.slice ra x.2.2.length rc])
  else if x.1 = 4 then .iface 148 (.agg #[.int .i64 (x.2.2.getD 0 0)])
  else if x.1 = 5 then .iface 149 (.agg #[.int .i64 (x.2.2.getD 0 0)])
  else .iface 150 (.agg #[.int .i64 (x.2.2.getD 0 0)])

/-- what shapeOf tells -/
def ShPost (w : World) (ra : Option Addr) (rc : Nat) (z : Pc) (e : Ending) (w' : World) : Prop :=
  ∃ (v : Value) (r : Bool), e = .returned (.tuple #[v, .bool r]) ∧ Hid (r = formOk z) ∧ Hid (r = true → v = shv ra rc z) ∧ Hid (Below w.heap.size w w')
set_option maxHeartbeats 8000000 in
set_option maxRecDepth 100000 in
theorem shapeOf_any (lo hi : Nat) (x y : Int) (ra : Option Addr) (q rc : Nat) (ks : List Int) (w : World) (ha : RowIn lo hi w ra ks) (hh : hi ≤ w.heap.size) (hn : ks.length = q) (hm : q ≤ 1048576) :
    Calls Try.prog 77 #[.agg #[.int .i64 x, .int .u8 y, .slice ra q rc]] w fun e w' => ShPost w ra rc (x, y, ks) e w' := by
  have HN : Hid (ks.length = q) := hn
  have HA : Hid (RowIn lo hi w ra ks) := ha
  have HH : Hid (hi ≤ w.heap.size) := hh
  clear ha hn hh
  obtain ⟨W, HW⟩ : ∃ W, Hid (W = w.alloc (.cells #[.int .i64 x, .int .u8 y, .slice ra q rc] 120)) := ⟨_, rfl⟩
  obtain ⟨B, HB⟩ : ∃ B, Hid (B = w.heap.size) := ⟨_, rfl⟩
  have HBW : Hid (Below w.heap.size w W) := by rw [HW.out]; exact below1 _ _
  obtain ⟨q0, q1, q2⟩ : W.cell? ⟨B, 0, none⟩ = some (.int .i64 x) ∧ W.cell? ⟨B, 1, none⟩ = some (.int .u8 y) ∧ W.cell? ⟨B, 2, none⟩ = some (.slice ra q rc) := by rw [HW.out]; exact box_cells w _ _ _ 120 _ HB.out
  have HRW : Hid (RowIn lo hi W ra ks) := HA.out.below HBW.out HH.out
  obtain ⟨ONE, HONE⟩ : ∃ b, Hid (b = (decide (y = 0) && decide (q = 1))) := ⟨_, rfl⟩
  obtain ⟨MANY, HMANY⟩ : ∃ b, Hid (b = (decide (y = 0) && decide (2 ≤ q))) := ⟨_, rfl⟩
  obtain ⟨LB, HL⟩ : ∃ b, Hid (b = isL y) := ⟨_, rfl⟩
  go_enter Try.func77, Try.ntmps77
  go_upto_region 1 with fail
  rw [← HB.out, ← HW.out]
  clear HW HA
  go_cut [4] (fun v wc => v = .bool ONE ∧ W = wc)
  case first =>
    by_cases hy : y = 0
    · subst hy
      have hd : decide ((q : Int) = 1) = ONE := by rw [HONE.out]; simp; omega
      go_wp2_with fail
      go_meet
      case rel => exact ⟨by rw [← hd]; first | rfl | simp [beq_eq_decide], rfl⟩
    · have hd : ONE = false := by rw [HONE.out]; simp [hy]
      subst hd
      go_wp2_with fail
      go_meet
      case rel => exact ⟨rfl, rfl⟩
  case rest =>
  obtain ⟨rfl, rfl⟩ := hcut
  go_upto_region 2 with fail
  go_cut [5] (fun v wc => v = .bool MANY ∧ W = wc)
  case first =>
    by_cases hy : y = 0
    · subst hy
      have hd : decide ((q : Int) ≥ 2) = MANY := by rw [HMANY.out]; simp; omega
      go_wp2_with fail
      go_meet
      case rel => exact ⟨by rw [← hd], rfl⟩
    · have hd : MANY = false := by rw [HMANY.out]; simp [hy]
      subst hd
      go_wp2_with fail
      go_meet
      case rel => exact ⟨rfl, rfl⟩
  case rest =>
  obtain ⟨rfl, rfl⟩ := hcut
  have HNO : Hid (formOk (x, y, ks) = false → ShPost w ra rc (x, y, ks) (.returned (.tuple #[.nilIface, .bool false])) W) := by
    intro hff
    refine ⟨_, false, rfl, hff.symm, ?_, HBW⟩
    intro h; cases h
  have HYES : Hid (∀ v, formOk (x, y, ks) = true → shv ra rc (x, y, ks) = v → ShPost w ra rc (x, y, ks) (.returned (.tuple #[v, .bool true])) W) := by
    intro v hff hv
    exact ⟨_, true, rfl, hff.symm, fun _ => hv.symm, HBW⟩
  clear HBW
  by_cases h1 : x = 1
  · subst h1
    have HF : Hid (formOk (1, y, ks) = (LB && decide (q = 0))) := by show _ = _; rw [HL.out, ← HN.out]; rfl
    have HS : Hid (shv ra rc (1, y, ks) = .iface 136 (.agg #[.int .u8 y])) := rfl
    rcases Bool.eq_false_or_eq_true LB with hb | hb
    · subst hb
      by_cases hq : q = 0
      · subst hq
        go_wp2_with (go_at_call 97; refine (isLabel_any y true _ HL.out).mono ?_; rintro e w1 ⟨rfl, rfl⟩)
        go_ret2
        exact HYES.out _ HF.out HS.out
      · have d1 : ¬ (q : Int) = 0 := by omega
        go_wp2_with (go_at_call 97; refine (isLabel_any y true _ HL.out).mono ?_; rintro e w1 ⟨rfl, rfl⟩)
        go_ret2
        exact HNO.out (by rw [HF.out]; simp [hq])
    · subst hb
      go_wp2_with (go_at_call 97; refine (isLabel_any y false _ HL.out).mono ?_; rintro e w1 ⟨rfl, rfl⟩)
      go_ret2
      exact HNO.out (by rw [HF.out]; simp)
  by_cases h2 : x = 2
  · subst h2
    have HF : Hid (formOk (2, y, ks) = MANY) := by show _ = _; rw [HMANY.out, ← HN.out]; rfl
    have HS : Hid (shv ra rc (2, y, ks) = .iface 141 (.agg #[.slice ra q rc])) := by rw [← HN.out]; rfl
    rcases Bool.eq_false_or_eq_true MANY with hb | hb
    · subst hb
      go_wp2
      go_ret2
      exact HYES.out _ HF.out HS.out
    · subst hb
      go_wp2
      go_ret2
      exact HNO.out HF.out
  by_cases h3 : x = 3
  · subst h3
    have HF : Hid (formOk (3, y, ks) = MANY) := by show _ = _; rw [HMANY.out, ← HN.out]; rfl
    have HS : Hid (shv ra rc (3, y, ks) = .iface 143 (.agg #[.slice ra q rc])) := by rw [← HN.out]; rfl
    rcases Bool.eq_false_or_eq_true MANY with hb | hb
    · subst hb
      go_wp2
      go_ret2
      exact HYES.out _ HF.out HS.out
    · subst hb
      go_wp2
      go_ret2
      exact HNO.out HF.out
  by_cases h4 : x = 4
  · subst h4
    have HF : Hid (formOk (4, y, ks) = ONE) := by show _ = _; rw [HONE.out, ← HN.out]; rfl
    rcases Bool.eq_false_or_eq_true ONE with hb | hb
    · subst hb
      have hq1 : q = 1 := by
        have := HONE.out.symm
        rw [Bool.and_eq_true, decide_eq_true_eq, decide_eq_true_eq] at this
        exact this.2
      subst hq1
      obtain ⟨b, o, rfl, hc⟩ := HRW.out.num (i := 0) (by rw [HN.out]; omega)
      obtain ⟨v, HV⟩ : ∃ v, Hid (v = ks.getD 0 0) := ⟨_, rfl⟩
      have HS : Hid (shv (some ⟨b, o, none⟩) rc (4, y, ks) = .iface 148 (.agg #[.int .i64 v])) := by rw [HV.out]; rfl
      rw [← HV.out, Nat.add_zero] at hc
      go_wp2
      go_ret2
      exact HYES.out _ HF.out HS.out
    · subst hb
      go_wp2
      go_ret2
      exact HNO.out HF.out
  by_cases h5 : x = 5
  · subst h5
    have HF : Hid (formOk (5, y, ks) = ONE) := by show _ = _; rw [HONE.out, ← HN.out]; rfl
    rcases Bool.eq_false_or_eq_true ONE with hb | hb
    · subst hb
      have hq1 : q = 1 := by
        have := HONE.out.symm
        rw [Bool.and_eq_true, decide_eq_true_eq, decide_eq_true_eq] at this
        exact this.2
      subst hq1
      obtain ⟨b, o, rfl, hc⟩ := HRW.out.num (i := 0) (by rw [HN.out]; omega)
      obtain ⟨v, HV⟩ : ∃ v, Hid (v = ks.getD 0 0) := ⟨_, rfl⟩
      have HS : Hid (shv (some ⟨b, o, none⟩) rc (5, y, ks) = .iface 149 (.agg #[.int .i64 v])) := by rw [HV.out]; rfl
      rw [← HV.out, Nat.add_zero] at hc
      go_wp2
      go_ret2
      exact HYES.out _ HF.out HS.out
    · subst hb
      go_wp2
      go_ret2
      exact HNO.out HF.out
  by_cases h6 : x = 6
  · subst h6
    have HF : Hid (formOk (6, y, ks) = ONE) := by show _ = _; rw [HONE.out, ← HN.out]; rfl
    rcases Bool.eq_false_or_eq_true ONE with hb | hb
    · subst hb
      have hq1 : q = 1 := by
        have := HONE.out.symm
        rw [Bool.and_eq_true, decide_eq_true_eq, decide_eq_true_eq] at this
        exact this.2
      subst hq1
      obtain ⟨b, o, rfl, hc⟩ := HRW.out.num (i := 0) (by rw [HN.out]; omega)
      obtain ⟨v, HV⟩ : ∃ v, Hid (v = ks.getD 0 0) := ⟨_, rfl⟩
      have HS : Hid (shv (some ⟨b, o, none⟩) rc (6, y, ks) = .iface 150 (.agg #[.int .i64 v])) := by rw [HV.out]; rfl
      rw [← HV.out, Nat.add_zero] at hc
      go_wp2
      go_ret2
      exact HYES.out _ HF.out HS.out
    · subst hb
      go_wp2
      go_ret2
      exact HNO.out HF.out
  have HF : Hid (formOk (x, y, ks) = false) := by show _ = _; unfold formOk; simp [h1, h2, h3, h4, h5, h6]
  go_wp2
  go_ret2
  exact HNO.out HF.out
end Go.Proofs.Ytkcflhlipdnbnaa
