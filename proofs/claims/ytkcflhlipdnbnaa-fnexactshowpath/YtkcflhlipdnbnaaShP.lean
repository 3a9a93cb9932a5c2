/-
  spec.ShowPath as a function of the path.
-/
import Derived.Test.YtkcflhlipdnbnaaShS
namespace Go.Proofs.Ytkcflhlipdnbnaa
open Go.RowKit

/-- the text of a path; none when it is no right one or too long -/
def showT (ps : List Pc) : Tx := if okP ps = true then oneT ps (ps.length - 1) else emT
theorem showT_le (ps : List Pc) : (showT ps).size ≤ 20 := by
  unfold showT
  split
  · exact oneT_le _ _
  · exact Nat.zero_le _
theorem okToP_all {l : List Pc} : ∀ {n : Nat}, okToP l n = true → ∀ i, i < n → formOk (pat l i) = true ∧ kidsOk i (pat l i).2.2 = true
  | 0, _, i, h => by omega
  | n + 1, ho, i, h => by
    unfold okToP at ho
    rw [Bool.and_eq_true, Bool.and_eq_true] at ho
    by_cases e : i < n
    · exact okToP_all ho.1 i e
    · obtain rfl : i = n := by omega
      exact ho.2
theorem okP_parts {l : List Pc} (h : okP l = true) : 1 ≤ l.length ∧ l.length ≤ 60 ∧ ∀ i, i < l.length → formOk (pat l i) = true ∧ kidsOk i (pat l i).2.2 = true := by
  unfold okP at h
  simp only [Bool.and_eq_true, decide_eq_true_eq] at h
  exact ⟨h.1.1, h.1.2, okToP_all h.2⟩
theorem isE (t : Tx) : (!(t.toList).isEmpty) = decide (¬ t = emT) := by
  by_cases e : t = emT
  · rw [e]; decide +kernel
  · have h := emb_no e
    cases hh : t.toList with
    | nil => rw [hh] at h; simp at h
    | cons x l => simp [e]
theorem l08Show_any (lo hi : Nat) (b : Option Addr) (m mc : Nat) (ps : List Pc) (hn : ps.length = m) (hok : ∀ i, i < m → formOk (pat ps i) = true ∧ kidsOk i (pat ps i).2.2 = true) (hq : ∀ i, i < m → (pat ps i).2.2.length ≤ 1048576) :
    ∀ (k : Nat), k < m → ∀ (wi : Bool) (w : World), PathIn lo hi w b ps → hi ≤ w.heap.size → (wi = true → (pat ps k).1 = 2 ∨ (pat ps k).1 = 3) →
    Calls Try.prog 70 #[pv b m mc, .int .i64 (k : Int), .bool wi] w fun e w' => e = .returned (.string (wrapT (oneT ps k) wi)) ∧ Hid (Below w.heap.size w w') := by
  intro k
  induction k using Nat.strongRecOn with
  | ind k ih =>
    intro hk wi w ha hh hwi
    exact l08Show_step lo hi b m mc ps k wi w ha hh hn hk hok hq hwi fun z hz v w0 hb hv => ih z hz (by omega) v w0 (ha.below hb hh) (Nat.le_trans hh hb.size) hv

set_option maxHeartbeats 400000 in
set_option maxRecDepth 100000 in
theorem specShowPath_any (lo hi : Nat) (a : Option Addr) (n cap : Nat) (l : List Pc) (t : Tx) (r : Bool) (w : World) (ha : PathIn lo hi w a l) (hh : hi ≤ w.heap.size) (hn : l.length = n) (hm : n ≤ 1048576) (hq : ∀ i, i < n → (pat l i).2.2.length ≤ 1048576) (ht : t = showT l) (hr : r = decide (¬ t = emT)) :
    Calls Try.prog 30 #[pv a n cap] w fun e w' => e = .returned (.tuple #[.string t, .bool r]) ∧ Hid (Below w.heap.size w w') := by
  have HN : Hid (l.length = n) := hn
  have HA : Hid (PathIn lo hi w a l) := ha
  have HH : Hid (hi ≤ w.heap.size) := hh
  have HQ : Hid (∀ i, i < n → (pat l i).2.2.length ≤ 1048576) := hq
  have HT : Hid (t = showT l) := ht
  have HRR : Hid (r = decide (¬ t = emT)) := hr
  clear ha hh hn hq ht hr
  unfold pv
  go_enter Try.func30, Try.ntmps30
  go_wp2_with fail
  refine (specPathOk_any lo hi a n cap l _ _ (HA.out.below (below1 w _) HH.out) (by have := HH.out; simp; omega) HN.out hm HQ.out rfl).mono ?_
  rintro e w1 ⟨rfl, HB1⟩
  obtain ⟨o, HO⟩ : ∃ o, Hid (o = okP l) := ⟨_, rfl⟩
  rw [← HO.out]
  have HBW : Hid (Below w.heap.size w w1) := (below1 w _).trans (HB1.out.mono (by simp))
  have c0 := cell_below (cell_new1 w (.slice a n cap) 34 _ rfl) HB1.out (by simp)
  rcases Bool.eq_false_or_eq_true o with ho | ho
  · subst ho
    obtain ⟨h1, h2, h3⟩ := okP_parts HO.out.symm
    rw [HN.out] at h1 h2 h3
    have HOK : Hid (∀ i, i < n → formOk (pat l i) = true ∧ kidsOk i (pat l i).2.2 = true) := h3
    clear h3
    obtain ⟨k, rfl⟩ : ∃ k, n = k + 1 := ⟨n - 1, by omega⟩
    have hk1 : ((k + 1 : Nat) : Int) - 1 = (k : Int) := by omega
    have HTT : Hid (t = oneT l k) := by show _ = _; rw [HT.out]; unfold showT; rw [if_pos HO.out.symm, HN.out]; rfl
    have HC : Hid (Calls Try.prog 70 #[.agg #[.slice a (k + 1) cap], .int .i64 (k : Int), .bool false] w1 fun e w' => e = .returned (.string t) ∧ Hid (Below w1.heap.size w1 w')) := by
      have h := l08Show_any lo hi a (k + 1) cap l HN.out HOK.out HQ.out k (by omega) false w1 (HA.out.below HBW.out HH.out) (by have := HH.out; have := HBW.out.size; omega) (fun h => absurd h (by simp))
      show Calls _ _ _ _ _
      rw [show wrapT (oneT l k) false = t by rw [HTT.out]; unfold wrapT; by_cases e : oneT l k = emT <;> simp [e]] at h
      exact h
    go_wp2_with (go_at_call 70; refine (HC.out).mono ?_; rintro e w2 ⟨rfl, HB2⟩)
    have HE : Hid ((!(t.toList).isEmpty) = r) := by show _ = _; rw [HRR.out, isE]
    go_ret2
    exact ⟨by rw [HE.out]; rfl, HBW.out.trans (HB2.out.mono HBW.out.size)⟩
  · subst ho
    have HTT : Hid (t = emT) := by show _ = _; rw [HT.out]; unfold showT; rw [if_neg (by rw [← HO.out]; simp)]
    obtain rfl : r = false := by rw [HRR.out, HTT.out]; rfl
    go_wp2
    go_ret2
    exact ⟨by rw [HTT.out]; rfl, HBW⟩
end Go.Proofs.Ytkcflhlipdnbnaa
