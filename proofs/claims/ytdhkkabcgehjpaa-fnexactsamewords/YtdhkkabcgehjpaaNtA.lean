/-
  Words that an automaton takes: the mathematics.
-/
import Derived.Test.YtdhkkabcgehjpaaMsE
namespace Go.Proofs.Ytdhkkabcgehjpaa
open Go.RowKit

/-- a to d -/
def isL (x : Int) : Bool := decide (97 ≤ x) && decide (x ≤ 100)
set_option maxHeartbeats 1000000 in
theorem isLabel_any (x : Int) (r : Bool) (w : World) (hr : r = isL x) : Calls Try.prog 34 #[.int .u8 x] w fun e w' => e = .returned (.bool r) ∧ w = w' := by
  by_cases h0 : 97 ≤ x
  · have hd : decide (x ≥ 97) = true := by simpa using h0
    have hr2 : decide (x ≤ 100) = r := by rw [hr]; unfold isL; simp [h0]
    clear hr
    go_enter Try.func34, Try.ntmps34
    go_wp2
    go_ret
    exact ⟨rfl, rfl⟩
  · have hd : decide (x ≥ 97) = false := by simp; omega
    have hr2 : r = false := by rw [hr]; unfold isL; simp [h0]
    subst hr2
    clear hr
    go_enter Try.func34, Try.ntmps34
    go_wp2
    go_ret
    exact ⟨rfl, rfl⟩
/-- a word's byte -/
def bt (s : ByteArray) (i : Nat) : Nat := if h : i < s.size then s[i].toNat else 0
theorem bt_lt {s : ByteArray} {i : Nat} (h : i < s.size) : bt s i = s[i].toNat := by simp [bt, h]
/-- where a set leads by the arcs of one label -/
def stepL (l : List Ed) (c : Int) (f : Nat → Bool) (j : Nat) : Bool := l.any fun e => f e.1.toNat && decide (e.2.1 = c) && decide (e.2.2 = (j : Int))
/-- the set behind k letters of a word -/
def runL (l : List Ed) (T : ByteArray) : Nat → Nat → Bool
  | 0 => oneS
  | k + 1 => stepL l ((bt T k : Nat) : Int) (runL l T k)
/-- whether an automaton takes a word -/
def takesN (s : Int) (l : List Ed) (m : Nat) (es : List Bool) (T : ByteArray) (n : Nat) : Bool := okN s l m && decide (n ≤ 12) && endTo (endM es) (runL l T n) 24
theorem okN_mem {s : Int} {l : List Ed} {m : Nat} (h : okN s l m = true) {e : Ed} (he : e ∈ l) : okE s e = true := by
  obtain ⟨k, hk, rfl⟩ := List.mem_iff_getElem.1 he
  have := okN_arc h hk
  rwa [eat_get hk] at this
theorem step_iff {l : List Ed} {c : Int} {f : Nat → Bool} {j : Nat} : stepL l c f j = true ↔ ∃ e ∈ l, f e.1.toNat = true ∧ e.2.1 = c ∧ e.2.2 = (j : Int) := by
  unfold stepL
  simp [List.any_eq_true, and_assoc]
theorem step_go {s : Int} {l : List Ed} {m : Nat} (hok : okN s l m = true) {i j : Nat} (hi : i < 4) (hj : j < 24) (f : Nat → Bool) : goS (arcM l i) f j = stepL l ((97 + i : Nat) : Int) f j := by
  have hs24 := okN_size hok
  rw [Bool.eq_iff_iff, step_iff]
  unfold goS arcM matTo
  rw [List.any_eq_true, List.take_length]
  constructor
  · rintro ⟨x, hx, h⟩
    have hx' := List.mem_range.1 hx
    rw [Bool.and_eq_true, List.any_eq_true] at h
    obtain ⟨h1, e, he, h2⟩ := h
    obtain ⟨f', i', t', rfl, hf, hi4, ht⟩ := okE_nums hs24.2.1 (okN_mem hok he)
    rw [idxE_num, decide_eq_true_eq] at h2
    obtain ⟨rfl, rfl, rfl⟩ : i' = i ∧ f' = x ∧ t' = j := by omega
    exact ⟨_, he, by simpa using h1, rfl, rfl⟩
  · rintro ⟨e, he, h1, h2, h3⟩
    obtain ⟨f', i', t', rfl, hf, hi4, ht⟩ := okE_nums hs24.2.1 (okN_mem hok he)
    dsimp only at h1 h2 h3
    obtain ⟨rfl, rfl⟩ : i' = i ∧ t' = j := by omega
    refine ⟨f', List.mem_range.2 hf, ?_⟩
    rw [Bool.and_eq_true, List.any_eq_true]
    exact ⟨by simpa using h1, _, he, by rw [idxE_num]; simp; omega⟩
theorem step_bad {s : Int} {l : List Ed} {m : Nat} (hok : okN s l m = true) {c : Int} (hc : isL c = false) (f : Nat → Bool) (j : Nat) : stepL l c f j = false := by
  rw [Bool.eq_false_iff]
  intro h
  obtain ⟨e, he, _, h2, _⟩ := step_iff.1 h
  obtain ⟨f', i', t', rfl, hf, hi4, ht⟩ := okE_nums (okN_size hok).2.1 (okN_mem hok he)
  dsimp only at h2
  unfold isL at hc
  rw [← h2] at hc
  simp at hc
  omega
theorem run_bad {s : Int} {l : List Ed} {m : Nat} (hok : okN s l m = true) {T : ByteArray} {k : Nat} (hc : isL ((bt T k : Nat) : Int) = false) : ∀ d j, runL l T (k + 1 + d) j = false
  | 0, j => step_bad hok hc _ j
  | d + 1, j => by
    rw [Bool.eq_false_iff]
    intro h
    obtain ⟨e, he, h1, _, _⟩ := step_iff.1 (show stepL l _ (runL l T (k + 1 + d)) j = true from h)
    rw [run_bad hok hc d] at h1
    cases h1
theorem end_none {q f : Nat → Bool} (h : ∀ j, f j = false) (k : Nat) : endTo q f k = false := by
  unfold endTo
  rw [List.any_eq_false]
  intro x _
  simp [h]
theorem end_high {es : List Bool} {m : Nat} (hm : es.length = m) (f : Nat → Bool) {n : Nat} (hn : m ≤ n) : endTo (endM es) f n = endTo (endM es) f m := by
  induction n with
  | zero => rw [show m = 0 by omega]
  | succ n ih =>
    by_cases e : m = n + 1
    · rw [e]
    · rw [endTo_succ, ih (by omega)]
      have : endM es n = false := by unfold endM; rw [List.getD, List.getElem?_eq_none (by omega)]; rfl
      rw [this, Bool.and_false, Bool.or_false]
/-- the same, of the first k arcs -/
def stepTo (l : List Ed) (c : Int) (f : Nat → Bool) (k : Nat) (j : Nat) : Bool := stepL (l.take k) c f j
theorem stepTo_succ {l : List Ed} {c : Int} {f : Nat → Bool} {k : Nat} (h : k < l.length) (j : Nat) : stepTo l c f (k + 1) j = (stepTo l c f k j || (f (eat l k).1.toNat && decide ((eat l k).2.1 = c) && decide ((eat l k).2.2 = (j : Int)))) := by
  unfold stepTo stepL
  rw [take_snocE l h, List.any_append]
  simp
theorem stepTo_all {l : List Ed} {c : Int} {f : Nat → Bool} {n : Nat} (h : l.length = n) (j : Nat) : stepTo l c f n j = stepL l c f j := by unfold stepTo; rw [← h, List.take_length]
theorem info4B' : (Try.prog.info? 4).map (fun i => (i.zero, i.size, i.bytes)) = some (some (.bool false), 1, 1) := by kernel_rfl
end Go.Proofs.Ytdhkkabcgehjpaa
