/-
  Automata as values; which are right; impl.compareArcs, spec.l07Less.
-/
import Derived.Test.YtdhkkabcgehjpaaArA
import Derived.Test.YtdhkkabcgehjpaaBlA
import Derived.Test.YtdhkkabcgehjpaaGOkS
namespace Go.Proofs.Ytdhkkabcgehjpaa
open Go.RowKit

/-- an automaton as a value -/
abbrev nv (s : Int) (a : Option Addr) (n cap : Nat) (b : Option Addr) (m mc : Nat) : Value := .agg #[.int .i64 s, .slice a n cap, .slice b m mc]
/-- its cells in a box -/
def nf (s : Int) (a : Option Addr) (n cap : Nat) (b : Option Addr) (m mc : Nat) : Nat → Value := fun i => if i = 0 then .int .i64 s else if i = 1 then .slice a n cap else .slice b m mc
theorem blk_nf (w : World) (g : Nat) (hg : g = w.heap.size) (s : Int) (a : Option Addr) (n cap : Nat) (b : Option Addr) (m mc : Nat) (T : TypeId) : Blk (w.alloc (.cells #[.int .i64 s, .slice a n cap, .slice b m mc] T)) g 3 (nf s a n cap b m mc) := blk_three w g hg _ _ _ T
theorem nf_cells {w : World} {g : Nat} {s : Int} {a : Option Addr} {n cap : Nat} {b : Option Addr} {m mc : Nat} (h : Blk w g 3 (nf s a n cap b m mc)) : w.cell? ⟨g, 0, none⟩ = some (.int .i64 s) ∧ w.cell? ⟨g, 1, none⟩ = some (.slice a n cap) ∧ w.cell? ⟨g, 2, none⟩ = some (.slice b m mc) := ⟨h.cell (i := 0) (by omega), h.cell (i := 1) (by omega), h.cell (i := 2) (by omega)⟩
/-- right: states s, arcs l, so many ends -/
def okN (s : Int) (l : List Ed) (m : Nat) : Bool := decide (1 ≤ s) && decide (s ≤ 24) && decide ((m : Int) = s) && okGTo s l l.length
theorem okN_no {s : Int} {l : List Ed} {m k : Nat} (h : k < l.length) (hk : okGAt s l k = false) : okN s l m = false := by unfold okN; rw [okGTo_false h hk]; simp
theorem okN_size {s : Int} {l : List Ed} {m : Nat} (h : okN s l m = true) : 1 ≤ s ∧ s ≤ 24 ∧ (m : Int) = s := by unfold okN at h; simp at h; omega
theorem okN_at {s : Int} {l : List Ed} {m : Nat} (h : okN s l m = true) {k : Nat} (hk : k < l.length) : okGAt s l k = true := by unfold okN at h; simp only [Bool.and_eq_true] at h; exact okGTo_at h.2 hk
theorem okN_arc {s : Int} {l : List Ed} {m : Nat} (h : okN s l m = true) {k : Nat} (hk : k < l.length) : okE s (eat l k) = true := by
  have := okN_at h hk; unfold okGAt at this; simp only [Bool.and_eq_true] at this; exact this.1

set_option maxHeartbeats 1000000 in
theorem compareArcs_any (x y : Ed) (w : World) :
    Calls Try.prog 70 #[ev x, ev y] w fun e w' => ∃ r : Int, e = .returned (.int .i64 r) ∧ Hid (r = cmpE x y) ∧ Hid (Below w.heap.size w w') := by
  obtain ⟨x0, x1, x2⟩ := x
  obtain ⟨y0, y1, y2⟩ := y
  have HC : Hid (∀ w0, Calls Try.prog 72 #[ev (x0, x1, x2), ev (y0, y1, y2)] w0 fun e w' => ∃ r : Int, e = .returned (.int .i64 r) ∧ Hid (r = cmpE (x0, x1, x2) (y0, y1, y2)) ∧ Hid (Below w0.heap.size w0 w')) := fun w0 => compareEdges_any _ _ w0
  go_enter Try.func70, Try.ntmps70
  go_wp2_with fail
  refine (HC.out _).mono ?_
  rintro e w1 ⟨r, rfl, HR, HB⟩
  go_wp2
  go_ret
  exact ⟨r, rfl, HR, (below2 w _ _).trans (HB.out.mono (by simp; omega))⟩
set_option maxHeartbeats 1000000 in
theorem specLess_arc (x y : Ed) (r : Bool) (w : World) (hr : r = ltE x y) :
    Calls Try.prog 59 #[ev x, ev y] w fun e w' => e = .returned (.bool r) ∧ Hid (Below w.heap.size w w') := by
  have HR : Hid (r = ltE x y) := hr
  clear hr
  obtain ⟨x0, x1, x2⟩ := x
  obtain ⟨y0, y1, y2⟩ := y
  have HR2 : Hid (r = if x0 = y0 then (if x1 = y1 then decide (x2 < y2) else decide (x1 < y1)) else decide (x0 < y0)) := by
    show _ = _
    rw [HR.out]
    unfold ltE cmpE orI cmpI
    by_cases h0 : x0 = y0
    · subst h0
      by_cases h1 : x1 = y1
      · subst h1
        rcases Int.lt_trichotomy x2 y2 with h | h | h
        · simp [h]
        · subst h; simp
        · simp [h, Int.lt_asymm h]
      · rcases Int.lt_trichotomy x1 y1 with h | h | h
        · simp [h, h1]
        · exact absurd h h1
        · simp [h, Int.lt_asymm h, h1]
    · rcases Int.lt_trichotomy x0 y0 with h | h | h
      · simp [h, h0]
      · exact absurd h h0
      · simp [h, Int.lt_asymm h, h0]
  clear HR
  by_cases h0 : x0 = y0
  · subst h0
    by_cases h1 : x1 = y1
    · subst h1
      have HR3 : Hid (r = decide (x2 < y2)) := by show _ = _; rw [HR2.out]; simp
      obtain ⟨d, hd⟩ : ∃ d, decide (x2 < y2) = d := ⟨_, rfl⟩
      go_enter Try.func59, Try.ntmps59
      go_wp2
      go_ret
      exact ⟨by rw [HR3.out, hd]; rfl, below2 w _ _⟩
    · have HR3 : Hid (r = decide (x1 < y1)) := by show _ = _; rw [HR2.out]; simp [h1]
      obtain ⟨d, hd⟩ : ∃ d, decide (x1 < y1) = d := ⟨_, rfl⟩
      have hn : decide (x1 = y1) = false := decide_eq_false h1
      go_enter Try.func59, Try.ntmps59
      go_wp2
      go_ret
      exact ⟨by rw [HR3.out, hd]; rfl, below2 w _ _⟩
  · have HR3 : Hid (r = decide (x0 < y0)) := by show _ = _; rw [HR2.out]; simp [h0]
    obtain ⟨d, hd⟩ : ∃ d, decide (x0 < y0) = d := ⟨_, rfl⟩
    have hn : decide (x0 = y0) = false := decide_eq_false h0
    go_enter Try.func59, Try.ntmps59
    go_wp2
    go_ret
    exact ⟨by rw [HR3.out, hd]; rfl, below2 w _ _⟩

end Go.Proofs.Ytdhkkabcgehjpaa
