/-
  Right bags: itemOk, impl.BagOk; what a right bag is.
-/
import Derived.Test.YtelikebpddhncaaItemC
namespace Go.Proofs.Ytelikebpddhncaa
open Go.RowKit

/-- the item at place i is right, and its row comes behind the one ahead of it -/
def okAt (l : List It) (i : Nat) : Bool := okItem (at' l i).1 (at' l i).2 && (decide (i = 0) || (rowLt (at' l (i - 1)).1 (at' l i).1 && decide ((at' l (i - 1)).1.length = (at' l i).1.length)))
/-- the items ahead of place k are right -/
def okTo (l : List It) : Nat → Bool
  | 0 => true
  | k + 1 => okTo l k && okAt l k
/-- a right bag -/
def okBag (l : List It) : Bool := decide (l.length ≤ 300) && okTo l l.length

theorem okTo_false {l : List It} {k n : Nat} (h : k < n) (hk : okAt l k = false) : okTo l n = false := by
  induction n with
  | zero => omega
  | succ n ih =>
    simp only [okTo]
    rcases Nat.lt_or_ge k n with h1 | h1
    · rw [ih h1]; rfl
    · obtain rfl : k = n := by omega
      rw [hk]; simp
theorem okTo_at {l : List It} {k n : Nat} (h : okTo l n = true) (hk : k < n) : okAt l k = true := by
  rcases hv : okAt l k with _ | _
  · rw [okTo_false hk hv] at h; cases h
  · rfl
theorem okBag_no {l : List It} {k : Nat} (h : k < l.length) (hk : okAt l k = false) : okBag l = false := by unfold okBag; rw [okTo_false h hk]; simp
theorem okBag_len {l : List It} (h : okBag l = true) : l.length ≤ 300 := by unfold okBag at h; simp at h; exact h.1
theorem okBag_at {l : List It} (h : okBag l = true) {k : Nat} (hk : k < l.length) : okAt l k = true := by unfold okBag at h; simp only [Bool.and_eq_true] at h; exact okTo_at h.2 hk
theorem okBag_of {l : List It} (h : l.length ≤ 300) (hk : ∀ k, k < l.length → okAt l k = true) : okBag l = true := by
  rcases hv : okTo l l.length with _ | _
  · exfalso
    have : ∀ n, n ≤ l.length → okTo l n = true := by
      intro n
      induction n with
      | zero => intro _; rfl
      | succ n ih => intro hn; simp only [okTo]; rw [ih (by omega), hk n (by omega)]; rfl
    rw [this _ (Nat.le_refl _)] at hv; cases hv
  · unfold okBag; rw [hv]; simp [h]
theorem okAt_no {l : List It} {i : Nat} (h : okItem (at' l i).1 (at' l i).2 = false) : okAt l i = false := by unfold okAt; rw [h]; rfl
theorem okAt_zero {l : List It} (h : okItem (at' l 0).1 (at' l 0).2 = true) : okAt l 0 = true := by unfold okAt; rw [h]; rfl
theorem okAt_pos {l : List It} {i : Nat} (h : okItem (at' l i).1 (at' l i).2 = true) (hi : i ≠ 0) : okAt l i = (rowLt (at' l (i - 1)).1 (at' l i).1 && decide ((at' l (i - 1)).1.length = (at' l i).1.length)) := by unfold okAt; rw [h]; simp [hi]

theorem below1 (w : World) (o1 : Obj) : Below w.heap.size w (w.alloc o1) := (Below.refl _ _).alloc (Nat.le_refl _) _

set_option maxHeartbeats 1000000 in
set_option maxRecDepth 100000 in
theorem itemOk_any (lo hi : Nat) (a : Option Addr) (n cap : Nat) (t : Int) (l : List Int) (r : Bool) (w : World) (ha : RowIn lo hi w a l) (hh : hi ≤ w.heap.size) (hn : l.length = n) (hm : n ≤ 1048576) (hr : r = okItem l t) :
    Calls Try.prog 68 #[.agg #[.slice a n cap, .int .i64 t]] w fun e w' => e = .returned (.bool r) ∧ Below w.heap.size w w' := by
  have HN : Hid (l.length = n) := hn
  have HA : Hid (RowIn lo hi w a l) := ha
  have HH : Hid (hi ≤ w.heap.size) := hh
  have HR : Hid (r = okItem l t) := hr
  clear ha hh hn hr
  by_cases h4 : n ≤ 4
  · have hd1 : decide ((4 : Int) < (n : Int)) = false := by simp; omega
    by_cases h1 : 1 ≤ t
    · have hd2 : decide (t < 1) = false := by simp; omega
      by_cases h2 : t ≤ 1000000
      · have hd3 : decide ((1000000 : Int) < t) = false := by simp; omega
        have HR2 : Hid (r = okNums l) := by
          show _ = _
          rw [HR.out]; unfold okItem okRow; rw [HN.out]; simp [h4, h1, h2]
        go_enter Try.func68, Try.ntmps68
        go_wp2
        go_loop [22] (fun i => ∃ k : Nat, i = .int .i64 k ∧ k ≤ n ∧ Hid (okNums l = okNums (l.drop k))) (fun i => n - (intOf i).toNat)
        case atStart => exact ⟨0, rfl, by omega, rfl⟩
        case round =>
          obtain ⟨k, rfl, hk, HE⟩ := hrel
          by_cases hlt : k < n
          · have hlt1 : (k : Int) < (n : Int) := by omega
            obtain ⟨b, o, rfl, _, hbh, hc⟩ : ∃ b o, a = some ⟨b, o, none⟩ ∧ lo ≤ b ∧ b < hi ∧ ∀ i, i < l.length → w.cell? ⟨b, o + i, none⟩ = some (.int .i64 (l.getD i 0)) := by
              rcases HA.out with rfl | h
              · exact absurd HN.out (by simp; omega)
              · exact h
            have hca := hc k (by rw [HN.out]; exact hlt)
            have hbw : b < w.heap.size := by have := HH.out; omega
            clear hc hbh
            obtain ⟨x, hx⟩ : ∃ x, x = l.getD k 0 := ⟨_, rfl⟩
            rw [← hx] at hca
            have hcb := fun o' => cell_below hca (below1 w o') hbw
            have HS : Hid (okNums l = ((decide (0 ≤ x) && decide (x ≤ 99)) && okNums (l.drop (k + 1)))) := by
              show _ = _
              rw [HE.out, okNums_step (by rw [HN.out]; exact hlt), ← hx]
            clear hx
            by_cases hx0 : 0 ≤ x
            · have he1 : decide (x < 0) = false := by simp; omega
              by_cases hx9 : x ≤ 99
              · have he2 : decide ((99 : Int) < x) = false := by simp; omega
                go_wp2
                go_roundw
                case rel => exact ⟨k + 1, by go_num, by omega, by show _ = _; rw [HS.out]; simp [hx0, hx9]⟩
                case measure => simp [intOf]; omega
              · have he2 : decide ((99 : Int) < x) = true := by simp; omega
                go_wp2
                go_ret
                refine ⟨?_, below1 _ _⟩
                have : r = false := by rw [HR2.out, HS.out, decide_eq_false (show ¬ x ≤ 99 by omega)]; simp
                rw [this]; rfl
            · have he1 : decide (x < 0) = true := by simp; omega
              go_wp2
              go_ret
              refine ⟨?_, below1 _ _⟩
              have : r = false := by rw [HR2.out, HS.out, decide_eq_false (show ¬ 0 ≤ x by omega)]; simp
              rw [this]; rfl
          · go_wp2
            go_ret
            refine ⟨?_, below1 _ _⟩
            have : r = true := by rw [HR2.out, HE.out, okNums_end (by rw [HN.out]; omega)]
            rw [this]; rfl
      · have hd3 : decide ((1000000 : Int) < t) = true := by simp; omega
        have HR2 : Hid (r = false) := by
          show _ = _
          rw [HR.out]; unfold okItem; simp [h2]
        go_enter Try.func68, Try.ntmps68
        go_wp2
        go_ret
        exact ⟨by rw [HR2.out]; rfl, below1 _ _⟩
    · have hd2 : decide (t < 1) = true := by simp; omega
      have HR2 : Hid (r = false) := by
        show _ = _
        rw [HR.out]; unfold okItem; simp [h1]
      go_enter Try.func68, Try.ntmps68
      go_wp2
      go_ret
      exact ⟨by rw [HR2.out]; rfl, below1 _ _⟩
  · have hd1 : decide ((4 : Int) < (n : Int)) = true := by simp; omega
    have HR2 : Hid (r = false) := by
      show _ = _
      rw [HR.out]; unfold okItem okRow; rw [HN.out]; simp [h4]
    go_enter Try.func68, Try.ntmps68
    go_wp2
    go_ret
    exact ⟨by rw [HR2.out]; rfl, below1 _ _⟩
end Go.Proofs.Ytelikebpddhncaa
