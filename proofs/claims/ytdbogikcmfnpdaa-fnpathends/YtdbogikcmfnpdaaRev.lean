/-
  slices.Reverse at ints.
-/
import Derived.Test.YtdbogikcmfnpdaaCpy
import Derived.Handy
namespace Go.Proofs.Ytdbogikcmfnpdaa
open Go.RowKit

/-- the first k and the last k of a list have changed places -/
def revTo (l : List Int) (k : Nat) : List Int := (List.range l.length).map fun i => if i < k ∨ l.length - k ≤ i then l.getD (l.length - 1 - i) 0 else l.getD i 0
theorem revTo_len (l : List Int) (k : Nat) : (revTo l k).length = l.length := by simp [revTo]
theorem revTo_at {l : List Int} {k i : Nat} (h : i < l.length) : (revTo l k).getD i 0 = if i < k ∨ l.length - k ≤ i then l.getD (l.length - 1 - i) 0 else l.getD i 0 := by simp [revTo, List.getD, h]
theorem revTo_zero (l : List Int) : revTo l 0 = l := by
  refine ext_getD (n := l.length) (revTo_len l 0) rfl fun j hj => ?_
  rw [revTo_at hj, if_neg (by omega)]
theorem revTo_done {l : List Int} {k : Nat} (h : l.length ≤ 2 * k + 1) : revTo l k = l.reverse := by
  refine ext_getD (n := l.length) (revTo_len l k) (by simp) fun j hj => ?_
  rw [revTo_at hj]
  have hr : l.reverse.getD j 0 = l.getD (l.length - 1 - j) 0 := by
    simp only [List.getD]
    rw [List.getElem?_reverse hj]
  rw [hr]
  split
  · rfl
  · have : l.length - 1 - j = j := by omega
    rw [this]
/-- a block that holds a row -/
theorem revTo_step {w : World} {b : Nat} {l : List Int} {k : Nat} (h : Blk w b l.length (fun i => .int .i64 ((revTo l k).getD i 0))) (hk : 2 * k + 1 < l.length) :
    Blk ((w.setCell ⟨b, k, none⟩ (.int .i64 (l.getD (l.length - 1 - k) 0))).setCell ⟨b, l.length - 1 - k, none⟩ (.int .i64 (l.getD k 0))) b l.length (fun i => .int .i64 ((revTo l (k + 1)).getD i 0)) := by
  refine ((h.set k (by omega) _).set (l.length - 1 - k) (by omega) _).congr fun i hi => ?_
  rw [revTo_at (k := k + 1) hi]
  by_cases e1 : i = l.length - 1 - k
  · rw [if_pos e1, if_pos (by omega), show l.length - 1 - i = k by omega]
  · rw [if_neg e1]
    by_cases e2 : i = k
    · subst e2; rw [if_pos rfl, if_pos (by omega)]
    · rw [if_neg e2, revTo_at hi]
      by_cases e3 : i < k ∨ l.length - k ≤ i
      · rw [if_pos e3, if_pos (by omega)]
      · rw [if_neg e3, if_neg (by omega)]

end Go.Proofs.Ytdbogikcmfnpdaa
