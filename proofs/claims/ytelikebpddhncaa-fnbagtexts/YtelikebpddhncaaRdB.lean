/-
  impl.ReadBag and spec.ReadBag at once.
-/
import Derived.Test.YtelikebpddhncaaReadS
namespace Go.Proofs.Ytelikebpddhncaa
open Go.RowKit

theorem rows_small {l : List It} (k : Nat) (h : ∀ i, i < k → (at' l i).1.length ≤ 4) : rowsLen l k ≤ 4 * k := by
  induction k with
  | zero => simp [rowsLen]
  | succ k ih =>
    have h1 := ih (fun i hi => h i (by omega))
    have h2 := h k (by omega)
    simp only [rowsLen]; omega
/-- what a right bag is bounded by -/
theorem ok_bounds {L : List It} (h : okBag L = true) : L.length ≤ 300 ∧ (∀ i, i < L.length → (at' L i).1.length ≤ 4) :=
  ⟨okBag_len h, fun _ hi => (okItem_row (ok_item h hi)).1⟩
theorem readBoth (s : ByteArray) (hs : s.size ≤ 1048576) : ∃ (ok : Bool) (L : List It) (n : Nat), L.length = n ∧ n ≤ 300 ∧ (∀ i, i < n → (at' L i).1.length ≤ 4) ∧ (okBag L = true) ∧ (ok = true → s.data.toList = txtTo L L.length) ∧
    (∀ w : World, Calls Try.prog 19 #[.string s] w fun e w' => ∃ a cap, e = .returned (.tuple #[.agg #[.slice a n cap], .bool ok]) ∧ Hid (BagOwn w.heap.size w'.heap.size w' a L) ∧ Hid (Below w.heap.size w w')) ∧
    (∀ w : World, Calls Try.prog 17 #[.string s] w fun e w' => ∃ a cap, e = .returned (.tuple #[.agg #[.slice a n cap], .bool ok]) ∧ Hid (BagOwn w.heap.size w'.heap.size w' a L) ∧ Hid (Below w.heap.size w w')) := by
  have hok : okBag (if (implRead s.data.toList).2 = true then (implRead s.data.toList).1 else []) = true := by
    split
    · rename_i h; exact (implRead_yes h).1
    · rfl
  have hb := ok_bounds hok
  refine ⟨(implRead s.data.toList).2, if (implRead s.data.toList).2 = true then (implRead s.data.toList).1 else [], _, rfl, hb.1, hb.2, hok, fun h => ?_, fun w => ?_, fun w => ?_⟩
  · rw [if_pos h]; exact (implRead_yes h).2
  · refine (specReadBag_any s w hs).mono ?_
    rintro e w' ⟨v, ok, rfl, h1, h2, h3⟩
    obtain rfl := h1.out
    obtain ⟨a, cap, rfl, h4⟩ := h2.out
    exact ⟨a, cap, rfl, h4, h3⟩
  · refine (readBag_any s w hs).mono ?_
    rintro e w' ⟨v, ok, rfl, h1, h2, h3⟩
    obtain rfl := h1.out
    obtain ⟨a, cap, rfl, h4⟩ := h2.out
    exact ⟨a, cap, rfl, h4, h3⟩
end Go.Proofs.Ytelikebpddhncaa
