/-
  Bags added to.
-/
import Derived.Test.YtijbngdafgmpaaaDBags
import Derived.Test.YtijbngdafgmpaaaAdd
import Derived.Test.YtijbngdafgmpaaaPlc
namespace Go.Proofs.Ytijbngdafgmpaaa
open Go.RowKit

theorem oks_nonneg' {l : List It} (h : Oks l) : ∀ x ∈ l, 0 ≤ x.2 := fun x hx => by have := (okItem_split.1 (h x hx)).2; omega
theorem size_sm' {l : List It} (h : okBag l = true) (hs : sm l ≤ 1000000) : sizeOfBag l = sm l := by
  unfold sizeOfBag; rw [if_pos h, sumTo_all]; omega
theorem times_le_sm {l : List It} (h : ∀ x ∈ l, 0 ≤ x.2) (q : List Int) : timesOf l q ≤ sm l := by
  induction l with
  | nil => simp [timesOf, sm]
  | cons x xs ih =>
    have h1 : ∀ y ∈ xs, 0 ≤ y.2 := fun y hy => h y (List.mem_cons_of_mem _ hy)
    have h2 := sm_nonneg h1
    have h3 := ih h1
    have h4 := h x (List.mem_cons_self ..)
    have e : sm (x :: xs) = x.2 + sm xs := by simp [sm]
    rw [e]
    simp only [timesOf]
    split <;> omega
/-- what the law asks of a drawn bag and a drawn row -/
structure Fb (A D : List It) (r : List Int) (t : Int) : Prop where
  ga : Good 2 A
  gd : Good 2 D
  ok : addOk A r t = true
  add : addL A r t = D
  other : ∀ x ∈ A, x.1 ≠ r → timesOf D x.1 = x.2
  same : timesOf D r = timesOf A r + t
  tb : 0 ≤ timesOf A r ∧ timesOf A r ≤ 21
  size : sizeOfBag D = sizeOfBag A + t
  sb : 0 ≤ sizeOfBag A ∧ sizeOfBag A ≤ 21
theorem fb_of {A : List It} {r : List Int} {t : Int} (ha : Drn 2 7 A) (hr : r.length = 2) (hn : ∀ x ∈ r, 0 ≤ x ∧ x ≤ 99) (ht : 1 ≤ t ∧ t ≤ 9) : ∃ D, Fb A D r t := by
  have hi : okItem r t = true := by
    refine okItem_split.2 ⟨?_, ht.1, by omega⟩
    unfold okRow okNums
    simp only [Bool.and_eq_true, List.all_eq_true, decide_eq_true_eq]
    exact ⟨fun x hx => hn x hx, by omega⟩
  have gd : Good 2 (putL r t A) := ⟨by have := putL_len_le (r := r) (t := t) (l := A); have := ha.len; omega, putL_oks ha.good.oks hi, putL_even ha.good.even hr, putL_srt ha.good.srt⟩
  have hok : addOk A r t = true := by
    unfold addOk; rw [ha.good.ok, gd.ok]
    simp [ht.1, show t ≤ 1000000 by omega]
  have h0 := oks_nonneg' ha.good.oks
  have hs := ha.sum
  have hn0 := sm_nonneg h0
  have hts := times_le_sm h0 r
  have hto := (oks_times ha.good.oks r).1
  have e : sm (putL r t A) = sm A + t := sm_put fun x hx => by have := mem_le_sm h0 hx; omega
  refine ⟨putL r t A, ha.good, gd, hok, by unfold addL; rw [hok]; rfl, fun x hx hne => by rw [putL_other hne]; exact timesOf_mem ha.good.srt hx, ?_, ⟨hto, by omega⟩, ?_, ?_⟩
  · rw [putL_same' ha.good.srt (by omega)]; omega
  · rw [size_sm' gd.ok (by omega), size_sm' ha.good.ok (by omega), e]
  · rw [size_sm' ha.good.ok (by omega)]; omega
theorem good_b' {W : Nat} {l : List It} {n : Nat} (h : Good W l) (hn : l.length = n) : n ≤ 1048576 ∧ ∀ i, i < n → (at' l i).1.length ≤ 1048576 :=
  ⟨by have := h.len; omega, fun i hi => by have := ok_rows h.ok (i := i) (by omega); omega⟩
theorem row2 (w : World) (b : Nat) (hb : b = w.heap.size) (x y : Int) : RowIn b (w.alloc (.cells #[.int .i64 x, .int .i64 y] 3)).heap.size (w.alloc (.cells #[.int .i64 x, .int .i64 y] 3)) (some ⟨b, 0, none⟩) [x, y] := by
  subst hb
  refine .inr ⟨w.heap.size, 0, rfl, Nat.le_refl _, by simp, fun i hi => ?_⟩
  have hi' : i < 2 := by simpa using hi
  have hk := blk_two w w.heap.size rfl (.int .i64 x) (.int .i64 y) 3
  rw [Nat.zero_add, hk.cell hi']
  rcases i with _ | _ | i
  · rfl
  · rfl
  · omega

end Go.Proofs.Ytijbngdafgmpaaa
