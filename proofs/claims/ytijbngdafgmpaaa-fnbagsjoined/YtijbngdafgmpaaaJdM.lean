/-
  Joined bags.
-/
import Derived.Test.YtijbngdafgmpaaaDBags
import Derived.Test.YtijbngdafgmpaaaAddS
import Derived.Test.YtijbngdafgmpaaaSameB
namespace Go.Proofs.Ytijbngdafgmpaaa
open Go.RowKit

theorem joinL_even {W : Nat} {a b : List It} (ha : Even W a) (hb : Even W b) : Even W (joinL a b) := by
  induction b generalizing a with
  | nil => exact ha
  | cons x xs ih => exact ih (a := putL x.1 x.2 a) (putL_even ha (hb x (List.mem_cons_self ..))) (fun y hy => hb y (List.mem_cons_of_mem _ hy))
theorem Good.join {W : Nat} {a b : List It} (ha : Good W a) (hb : Good W b) (h : a.length + b.length ≤ 300) : Good W (joinL a b) :=
  ⟨Nat.le_trans joinL_len_le h, joinL_oks ha.oks hb.oks, joinL_even ha.even hb.even, joinL_srt ha.srt⟩
theorem join_yes {W : Nat} {a b : List It} (ha : Good W a) (hb : Good W b) (h : a.length + b.length ≤ 300) : joinOk a b = true ∧ joinR a b = joinL a b := by
  have h1 : joinOk a b = true := by unfold joinOk; rw [ha.ok, hb.ok, (ha.join hb h).ok]; rfl
  exact ⟨h1, joinR_yes h1⟩
theorem good_ext {W : Nat} {a b : List It} (ha : Good W a) (hb : Good W b) (h : ∀ q, timesOf a q = timesOf b q) : a = b :=
  srt_ext ha.srt hb.srt (fun x hx => (okItem_split.1 (ha.oks x hx)).2.1) (fun x hx => (okItem_split.1 (hb.oks x hx)).2.1) h
theorem Good.times {W : Nat} {a b : List It} (ha : Good W a) (hb : Good W b) (q : List Int) : timesOf (joinL a b) q = min (timesOf a q + timesOf b q) 1000000 :=
  joinL_times ha.srt hb.srt (fun q => oks_times ha.oks q) (fun x hx => by have := (okItem_split.1 (hb.oks x hx)).2; omega) q
theorem join_comm {W : Nat} {a b : List It} (ha : Good W a) (hb : Good W b) (h : a.length + b.length ≤ 300) : joinL a b = joinL b a :=
  good_ext (ha.join hb h) (hb.join ha (by omega)) fun q => by rw [ha.times hb, hb.times ha, Int.add_comm]
theorem join_assoc {W : Nat} {a b c : List It} (ha : Good W a) (hb : Good W b) (hc : Good W c) (h : a.length + b.length + c.length ≤ 300) : joinL (joinL a b) c = joinL a (joinL b c) := by
  have gab := ha.join hb (by omega)
  have gbc := hb.join hc (by omega)
  have l1 := joinL_len_le (a := a) (b := b)
  have l2 := joinL_len_le (a := b) (b := c)
  refine good_ext (gab.join hc (by omega)) (ha.join gbc (by omega)) fun q => ?_
  rw [gab.times hc, ha.times gbc, ha.times hb, hb.times hc]
  have h1 := oks_times ha.oks q
  have h2 := oks_times hb.oks q
  have h3 := oks_times hc.oks q
  omega
theorem sm_cons (x : It) (l : List It) : sm (x :: l) = x.2 + sm l := by simp [sm]
theorem oks_nonneg {l : List It} (h : Oks l) : ∀ x ∈ l, 0 ≤ x.2 := fun x hx => by have := (okItem_split.1 (h x hx)).2; omega
theorem sm_join {a b : List It} (ha : Oks a) (hb : Oks b) (h : sm a + sm b ≤ 1000000) : sm (joinL a b) = sm a + sm b := by
  induction b generalizing a with
  | nil => simp [joinL, sm]
  | cons x xs ih =>
    have hx := hb x (List.mem_cons_self ..)
    have hxs : Oks xs := fun y hy => hb y (List.mem_cons_of_mem _ hy)
    have h0 := sm_nonneg (oks_nonneg hxs)
    rw [sm_cons] at h
    have e : sm (putL x.1 x.2 a) = sm a + x.2 := sm_put fun y hy => by have := mem_le_sm (oks_nonneg ha) hy; omega
    have e2 : joinL a (x :: xs) = joinL (putL x.1 x.2 a) xs := rfl
    rw [e2, ih (putL_oks ha hx) hxs (by rw [e]; omega), e, sm_cons]
    omega
theorem size_sm {l : List It} (h : okBag l = true) (hs : sm l ≤ 1000000) : sizeOfBag l = sm l := by
  unfold sizeOfBag; rw [if_pos h, sumTo_all]; omega
theorem each_each (l : List It) : eachOf (eachOf l) = eachOf l := by simp [eachOf]
theorem eachOf_len (l : List It) : (eachOf l).length = l.length := by simp [eachOf]
theorem eachOf_row {l : List It} {i : Nat} (h : i < l.length) : (at' (eachOf l) i).1 = (at' l i).1 := by simp [eachOf, at', List.getD, h]
/-- what the law asks of drawn bags -/
structure Jd (A D C X AB BC : List It) : Prop where
  ga : Good 2 A
  gd : Good 2 D
  gc : Good 2 C
  gx : Good 2 X
  gab : Good 2 AB
  gbc : Good 2 BC
  x1 : joinOk A D = true ∧ joinR A D = X
  x2 : joinOk D A = true ∧ joinR D A = X
  x3 : joinR X C = AB
  x4 : joinR D C = BC
  x5 : joinOk A BC = true ∧ joinR A BC = AB
  add : addL D [4, 4] 2 = C
  size : sizeOfBag X = sizeOfBag A + sizeOfBag D
  sa : 0 ≤ sizeOfBag A ∧ sizeOfBag A ≤ 21
  sd : 0 ≤ sizeOfBag D ∧ sizeOfBag D ≤ 21
theorem jd_of {A D : List It} (ha : Drn 2 7 A) (hd : Drn 2 7 D) : ∃ C X AB BC, Jd A D C X AB BC := by
  have hi : okItem [4, 4] 2 = true := by decide
  have gc : Good 2 (putL [4, 4] 2 D) := ⟨by have := putL_len_le (r := [4, 4]) (t := 2) (l := D); have := hd.len; omega, putL_oks hd.good.oks hi, putL_even hd.good.even rfl, putL_srt hd.good.srt⟩
  have lc : (putL [4, 4] 2 D).length ≤ 8 := by have := putL_len_le (r := [4, 4]) (t := 2) (l := D); have := hd.len; omega
  have la := ha.len
  have ld := hd.len
  have hadd : addL D [4, 4] 2 = putL [4, 4] 2 D := by
    have : addOk D [4, 4] 2 = true := by unfold addOk; rw [hd.good.ok, gc.ok]; decide
    unfold addL; rw [this]; rfl
  have gx := ha.good.join hd.good (by omega)
  have gbc := hd.good.join gc (by omega)
  have lx := joinL_len_le (a := A) (b := D)
  have lbc := joinL_len_le (a := D) (b := putL [4, 4] 2 D)
  have gab := gx.join gc (by omega)
  have e1 := join_yes ha.good hd.good (by omega)
  have e2 := join_yes hd.good ha.good (by omega)
  have e3 := join_yes gx gc (by omega)
  have e4 := join_yes hd.good gc (by omega)
  have e5 := join_yes ha.good gbc (by omega)
  have hsa := ha.sum
  have hsd := hd.sum
  have na := sm_nonneg (oks_nonneg ha.good.oks)
  have nd := sm_nonneg (oks_nonneg hd.good.oks)
  have sx := sm_join ha.good.oks hd.good.oks (by omega)
  refine ⟨putL [4, 4] 2 D, joinL A D, joinL (joinL A D) (putL [4, 4] 2 D), joinL D (putL [4, 4] 2 D), ha.good, hd.good, gc, gx, gab, gbc, e1, ⟨e2.1, by rw [e2.2, join_comm hd.good ha.good (by omega)]⟩, e3.2, e4.2, ⟨e5.1, by rw [e5.2, join_assoc ha.good hd.good gc (by omega)]⟩, hadd, ?_, ?_, ?_⟩
  · rw [size_sm gx.ok (by omega), size_sm ha.good.ok (by omega), size_sm hd.good.ok (by omega), sx]
  · rw [size_sm ha.good.ok (by omega)]; omega
  · rw [size_sm hd.good.ok (by omega)]; omega
theorem good_b {W : Nat} {l : List It} {n : Nat} (h : Good W l) (hn : l.length = n) : n ≤ 1048576 ∧ ∀ i, i < n → (at' l i).1.length ≤ 1048576 :=
  ⟨by have := h.len; omega, fun i hi => by have := ok_rows h.ok (i := i) (by omega); omega⟩
theorem lit44 (w : World) (b : Nat) (hb : b = w.heap.size) : RowIn b (w.alloc (.cells #[.int .i64 4, .int .i64 4] 3)).heap.size (w.alloc (.cells #[.int .i64 4, .int .i64 4] 3)) (some ⟨b, 0, none⟩) [4, 4] := by
  subst hb
  refine .inr ⟨w.heap.size, 0, rfl, Nat.le_refl _, by simp, fun i hi => ?_⟩
  have hi' : i < 2 := by simpa using hi
  have hk := blk_two w w.heap.size rfl (.int .i64 4) (.int .i64 4) 3
  rw [Nat.zero_add, hk.cell hi']
  rcases i with _ | _ | i
  · rfl
  · rfl
  · omega
end Go.Proofs.Ytijbngdafgmpaaa
