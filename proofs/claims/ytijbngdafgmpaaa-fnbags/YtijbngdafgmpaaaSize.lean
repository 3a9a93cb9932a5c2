/-
  How much a bag holds (BagSize), how often a row is there (BagTimes), by the program and by the model.
-/
import Derived.Test.YtijbngdafgmpaaaOkC
namespace Go.Proofs.Ytijbngdafgmpaaa
open Go.RowKit

/-- all Times ahead of place k -/
def sumTo (l : List It) : Nat → Int
  | 0 => 0
  | k + 1 => sumTo l k + (at' l k).2
def sizeOfBag (l : List It) : Int := if okBag l = true then min (sumTo l l.length) 1000000 else 0

theorem okAt_item {l : List It} {i : Nat} (h : okAt l i = true) : okItem (at' l i).1 (at' l i).2 = true := by
  unfold okAt at h; simp only [Bool.and_eq_true] at h; exact h.1
theorem okItem_times {r : List Int} {t : Int} (h : okItem r t = true) : 1 ≤ t ∧ t ≤ 1000000 := by
  unfold okItem at h; simp only [Bool.and_eq_true, decide_eq_true_eq] at h; exact h.2
theorem sumTo_bound {l : List It} (h : okBag l = true) (k : Nat) (hk : k ≤ l.length) : 0 ≤ sumTo l k ∧ sumTo l k ≤ k * 1000000 := by
  induction k with
  | zero => simp [sumTo]
  | succ k ih =>
    have := ih (by omega)
    have ht := okItem_times (okAt_item (okBag_at h (k := k) (by omega)))
    simp only [sumTo]
    omega

set_option maxHeartbeats 2000000 in
set_option maxRecDepth 100000 in
theorem bagSize_any (lo hi : Nat) (a : Option Addr) (n cap : Nat) (l : List It) (r : Int) (w : World) (ha : BagIn lo hi w a l) (hh : hi ≤ w.heap.size) (hn : l.length = n) (hm : n ≤ 1048576) (hq : ∀ i, i < n → (at' l i).1.length ≤ 1048576) (hr : r = sizeOfBag l) :
    Calls Try.prog 25 #[.agg #[.slice a n cap]] w fun e w' => e = .returned (.int .i64 r) ∧ Below w.heap.size w w' := by
  have HN : Hid (l.length = n) := hn
  have HA : Hid (BagIn lo hi w a l) := ha
  have HH : Hid (hi ≤ w.heap.size) := hh
  have HR : Hid (r = sizeOfBag l) := hr
  have HQ : Hid (∀ i, i < n → (at' l i).1.length ≤ 1048576) := hq
  obtain ⟨s, HS⟩ : ∃ s : Bool, Hid (s = okBag l) := ⟨_, rfl⟩
  clear ha hh hn hr hq
  go_enter Try.func25, Try.ntmps25
  go_wp2_with fail
  refine (bagOk_any lo hi a n cap l s _ (HA.out.below (below1 w _) HH.out) (by have := HH.out; simp; omega) HN.out hm HQ.out HS.out).mono ?_
  rintro e w1 ⟨rfl, hb1⟩
  have hk := (blk_one w w.heap.size rfl (.slice a n cap) 26).of_block (hb1.block w.heap.size (by simp))
  have c1 : w1.cell? ⟨w.heap.size, 0, none⟩ = some (.slice a n cap) := hk.cell (i := 0) (by omega)
  have HB1 : Hid (Below w.heap.size w w1) := (below1 w _).trans (hb1.mono (by simp))
  clear hk hb1
  rcases Bool.eq_false_or_eq_true s with hs | hs
  · subst hs
    have HO : Hid (okBag l = true) := HS.out.symm
    have h3 : n ≤ 300 := by have := okBag_len HO.out; have := HN.out; omega
    go_wp2
    go_loopw [12, 3] (fun i s wr => ∃ k : Nat, i = .int .i64 k ∧ k ≤ n ∧ (∃ x : Int, s = .int .i64 x ∧ Hid (x = sumTo l k)) ∧ Hid (Below w.heap.size w wr)) (fun i _ _ => n - (intOf i).toNat)
    case atStart => exact ⟨0, rfl, by omega, ⟨0, rfl, rfl⟩, HB1⟩
    case round =>
      obtain ⟨k, rfl, hk, ⟨x, rfl, HX⟩, HL⟩ := hrel
      have hsb := sumTo_bound HO.out k (by rw [HN.out]; exact hk)
      rw [← HX.out] at hsb
      obtain ⟨hx0, hx1⟩ := hsb
      by_cases hlt : k < n
      · have hlt1 : (k : Int) < (n : Int) := by omega
        obtain ⟨b, o, rfl, _, hbh, ra, rc, hc1, _, hc2⟩ := (HA.out.below HL.out HH.out).item (k := k) (by rw [HN.out]; exact hlt)
        obtain ⟨t, HT⟩ : ∃ t : Int, Hid (t = (at' l k).2) := ⟨_, rfl⟩
        obtain ⟨q, HQ1⟩ : ∃ q : Nat, Hid (q = (at' l k).1.length) := ⟨_, rfl⟩
        change wr.cell? _ = some (.slice ra (at' l k).1.length rc) at hc1
        change wr.cell? _ = some (.int .i64 (at' l k).2) at hc2
        rw [← HQ1.out] at hc1
        rw [← HT.out] at hc2
        have ht := okItem_times (okAt_item (okBag_at HO.out (k := k) (by rw [HN.out]; exact hlt)))
        rw [← HT.out] at ht
        obtain ⟨ht0, ht1⟩ := ht
        clear hbh
        go_wp2
        go_roundw
        case rel => exact ⟨k + 1, by go_num, by omega, ⟨x + t, by go_num, by show _ = _; simp only [sumTo]; rw [← HX.out, ← HT.out]⟩, HL.out.trans (below1 _ _ |>.mono HL.out.size)⟩
        case measure => simp [intOf]; omega
      · obtain rfl : k = n := by omega
        have HM : Hid (r = min x 1000000) := by show _ = _; rw [HR.out]; unfold sizeOfBag; rw [if_pos HO.out, HN.out, HX.out]
        go_wp2
        all_goals go_ret
        all_goals refine ⟨?_, HL.out⟩
        all_goals first | (have : r = x := by rw [HM.out]; omega); rw [this]; rfl | (have : r = 1000000 := by rw [HM.out]; omega); rw [this]; rfl
  · subst hs
    go_wp2
    go_ret
    refine ⟨?_, HB1.out⟩
    have : r = 0 := by rw [HR.out]; unfold sizeOfBag; rw [← HS.out]; rfl
    rw [this]; rfl

theorem min_step (s t : Int) (ht : 0 ≤ t) : min (min s 1000000 + t) 1000000 = min (s + t) 1000000 := by omega

set_option maxHeartbeats 2000000 in
set_option maxRecDepth 100000 in
theorem specSize_any (lo hi : Nat) (a : Option Addr) (n cap : Nat) (l : List It) (r : Int) (w : World) (ha : BagIn lo hi w a l) (hh : hi ≤ w.heap.size) (hn : l.length = n) (hm : n ≤ 1048576) (hq : ∀ i, i < n → (at' l i).1.length ≤ 1048576) (hr : r = sizeOfBag l) :
    Calls Try.prog 26 #[.agg #[.slice a n cap]] w fun e w' => e = .returned (.int .i64 r) ∧ Below w.heap.size w w' := by
  have HN : Hid (l.length = n) := hn
  have HA : Hid (BagIn lo hi w a l) := ha
  have HH : Hid (hi ≤ w.heap.size) := hh
  have HR : Hid (r = sizeOfBag l) := hr
  have HQ : Hid (∀ i, i < n → (at' l i).1.length ≤ 1048576) := hq
  obtain ⟨s, HS⟩ : ∃ s : Bool, Hid (s = okBag l) := ⟨_, rfl⟩
  clear ha hh hn hr hq
  go_enter Try.func26, Try.ntmps26
  go_wp2_with fail
  refine (specOk_any lo hi a n cap l s _ (HA.out.below (below1 w _) HH.out) (by have := HH.out; simp; omega) HN.out hm HQ.out HS.out).mono ?_
  rintro e w1 ⟨rfl, hb1⟩
  have hk := (blk_one w w.heap.size rfl (.slice a n cap) 26).of_block (hb1.block w.heap.size (by simp))
  have c1 : w1.cell? ⟨w.heap.size, 0, none⟩ = some (.slice a n cap) := hk.cell (i := 0) (by omega)
  have HB1 : Hid (Below w.heap.size w w1) := (below1 w _).trans (hb1.mono (by simp))
  clear hk hb1
  rcases Bool.eq_false_or_eq_true s with hs | hs
  · subst hs
    have HO : Hid (okBag l = true) := HS.out.symm
    have h3 : n ≤ 300 := by have := okBag_len HO.out; have := HN.out; omega
    go_wp2
    go_loop [4, 3] (fun i s => ∃ k : Nat, i = .int .i64 k ∧ k ≤ n ∧ (∃ x : Int, s = .int .i64 x ∧ Hid (x = min (sumTo l k) 1000000))) (fun i _ => n - (intOf i).toNat)
    case atStart => exact ⟨0, rfl, by omega, ⟨0, rfl, rfl⟩⟩
    case round =>
      obtain ⟨k, rfl, hk, ⟨x, rfl, HX⟩⟩ := hrel
      have hsb := sumTo_bound HO.out k (by rw [HN.out]; exact hk)
      have hx0 : 0 ≤ x := by rw [HX.out]; omega
      have hx1 : x ≤ 1000000 := by rw [HX.out]; omega
      clear hsb
      by_cases hlt : k < n
      · have hlt1 : (k : Int) < (n : Int) := by omega
        obtain ⟨b, o, rfl, _, hbh, ra, rc, hc1, _, hc2⟩ := (HA.out.below HB1.out HH.out).item (k := k) (by rw [HN.out]; exact hlt)
        obtain ⟨t, HT⟩ : ∃ t : Int, Hid (t = (at' l k).2) := ⟨_, rfl⟩
        change w1.cell? _ = some (.int .i64 (at' l k).2) at hc2
        rw [← HT.out] at hc2
        have ht := okItem_times (okAt_item (okBag_at HO.out (k := k) (by rw [HN.out]; exact hlt)))
        rw [← HT.out] at ht
        obtain ⟨ht0, ht1⟩ := ht
        clear hbh hc1
        have HST : Hid (min (sumTo l (k + 1)) 1000000 = min (x + t) 1000000) := by
          show _ = _
          simp only [sumTo]; rw [HX.out, ← HT.out, min_step _ _ (by omega)]
        by_cases hbig : (1000000 : Int) < x + t
        · go_wp2
          go_roundw
          case rel => exact ⟨k + 1, by go_num, by omega, ⟨1000000, rfl, by show _ = _; rw [HST.out]; omega⟩⟩
          case measure => simp [intOf]; omega
        · go_wp2
          go_roundw
          case rel => exact ⟨k + 1, by go_num, by omega, ⟨x + t, by go_num, by show _ = _; rw [HST.out]; omega⟩⟩
          case measure => simp [intOf]; omega
      · obtain rfl : k = n := by omega
        go_wp2
        go_ret
        refine ⟨?_, HB1.out⟩
        have : r = x := by rw [HR.out]; unfold sizeOfBag; rw [if_pos HO.out, HN.out, HX.out]
        rw [this]; rfl
  · subst hs
    go_wp2
    go_ret
    refine ⟨?_, HB1.out⟩
    have : r = 0 := by rw [HR.out]; unfold sizeOfBag; rw [← HS.out]; rfl
    rw [this]; rfl

/-- how often a row is there -/
def timesOf : List It → List Int → Int
  | [], _ => 0
  | x :: xs, q => if x.1 = q then x.2 else timesOf xs q
theorem timesOf_step {l : List It} {k : Nat} (h : k < l.length) (q : List Int) : timesOf (l.drop k) q = if (at' l k).1 = q then (at' l k).2 else timesOf (l.drop (k + 1)) q := by
  have e : at' l k = l[k] := by simp [at', List.getD, h]
  rw [e, List.drop_eq_getElem_cons h]; rfl
theorem timesOf_end {l : List It} {k : Nat} (h : l.length ≤ k) (q : List Int) : timesOf (l.drop k) q = 0 := by rw [List.drop_eq_nil_of_le h]; rfl

set_option maxHeartbeats 2000000 in
set_option maxRecDepth 100000 in
theorem bagTimes_any (lo hi lo' hi' : Nat) (a a' : Option Addr) (n cap n' cap' : Nat) (l : List It) (q : List Int) (r : Int) (w : World) (ha : BagIn lo hi w a l) (hb : RowIn lo' hi' w a' q) (hh : hi ≤ w.heap.size) (hh' : hi' ≤ w.heap.size) (hn : l.length = n) (hn' : q.length = n') (hm : n ≤ 1048576) (hq : ∀ i, i < n → (at' l i).1.length ≤ 1048576) (hr : r = timesOf l q) :
    Calls Try.prog 21 #[.agg #[.slice a n cap], .slice a' n' cap'] w fun e w' => e = .returned (.int .i64 r) ∧ Below w.heap.size w w' := by
  have HN : Hid (l.length = n) := hn
  have HN' : Hid (q.length = n') := hn'
  have HA : Hid (BagIn lo hi w a l) := ha
  have HB : Hid (RowIn lo' hi' w a' q) := hb
  have HH : Hid (hi ≤ w.heap.size ∧ hi' ≤ w.heap.size) := ⟨hh, hh'⟩
  have HR : Hid (r = timesOf l q) := hr
  have HQ : Hid (∀ i, i < n → (at' l i).1.length ≤ 1048576) := hq
  clear ha hb hh hh' hn hn' hr hq
  go_enter Try.func21, Try.ntmps21
  go_wp2
  go_loopw [10] (fun i wr => ∃ k : Nat, i = .int .i64 k ∧ k ≤ n ∧ Hid (timesOf l q = timesOf (l.drop k) q) ∧ Hid (Below w.heap.size w wr)) (fun i _ => n - (intOf i).toNat)
  case atStart => exact ⟨0, rfl, by omega, rfl, below1 _ _⟩
  case round =>
    obtain ⟨k, rfl, hk, HE, HL⟩ := hrel
    by_cases hlt : k < n
    · have hlt1 : (k : Int) < (n : Int) := by omega
      obtain ⟨b, o, rfl, _, hbh, ra, rc, hc1, hrow, hc2⟩ := (HA.out.below HL.out HH.out.1).item (k := k) (by rw [HN.out]; exact hlt)
      have HROW : Hid (RowIn lo hi wr ra (at' l k).1) := hrow
      obtain ⟨t, HT⟩ : ∃ t : Int, Hid (t = (at' l k).2) := ⟨_, rfl⟩
      obtain ⟨x, HX⟩ : ∃ q : Nat, Hid (q = (at' l k).1.length) := ⟨_, rfl⟩
      change wr.cell? _ = some (.slice ra (at' l k).1.length rc) at hc1
      change wr.cell? _ = some (.int .i64 (at' l k).2) at hc2
      rw [← HX.out] at hc1
      rw [← HT.out] at hc2
      have hx : x ≤ 1048576 := by rw [HX.out]; exact HQ.out k hlt
      clear hbh hrow
      obtain ⟨s, HS⟩ : ∃ s : Bool, Hid (s = decide ((at' l k).1 = q)) := ⟨_, rfl⟩
      go_wp2_with fail
      refine (equalInts_any lo hi lo' hi' ra a' x n' rc cap' (at' l k).1 q s _ (HROW.out.below (below1 wr _) (by have := HH.out.1; have := HL.out.size; omega)) ((HB.out.below HL.out HH.out.2).below (below1 wr _) (by have := HH.out.2; have := HL.out.size; omega)) HX.out.symm HN'.out hx HS.out).mono ?_
      rintro e w1 ⟨rfl, hb1⟩
      have hk4 := (blk_two wr wr.heap.size rfl (.slice ra x rc) (.int .i64 t) 35).of_block (hb1.block wr.heap.size (by simp))
      have hx5 : w1.cell? ⟨wr.heap.size, 1, none⟩ = some (.int .i64 t) := hk4.cell (i := 1) (by omega)
      have HB1 : Hid (Below w.heap.size w w1) := HL.out.trans (((below1 wr _).trans (hb1.mono (by simp))).mono HL.out.size)
      have HST : Hid (timesOf l q = if s = true then t else timesOf (l.drop (k + 1)) q) := by
        show _ = _
        rw [HE.out, timesOf_step (by rw [HN.out]; exact hlt), HS.out, HT.out]; simp
      clear hk4 hb1
      rcases Bool.eq_false_or_eq_true s with hs | hs
      · subst hs
        go_wp2
        go_ret
        refine ⟨?_, HB1.out⟩
        have : r = t := by rw [HR.out, HST.out]; rfl
        rw [this]; rfl
      · subst hs
        go_wp2
        go_roundw
        case rel => exact ⟨k + 1, by go_num, by omega, by show _ = _; rw [HST.out]; rfl, HB1⟩
        case measure => simp [intOf]; omega
    · go_wp2
      go_ret
      refine ⟨?_, HL.out⟩
      have : r = 0 := by rw [HR.out, HE.out, timesOf_end (by rw [HN.out]; omega)]
      rw [this]; rfl

set_option maxHeartbeats 2000000 in
set_option maxRecDepth 100000 in
theorem specTimes_any (lo hi lo' hi' : Nat) (a a' : Option Addr) (n cap n' cap' : Nat) (l : List It) (q : List Int) (r : Int) (w : World) (ha : BagIn lo hi w a l) (hb : RowIn lo' hi' w a' q) (hh : hi ≤ w.heap.size) (hh' : hi' ≤ w.heap.size) (hn : l.length = n) (hn' : q.length = n') (hm : n ≤ 1048576) (hq : ∀ i, i < n → (at' l i).1.length ≤ 1048576) (hr : r = timesOf l q) :
    Calls Try.prog 24 #[.agg #[.slice a n cap], .slice a' n' cap'] w fun e w' => e = .returned (.int .i64 r) ∧ Below w.heap.size w w' := by
  have HN : Hid (l.length = n) := hn
  have HN' : Hid (q.length = n') := hn'
  have HA : Hid (BagIn lo hi w a l) := ha
  have HB : Hid (RowIn lo' hi' w a' q) := hb
  have HH : Hid (hi ≤ w.heap.size ∧ hi' ≤ w.heap.size) := ⟨hh, hh'⟩
  have HR : Hid (r = timesOf l q) := hr
  have HQ : Hid (∀ i, i < n → (at' l i).1.length ≤ 1048576) := hq
  clear ha hb hh hh' hn hn' hr hq
  go_enter Try.func24, Try.ntmps24
  go_wp2
  go_loopw [5] (fun i wr => ∃ k : Nat, i = .int .i64 k ∧ k ≤ n ∧ Hid (timesOf l q = timesOf (l.drop k) q) ∧ Hid (Below w.heap.size w wr) ∧ Hid (Blk wr w.heap.size 1 (fun _ => .slice a n cap))) (fun i _ => n - (intOf i).toNat)
  case atStart => exact ⟨0, rfl, by omega, rfl, below1 _ _, blk_one w _ rfl _ _⟩
  case round =>
    obtain ⟨k, rfl, hk, HE, HL, HK⟩ := hrel
    have c1 := HK.out.cell (i := 0) (by omega)
    by_cases hlt : k < n
    · have hlt1 : (k : Int) < (n : Int) := by omega
      obtain ⟨b, o, rfl, _, hbh, ra, rc, hc1, hrow, hc2⟩ := (HA.out.below HL.out HH.out.1).item (k := k) (by rw [HN.out]; exact hlt)
      have HROW : Hid (RowIn lo hi wr ra (at' l k).1) := hrow
      obtain ⟨t, HT⟩ : ∃ t : Int, Hid (t = (at' l k).2) := ⟨_, rfl⟩
      obtain ⟨x, HX⟩ : ∃ q : Nat, Hid (q = (at' l k).1.length) := ⟨_, rfl⟩
      change wr.cell? _ = some (.slice ra (at' l k).1.length rc) at hc1
      change wr.cell? _ = some (.int .i64 (at' l k).2) at hc2
      rw [← HX.out] at hc1
      rw [← HT.out] at hc2
      have hx : x ≤ 1048576 := by rw [HX.out]; exact HQ.out k hlt
      clear hbh hrow
      obtain ⟨s, HS⟩ : ∃ s : Bool, Hid (s = decide ((at' l k).1 = q)) := ⟨_, rfl⟩
      go_wp2_with fail
      refine (l03Same_any lo hi lo' hi' ra a' x n' rc cap' (at' l k).1 q s wr HROW.out (HB.out.below HL.out HH.out.2) HX.out.symm HN'.out hx HS.out).mono ?_
      rintro e w1 ⟨rfl, hb1⟩
      have c2 := cell_below c1 hb1 HK.out.lt
      have hd := cell_below hc2 hb1 (lt_of_cell hc1)
      have HB1 : Hid (Below w.heap.size w w1) := HL.out.trans (hb1.mono HL.out.size)
      have HK1 : Hid (Blk w1 w.heap.size 1 (fun _ => .slice (some ⟨b, o, none⟩) n cap)) := HK.out.of_block (hb1.block _ HK.out.lt)
      have HST : Hid (timesOf l q = if s = true then t else timesOf (l.drop (k + 1)) q) := by
        show _ = _
        rw [HE.out, timesOf_step (by rw [HN.out]; exact hlt), HS.out, HT.out]; simp
      clear hb1 c1 hc1 hc2
      rcases Bool.eq_false_or_eq_true s with hs | hs
      · subst hs
        go_wp2
        go_ret
        refine ⟨?_, HB1.out⟩
        have : r = t := by rw [HR.out, HST.out]; rfl
        rw [this]; rfl
      · subst hs
        go_wp2
        go_roundw
        case rel => exact ⟨k + 1, by go_num, by omega, by show _ = _; rw [HST.out]; rfl, HB1, HK1⟩
        case measure => simp [intOf]; omega
    · go_wp2
      go_ret
      refine ⟨?_, HL.out⟩
      have : r = 0 := by rw [HR.out, HE.out, timesOf_end (by rw [HN.out]; omega)]
      rw [this]; rfl
end Go.Proofs.Ytijbngdafgmpaaa
