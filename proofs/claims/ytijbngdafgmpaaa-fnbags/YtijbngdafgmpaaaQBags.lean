import Derived.Test.YtijbngdafgmpaaaTldW
import Derived.Test.YtijbngdafgmpaaaOkB
import Derived.Test.YtijbngdafgmpaaaDRow
import Derived.Test.YtijbngdafgmpaaaDBags
import Derived.Deep.RegionHeld3
import Derived.WalkKit
import Derived.ProofKit
import Derived.OpenShut
import Derived.ShutString
import Derived.ChangeOld
import Derived.Below
/-
  impl.BagAdd.
-/
namespace Go.Proofs.Ytijbngdafgmpaaa
open Go.RowKit Go.Maps

/-- a row can be added -/
def addOk (l : List It) (r : List Int) (t : Int) : Bool := okBag l && ((decide (1 ≤ t) && decide (t ≤ 1000000)) && okBag (putL r t l))
/-- a bag with a row added, or as it was -/
def addL (l : List It) (r : List Int) (t : Int) : List It := if addOk l r t = true then putL r t l else l
theorem fits_add {W : Nat} {l : List It} {r : List Int} {t : Int} (h : Good W l) : fits W l r t = addOk l r t := by
  unfold addOk
  rw [h.ok]
  by_cases ht : 1 ≤ t ∧ t ≤ 1000000
  · rw [fits_iff h (.inr ht)]; simp [ht.1, ht.2]
  · have h1 : okItem r t = false := by
      rcases hv : okItem r t with _ | _
      · rfl
      · exact absurd (okItem_split.1 hv).2 ht
    have h2 : (decide (1 ≤ t) && decide (t ≤ 1000000)) = false := by
      rcases hv : (decide (1 ≤ t) && decide (t ≤ 1000000)) with _ | _
      · rfl
      · simp at hv; exact absurd hv ht
    unfold fits; rw [h1, h2]; simp

set_option maxHeartbeats 2000000 in
set_option maxRecDepth 100000 in
theorem bagAdd_any (lo hi lo' hi' : Nat) (a ra : Option Addr) (n cap q rc : Nat) (l : List It) (r : List Int) (t : Int) (w : World) (ha : BagIn lo hi w a l) (hr : RowIn lo' hi' w ra r) (hh : hi ≤ w.heap.size) (hh' : hi' ≤ w.heap.size) (hn : l.length = n) (hq : r.length = q) (hm : n ≤ 1048576) (hm' : q ≤ 1048576) (hl : ∀ i, i < n → (at' l i).1.length ≤ 1048576) :
    Calls Try.prog 19 #[.agg #[.slice a n cap], .slice ra q rc, .int .i64 t] w fun e w' => ∃ (a' : Option Addr) (n' cap' : Nat) (ok : Bool), e = .returned (.tuple #[.agg #[.slice a' n' cap'], .bool ok]) ∧ Hid (ok = addOk l r t) ∧ Hid ((addL l r t).length = n') ∧ Hid (BagOwn w.heap.size w'.heap.size w' a' (addL l r t)) ∧ Hid (Below w.heap.size w w') := by
  have HA : Hid (BagIn lo hi w a l) := ha
  have HR : Hid (RowIn lo' hi' w ra r) := hr
  have HH : Hid (hi ≤ w.heap.size) := hh
  have HH' : Hid (hi' ≤ w.heap.size) := hh'
  have HN : Hid (l.length = n) := hn
  have HQ : Hid (r.length = q) := hq
  have HL : Hid (∀ i, i < n → (at' l i).1.length ≤ 1048576) := hl
  obtain ⟨B, HB⟩ : ∃ B, Hid (B = w.heap.size) := ⟨_, rfl⟩
  obtain ⟨s, HSB⟩ : ∃ s : Bool, Hid (s = okBag l) := ⟨_, rfl⟩
  clear ha hr hh hh' hn hq hl
  go_enter Try.func19, Try.ntmps19
  go_wp2_with fail
  refine (bagOk_any lo hi a n cap l s _ (HA.out.below (below2 w _ _) HH.out) (by have := HH.out; simp; omega) HN.out hm HL.out HSB.out).mono ?_
  rintro e w1 ⟨rfl, hb1⟩
  have HB1 : Hid (Below w.heap.size w w1) := (below2 w _ _).trans (hb1.mono (by simp; omega))
  have HK0 : Hid (Blk w1 B 1 (fun _ => .slice a n cap)) := ((blk_one w B HB.out _ _).alloc _).of_block (hb1.block _ (by rw [HB.out]; simp; omega))
  have HK1 : Hid (Blk w1 (B + 1) 1 (fun _ => .slice none 0 0)) := (blk_one _ (B + 1) (by rw [HB.out]; simp) _ _).of_block (hb1.block _ (by rw [HB.out]; simp))
  have hs1 : B + 1 + 1 ≤ w1.heap.size := by have := hb1.size; simp at this; rw [HB.out]; omega
  clear hb1
  rw [← HB.out]
  have c0 := HK0.out.cell (i := 0) (by omega)
  rcases Bool.eq_false_or_eq_true s with hs | hs
  · subst hs
    have HO : Hid (okBag l = true) := HSB.out.symm
    go_wp2_with fail
    refine (shelfOf_any lo hi a n cap l _ (HA.out.below HB1.out HH.out) (Nat.le_trans HH.out HB1.out.size) HN.out HO.out).mono ?_
    rintro e w2 ⟨mb, W, rfl, H2⟩
    have H2' : Hid (OwnM mb l w2 ∧ Good W l ∧ w1.heap.size ≤ mb ∧ Below w1.heap.size w1 w2) := H2.out
    clear H2
    have HS3 : Hid (ShelfAt w2.heap.size mb W l (w2.alloc (.cells #[.int .i64 (W : Nat), .map (some mb)] 69))) :=
      ⟨blk_two _ _ rfl _ _ _, H2'.out.1.block (Below.heap_alloc _ _ _ H2'.out.1.lt), by have := H2'.out.1.lt; omega⟩
    have HB2 : Hid (Below w.heap.size w (w2.alloc (.cells #[.int .i64 (W : Nat), .map (some mb)] 69))) := (HB1.out.trans (H2'.out.2.2.2.mono HB1.out.size)).trans ((below1' w2 _).mono (Nat.le_trans HB1.out.size H2'.out.2.2.2.size))
    have hs2 : w1.heap.size ≤ w2.heap.size := H2'.out.2.2.2.size
    go_wp2_with fail
    refine (put_any lo' hi' w2.heap.size mb W ra q rc r t l _ (HR.out.below HB2.out HH'.out) (Nat.le_trans HH'.out HB2.out.size) HQ.out hm' HS3.out H2'.out.2.1 (fun k h1 h2 => by have := HH'.out; have := H2'.out.2.2.1; have := HB.out; omega)).mono ?_
    rintro e w4 ⟨ok, rfl, HF, HS4, HK4⟩
    have HG4 : Hid (Good (wideOf W l r) (if ok = true then putL r t l else l)) := by
      rcases Bool.eq_false_or_eq_true ok with h | h
      · subst h; rw [if_pos rfl]; exact H2'.out.2.1.put HF.out.symm
      · subst h; rw [if_neg (by simp)]; exact H2'.out.2.1.still r
    obtain ⟨V, HV⟩ : ∃ V, Hid (V = wideOf W l r) := ⟨_, rfl⟩
    obtain ⟨L, HLL⟩ : ∃ L, Hid (L = if ok = true then putL r t l else l) := ⟨_, rfl⟩
    rw [← HV.out, ← HLL.out] at HS4 HG4
    go_wp2_with fail
    refine (told_any w2.heap.size mb V L w4 HS4.out HG4.out).mono ?_
    rintro e w5 ⟨a5, cap5, rfl, HO5, HB5⟩
    have HOK : Hid (ok = addOk l r t) := by rw [HF.out]; exact fits_add H2'.out.2.1
    have HLE : Hid (L = addL l r t) := by rw [HLL.out]; unfold addL; rw [← HOK.out]; rfl
    have hs4 : w2.heap.size ≤ w4.heap.size := by have := HK4.out.size; simp at this; omega
    have hB4 : Below w1.heap.size w1 w4 := (H2'.out.2.2.2.trans ((below1' w2 _).mono hs2)).trans (HK4.out.to_below (by simp; omega) (fun k hk => by have := H2'.out.2.2.1; omega))
    have HB5' : Hid (Below w1.heap.size w1 w5) := hB4.trans (HB5.out.mono (by omega))
    have HK5 : Hid (Blk w5 (B + 1) 1 (fun _ => .slice none 0 0)) := HK1.out.of_block (HB5'.out.block _ (by omega))
    have r0 := HK5.out.cell (i := 0) (by omega)
    have f0 := HK5.out.frozen 0
    clear c0 hB4 HS4 HG4 HK4 HS3 HB2
    go_wp2
    have z0 := (HK5.out.set 0 (by omega) (.slice a5 L.length cap5)).cell (i := 0) (by omega)
    simp only [if_true] at z0
    refine bodyPost_ret (v := .tuple #[.agg #[.slice a5 L.length cap5], .bool ok]) (by simp [results, Try.results19, go_sem, z0]) rfl ?_
    have hb := HB.out
    refine ⟨a5, L.length, cap5, ok, rfl, HOK.out, by show _ = _; rw [HLE.out], ?_, ?_⟩
    · rw [← HLE.out]
      exact (HO5.out.setCell (by omega) _).wide (by omega) (by simp)
    · exact (HB1.out.trans (HB5'.out.mono HB1.out.size)).setCell (by simp; omega) _
  · subst hs
    go_wp2_with fail
    refine (newBag_any lo hi a n cap l _ (HA.out.below HB1.out HH.out) (Nat.le_trans HH.out HB1.out.size) HN.out hm HL.out).mono ?_
    rintro e w2 ⟨a2, cap2, rfl, HO2, HB2⟩
    have HK2 : Hid (Blk w2 (B + 1) 1 (fun _ => .slice none 0 0)) := HK1.out.of_block (HB2.out.block _ (by omega))
    have r0 := HK2.out.cell (i := 0) (by omega)
    have f0 := HK2.out.frozen 0
    clear c0
    go_wp2
    have z0 := (HK2.out.set 0 (by omega) (.slice a2 n cap2)).cell (i := 0) (by omega)
    simp only [if_true] at z0
    refine bodyPost_ret (v := .tuple #[.agg #[.slice a2 n cap2], .bool false]) (by simp [results, Try.results19, go_sem, z0]) rfl ?_
    have hb := HB.out
    have hno : addOk l r t = false := by unfold addOk; rw [← HSB.out]; rfl
    have hle : addL l r t = l := by unfold addL; rw [hno]; rfl
    refine ⟨a2, n, cap2, false, rfl, hno.symm, by rw [hle]; exact HN.out, ?_, ?_⟩
    · rw [hle]
      exact (HO2.out.setCell (by omega) _).wide (by omega) (by simp)
    · exact (HB1.out.trans (HB2.out.mono HB1.out.size)).setCell (by simp; omega) _
end Go.Proofs.Ytijbngdafgmpaaa

/-
  Twelve drawn numbers: spec.DrawPlaces.
-/
namespace Go.Proofs.Ytijbngdafgmpaaa
open Go.RowKit

set_option maxHeartbeats 1000000 in
set_option maxRecDepth 100000 in
theorem drawPlaces_any (ao : Option Addr) (n cap : Nat) (w : World) (hn : n ≤ 1048576) (hc : CodeIn w ao n) :
    Calls Try.prog 18 #[.slice ao n cap] w fun e w' => ∃ (g cg : Nat) (z0 z1 z2 : Int), e = .returned (.slice (some ⟨g, 0, none⟩) 12 cg) ∧ Hid ((0 ≤ z0 ∧ z0 < 10000) ∧ (0 ≤ z1 ∧ z1 < 10000) ∧ (0 ≤ z2 ∧ z2 < 10000)) ∧ Hid (w'.cell? ⟨g, 0, none⟩ = some (.int .i64 z0) ∧ w'.cell? ⟨g, 1, none⟩ = some (.int .i64 z1) ∧ w'.cell? ⟨g, 2, none⟩ = some (.int .i64 z2)) ∧ Hid (Below w.heap.size w w') := by
  obtain ⟨i0, hi0, hz0, hz1, hz2⟩ := info_parts Try.info3
  have HC : Hid (CodeIn w ao n) := hc
  clear hc
  go_enter Try.func18, Try.ntmps18
  go_wp2_with fail
  refine (new_any w ao n cap hn HC.out).mono ?_
  rintro e w1 ⟨rfl, hc1, hb1⟩
  obtain ⟨p, HP⟩ : ∃ p, Hid (p = w.heap.size) := ⟨_, rfl⟩
  rw [← HP.out] at hc1
  have HB1 : Hid (Below p w w1) := by rw [HP.out]; exact hb1
  have HC1 : Hid (Cur p ao n cap w1) := hc1
  rw [← HP.out]
  clear hc1 hb1
  go_wp2_with fail
  refine (byte_cur w1 p n cap ao HC1.out).mono ?_
  rintro e w2 ⟨x, rfl, _, _, hc2, hk2⟩
  have HC2 : Hid (CurL p ao n cap w2) := ⟨hc2, by rw [HP.out]; exact cur_start HC.out⟩
  have HPW : Hid (p < w2.heap.size) := by obtain ⟨i, h, hcc⟩ := hc2; exact hcc.lt
  have HB2 : Hid (Below p w w2) := HB1.out.trans (hk2.to_below (Nat.le_refl _) (by have := HB1.out.size; rw [HP.out]; exact this))
  clear hc2 hk2
  go_wp2
  go_loopw [4, 5] (fun v i wr => ∃ (j : Nat) (r : List Int), i = .int .i64 j ∧ j ≤ 12 ∧ Hid (wr.ownsRow w2.heap.size 3 1 v j (rowCells r)) ∧ Hid (r.length = j ∧ ∀ y ∈ r, 0 ≤ y ∧ y < 10000) ∧ Hid (CurL p ao n cap wr) ∧ Hid (Below p w wr) ∧ Hid (w2.heap.size ≤ wr.heap.size)) (fun _ i _ => 12 - (intOf i).toNat)
  case atStart => exact ⟨0, [], rfl, by omega, World.ownsRow_made w2 #[] 0 (Nat.le_refl _) (Nat.zero_le _) rfl, ⟨rfl, fun y hy => by simp at hy⟩, HC2.out.below ((Below.refl w2.heap.size w2).alloc (Nat.le_refl _) _) HPW.out, HB2.out.alloc (Nat.le_of_lt HPW.out) _, by show _ ≤ _; simp⟩
  case round =>
    obtain ⟨j, r, rfl, hj, HOW, HRL, HCU, HBL, HSZ⟩ := hrel
    by_cases hlt : j < 12
    · have hlt1 : (j : Int) < 12 := by omega
      go_wp2_with fail
      refine (HCU.out.draw 10000 (by omega) (by omega)).mono ?_
      rintro e w3 ⟨y, rfl, hy0, hy1, HC3, HK3⟩
      have HOW3 : Hid (w3.ownsRow w2.heap.size 3 1 _ j (rowCells r)) := HK3.out.owns HOW.out HPW.out
      have HB3 : Hid (Below p w w3) := HBL.out.trans (HK3.out.to_below (Nat.le_refl _) (by have := HPW.out; have := HSZ.out; omega))
      have HS3 : Hid (w2.heap.size ≤ w3.heap.size) := Nat.le_trans HSZ.out HK3.out.size
      have hown3 := HOW3.out
      clear HK3 HOW HCU HBL HSZ
      go_wp2_with (at_builtin; refine wpList_append_lies _ rfl (.tmp 15) (.tmp 18) 29 rfl w2.heap.size 3 i0 (.int .i64 0) 1 8 Try.underlying29 hi0 hz0 hz1 hz2 rfl (by decide) _ j (rowCells r) rfl (hown3.alloc _) ⟨w3.heap.size, 0, none⟩ 1 1 [.int .i64 y] rfl rfl (cell_one_new _ _ _) (by simp [Value.oneCell']) (by decide) (by unfold maxLen; omega) (by omega) (by have := HS3.out; simp; omega) _ rfl ?_; intro g5 cap5 w5 hown5 hgrow5 hloc5 _)
      go_roundw
      case rel =>
        have hs3 := HS3.out
        have hb5 : Below w2.heap.size w3 w5 := (((Below.refl _ _).alloc hs3 _)).grown hgrow5 (by simp; omega) (fun q hq => (HOW3.out.lt q hq).1)
        refine ⟨j + 1, r ++ [y], by go_num, by omega, row_snoc hown5, ⟨by rw [List.length_append, HRL.out.1]; rfl, fun z hz => ?_⟩, HC3.out.below hb5 HPW.out, HB3.out.trans (hb5.mono (Nat.le_of_lt HPW.out)), Nat.le_trans hs3 hb5.size⟩
        rcases List.mem_append.1 hz with hz | hz
        · exact HRL.out.2 z hz
        · have : z = y := by simpa using hz
          omega
      case measure => simp [intOf]; omega
    · obtain rfl : j = 12 := by omega
      obtain ⟨ra, rc, rfl, hro⟩ := rowOwn_of HOW.out HRL.out.1
      go_wp2
      go_ret
      have hl := HRL.out.1
      rcases hro with h | ⟨b, rfl, _, _, hb⟩
      · rw [h] at hl; simp at hl
      · have v : ∀ i, i < 12 → 0 ≤ r.getD i 0 ∧ r.getD i 0 < 10000 := fun i hi => by
          have e : r.getD i 0 = r[i] := by simp [List.getD, show i < r.length by omega]
          rw [e]; exact HRL.out.2 _ (List.getElem_mem _)
        refine ⟨b, rc, r.getD 0 0, r.getD 1 0, r.getD 2 0, rfl, ⟨v 0 (by omega), v 1 (by omega), v 2 (by omega)⟩, ⟨hb.cell (by omega), hb.cell (by omega), hb.cell (by omega)⟩, ?_⟩
        rw [← HP.out]; exact HBL.out
end Go.Proofs.Ytijbngdafgmpaaa

/-
  Bags added to.
-/
namespace Go.Proofs.Ytijbngdafgmpaaa
open Go.RowKit

theorem oks_nonneg' {l : List It} (h : Oks l) : ∀ x ∈ l, 0 ≤ x.2 := fun x hx => by have := (okItem_split.1 (h x hx)).2; omega
theorem size_sm' {l : List It} (h : okBag l = true) (hs : sm l ≤ 1000000) : sizeOfBag l = sm l := by
  unfold sizeOfBag; rw [if_pos h, sumTo_all]; omega
theorem times_le_sm {l : List It} (h : ∀ x ∈ l, 0 ≤ x.2) (q : List Int) : timesOf l q ≤ sm l := by
  induction l with
  | nil => simp [timesOf, sm]
  | cons x xs ih =>
    have h1 : ∀ y ∈ xs, 0 ≤ y.2 := fun y hy => h y (List.mem_cons_of_mem _ hy)
    have h2 := sm_nonneg h1
    have h3 := ih h1
    have h4 := h x (List.mem_cons_self ..)
    have e : sm (x :: xs) = x.2 + sm xs := by simp [sm]
    rw [e]
    simp only [timesOf]
    split <;> omega
/-- what the law asks of a drawn bag and a drawn row -/
structure Fb (A D : List It) (r : List Int) (t : Int) : Prop where
  ga : Good 2 A
  gd : Good 2 D
  ok : addOk A r t = true
  add : addL A r t = D
  other : ∀ x ∈ A, x.1 ≠ r → timesOf D x.1 = x.2
  same : timesOf D r = timesOf A r + t
  tb : 0 ≤ timesOf A r ∧ timesOf A r ≤ 21
  size : sizeOfBag D = sizeOfBag A + t
  sb : 0 ≤ sizeOfBag A ∧ sizeOfBag A ≤ 21
theorem fb_of {A : List It} {r : List Int} {t : Int} (ha : Drn 2 7 A) (hr : r.length = 2) (hn : ∀ x ∈ r, 0 ≤ x ∧ x ≤ 99) (ht : 1 ≤ t ∧ t ≤ 9) : ∃ D, Fb A D r t := by
  have hi : okItem r t = true := by
    refine okItem_split.2 ⟨?_, ht.1, by omega⟩
    unfold okRow okNums
    simp only [Bool.and_eq_true, List.all_eq_true, decide_eq_true_eq]
    exact ⟨fun x hx => hn x hx, by omega⟩
  have gd : Good 2 (putL r t A) := ⟨by have := putL_len_le (r := r) (t := t) (l := A); have := ha.len; omega, putL_oks ha.good.oks hi, putL_even ha.good.even hr, putL_srt ha.good.srt⟩
  have hok : addOk A r t = true := by
    unfold addOk; rw [ha.good.ok, gd.ok]
    simp [ht.1, show t ≤ 1000000 by omega]
  have h0 := oks_nonneg' ha.good.oks
  have hs := ha.sum
  have hn0 := sm_nonneg h0
  have hts := times_le_sm h0 r
  have hto := (oks_times ha.good.oks r).1
  have e : sm (putL r t A) = sm A + t := sm_put fun x hx => by have := mem_le_sm h0 hx; omega
  refine ⟨putL r t A, ha.good, gd, hok, by unfold addL; rw [hok]; rfl, fun x hx hne => by rw [putL_other hne]; exact timesOf_mem ha.good.srt hx, ?_, ⟨hto, by omega⟩, ?_, ?_⟩
  · rw [putL_same' ha.good.srt (by omega)]; omega
  · rw [size_sm' gd.ok (by omega), size_sm' ha.good.ok (by omega), e]
  · rw [size_sm' ha.good.ok (by omega)]; omega
theorem good_b' {W : Nat} {l : List It} {n : Nat} (h : Good W l) (hn : l.length = n) : n ≤ 1048576 ∧ ∀ i, i < n → (at' l i).1.length ≤ 1048576 :=
  ⟨by have := h.len; omega, fun i hi => by have := ok_rows h.ok (i := i) (by omega); omega⟩
theorem row2 (w : World) (b : Nat) (hb : b = w.heap.size) (x y : Int) : RowIn b (w.alloc (.cells #[.int .i64 x, .int .i64 y] 3)).heap.size (w.alloc (.cells #[.int .i64 x, .int .i64 y] 3)) (some ⟨b, 0, none⟩) [x, y] := by
  subst hb
  refine .inr ⟨w.heap.size, 0, rfl, Nat.le_refl _, by simp, fun i hi => ?_⟩
  have hi' : i < 2 := by simpa using hi
  have hk := blk_two w w.heap.size rfl (.int .i64 x) (.int .i64 y) 3
  rw [Nat.zero_add, hk.cell hi']
  rcases i with _ | _ | i
  · rfl
  · rfl
  · omega

end Go.Proofs.Ytijbngdafgmpaaa

/-
  The walk of FnBags.
-/
namespace Go.Proofs.Ytijbngdafgmpaaa
open Go.RowKit

set_option maxHeartbeats 16000000 in
set_option maxRecDepth 100000 in
theorem law_3 (a0 : Option Addr) (n0 cap0 : Nat) (w : World) (hc0 : CodeIn w a0 n0) :
    Calls Try.prog 3 #[.slice a0 n0 cap0] w fun e w' => e = .returned (.bool true) ∧ Below w.heap.size w w' := by
  by_cases hbig : (1048576 : Int) < (n0 : Int)
  · go_enter Try.func3, Try.ntmps3
    go_wp2_with fail
    refine (big_yes a0 n0 cap0 w hbig).mono ?_
    rintro e w1 ⟨rfl, rfl⟩
    go_wp2
    go_ret
    exact ⟨rfl, Below.refl _ _⟩
  · have HCD : Hid (CodeIn w a0 n0) := hc0
    clear hc0
    go_enter Try.func3, Try.ntmps3
    go_wp2_with fail
    refine (big_no a0 n0 cap0 w (by omega)).mono ?_
    rintro e w1 ⟨rfl, rfl⟩
    go_wp2_with fail
    refine (drawBags_any a0 n0 cap0 w (by omega) HCD.out).mono ?_
    rintro e w2 ⟨a, na, ca, A, d, nd, cd, Dx, rfl, HR, XA, XD, HB2⟩
    have HDA : Hid (Drn 2 7 A) := HR.out.2.1
    have HNA : Hid (A.length = na) := HR.out.1
    clear HR XD
    have HD3 : Hid (Held w ((w2.alloc (.cells #[.slice a na ca] 26)).alloc (.cells #[.slice d nd cd] 26)) [(w2.heap.size + 1, .slice d nd cd), (w2.heap.size, .slice a na ca)]) := by
      have h0 : Held w w2 [] := ⟨HB2.out, fun x hx => by simp at hx⟩
      have h := (h0.more (.slice a na ca) 26).more (.slice d nd cd) 26
      simp only [World.size_alloc] at h
      exact h
    have XA3 : Hid (BagIn w.heap.size w2.heap.size ((w2.alloc (.cells #[.slice a na ca] 26)).alloc (.cells #[.slice d nd cd] 26)) a A) := XA.out.below (below2 w2 _ _) (Nat.le_refl _)
    have S3 : Hid (w2.heap.size ≤ ((w2.alloc (.cells #[.slice a na ca] 26)).alloc (.cells #[.slice d nd cd] 26)).heap.size) := by show _ ≤ _; simp; omega
    go_wp2_with fail
    refine (drawPlaces_any a0 n0 cap0 _ (by omega) (HCD.out.below (by have := HD3.out.bel; exact this))).mono ?_
    rintro e w4 ⟨g, cg, z0, z1, z2, rfl, HZ, HCE, HB4⟩
    have HD4 : Hid (Held w w4 [(w2.heap.size + 1, .slice d nd cd), (w2.heap.size, .slice a na ca)]) := HD3.out.below HB4.out
    have XA4 : Hid (BagIn w.heap.size w2.heap.size w4 a A) := XA3.out.below HB4.out S3.out
    have S4 : Hid (w2.heap.size + 1 < w4.heap.size) := HD4.out.lt (List.mem_cons_self ..)
    obtain ⟨r0, hr0⟩ : ∃ r, z0.tmod 5 = r := ⟨_, rfl⟩
    obtain ⟨r1, hr1⟩ : ∃ r, z1.tmod 5 = r := ⟨_, rfl⟩
    obtain ⟨t, ht⟩ : ∃ r, z2.tmod 9 = r := ⟨_, rfl⟩
    have hb0 : 0 ≤ r0 ∧ r0 ≤ 4 := by rw [← hr0, Int.tmod_eq_emod_of_nonneg HZ.out.1.1]; omega
    have hb1 : 0 ≤ r1 ∧ r1 ≤ 4 := by rw [← hr1, Int.tmod_eq_emod_of_nonneg HZ.out.2.1.1]; omega
    have hbt : 0 ≤ t ∧ t ≤ 8 := by rw [← ht, Int.tmod_eq_emod_of_nonneg HZ.out.2.2.1]; omega
    obtain ⟨D, hfb⟩ := fb_of (r := [r0, r1]) (t := 1 + t) HDA.out rfl (by intro x hx; simp at hx; rcases hx with rfl | rfl <;> omega) (by omega)
    have HF : Hid (Fb A D [r0, r1] (1 + t)) := hfb
    have e0 := HCE.out.1
    have e1 := HCE.out.2.1
    have e2 := HCE.out.2.2
    clear hfb HD3 XA3 S3 HB4 XA
    go_wp2_with fail
    go_region_held3 (fun w' => w'.cell? ⟨g, 0, none⟩ = some (.int .i64 z0) ∧ w'.cell? ⟨g, 1, none⟩ = some (.int .i64 z1)) (first | exact ⟨e0, e1⟩ | exact ⟨cell_below e0 ((Below.refl _ _).drew.alloc (Nat.le_refl _) _) (lt_of_cell e0), cell_below e1 ((Below.refl _ _).drew.alloc (Nat.le_refl _) _) (lt_of_cell e1)⟩) (fail)
    obtain ⟨w5, HW5⟩ : ∃ w5, Hid (w5 = (w4.alloc (.cells #[.int .i64 r0, .int .i64 r1] 3)).drew) := ⟨_, rfl⟩
    rw [← HW5.out]
    have HB45 : Hid (Below w4.heap.size w4 w5) := by rw [HW5.out]; exact (below1' w4 _).drew
    have HRW5 : Hid (RowIn w4.heap.size w5.heap.size w5 (some ⟨w4.heap.size, 0, none⟩) [r0, r1]) := by rw [HW5.out]; exact row2 w4 _ rfl r0 r1
    have HD5 : Hid (Held w w5 [(w2.heap.size + 1, .slice d nd cd), (w2.heap.size, .slice a na ca)]) := HD4.out.below HB45.out
    have XA5 : Hid (BagIn w.heap.size w2.heap.size w5 a A) := XA4.out.below HB45.out (by have := S4.out; omega)
    have S5 : Hid (w2.heap.size + 1 < w4.heap.size ∧ w4.heap.size < w5.heap.size ∧ w.heap.size ≤ w2.heap.size) := ⟨S4.out, by rw [HW5.out]; show _ < (w4.alloc _).heap.size; simp, HB2.out.size⟩
    have g2 : w5.cell? ⟨g, 2, none⟩ = some (.int .i64 z2) := cell_below e2 HB45.out (lt_of_cell e2)
    have a5 := HD5.out.cell (b := w2.heap.size) (v := .slice a na ca) (by simp)
    have hwt : IntKind.i64.wrap (1 + t) = 1 + t := by simp [IntKind.wrap, IntKind.bits, IntKind.signed]; omega
    clear e0 e1 e2 HD4 XA4 HCE
    go_wp2_with fail
    refine (bagAdd_any w.heap.size w2.heap.size w4.heap.size w5.heap.size a (some ⟨w4.heap.size, 0, none⟩) na ca 2 2 A [r0, r1] (1 + t) w5 XA5.out HRW5.out (by have := S5.out; omega) (Nat.le_refl _) HNA.out rfl (good_b' HF.out.ga HNA.out).1 (by omega) (good_b' HF.out.ga HNA.out).2).mono ?_
    rintro e w6 ⟨b, nb, cb, ok, rfl, HOK, HNB, XB6, HB6⟩
    obtain rfl : ok = true := by rw [HOK.out]; exact HF.out.ok
    rw [HF.out.add] at HNB XB6
    obtain ⟨w7, HW7⟩ : ∃ w7, Hid (w7 = w6.alloc (.cells #[.slice b nb cb] 26)) := ⟨_, rfl⟩
    have B57 : Hid (Below w5.heap.size w5 w7) := by rw [HW7.out]; exact HB6.out.alloc HB6.out.size _
    have HD7 : Hid (Held w w7 [(w6.heap.size, .slice b nb cb), (w2.heap.size + 1, .slice d nd cd), (w2.heap.size, .slice a na ca)]) := by rw [HW7.out]; exact (HD5.out.below HB6.out).more _ _
    have XA7 : Hid (BagIn w.heap.size w2.heap.size w7 a A) := XA5.out.below B57.out (by have := S5.out; omega)
    have HRW7 : Hid (RowIn w4.heap.size w5.heap.size w7 (some ⟨w4.heap.size, 0, none⟩) [r0, r1]) := HRW5.out.below B57.out (Nat.le_refl _)
    have XB7 : Hid (BagIn w5.heap.size w6.heap.size w7 b D) := by rw [HW7.out]; exact XB6.out.toIn.below (below1' w6 _) (Nat.le_refl _)
    have S7 : Hid (w2.heap.size + 1 < w4.heap.size ∧ w4.heap.size < w5.heap.size ∧ w.heap.size ≤ w2.heap.size ∧ w5.heap.size ≤ w6.heap.size ∧ w6.heap.size < w7.heap.size) := ⟨S5.out.1, S5.out.2.1, S5.out.2.2, HB6.out.size, by rw [HW7.out]; simp⟩
    clear g2 a5 XA5 HRW5 HD5 XB6 HB6 S5 S4 HOK
    go_wp2_with fail
    rw [← HW7.out]
    have hna : na ≤ 1048576 := (good_b' HF.out.ga HNA.out).1
    have hnb : nb ≤ 1048576 := (good_b' HF.out.gd HNB.out).1
    go_loopw [10] (fun i wr => ∃ k : Nat, i = .int .i64 k ∧ k ≤ na ∧ Hid (Below w7.heap.size w7 wr)) (fun i _ => na - (intOf i).toNat)
    case atStart => exact ⟨0, rfl, by omega, Below.refl _ _⟩
    case round =>
      obtain ⟨k, rfl, hk, HL⟩ := hrel
      have HDR : Hid (Held w wr [(w6.heap.size, .slice b nb cb), (w2.heap.size + 1, .slice d nd cd), (w2.heap.size, .slice a na ca)]) := HD7.out.below HL.out
      have qa := HDR.out.cell (b := w2.heap.size) (v := .slice a na ca) (by simp)
      have qb := HDR.out.cell (b := w6.heap.size) (v := .slice b nb cb) (by simp)
      by_cases hlt : k < na
      · have hlt1 : (k : Int) < (na : Int) := by omega
        have hsz := HL.out.size
        have s7 := S7.out
        have HXA : Hid (BagIn w.heap.size w2.heap.size wr a A) := XA7.out.below HL.out (by omega)
        have HXB : Hid (BagIn w5.heap.size w6.heap.size wr b D) := XB7.out.below HL.out (by omega)
        have HRW : Hid (RowIn w4.heap.size w5.heap.size wr (some ⟨w4.heap.size, 0, none⟩) [r0, r1]) := HRW7.out.below HL.out (by omega)
        obtain ⟨bb, o, rfl, _, hbh, xa, xc, hc1, hrow, hc2⟩ := HXA.out.item (k := k) (by rw [HNA.out]; exact hlt)
        obtain ⟨xr, HXR⟩ : ∃ xr, Hid (xr = (at' A k).1) := ⟨_, rfl⟩
        obtain ⟨y, HY⟩ : ∃ y, Hid (y = (at' A k).2) := ⟨_, rfl⟩
        obtain ⟨xq, HXQ⟩ : ∃ xq, Hid (xr.length = xq) := ⟨_, rfl⟩
        change wr.cell? _ = some (.slice xa (at' A k).1.length xc) at hc1
        change wr.cell? _ = some (.int .i64 (at' A k).2) at hc2
        change RowIn _ _ wr xa (at' A k).1 at hrow
        rw [← HXR.out, HXQ.out] at hc1
        rw [← HY.out] at hc2
        rw [← HXR.out] at hrow
        have HROW : Hid (RowIn w.heap.size w2.heap.size wr xa xr) := hrow
        have hxq : xq ≤ 1048576 := by rw [← HXQ.out, HXR.out]; exact (good_b' HF.out.ga HNA.out).2 k hlt
        obtain ⟨s, HS⟩ : ∃ s : Bool, Hid (s = decide (xr = [r0, r1])) := ⟨_, rfl⟩
        have HKC : Hid (∀ w', Below wr.heap.size wr w' → (w'.cell? ⟨w2.heap.size, 0, none⟩ = some (.slice (some ⟨bb, o, none⟩) na ca) ∧ w'.cell? ⟨w6.heap.size, 0, none⟩ = some (.slice b nb cb) ∧ w'.cell? ⟨bb, o + k * 2, none⟩ = some (.slice xa xq xc) ∧ w'.cell? ⟨bb, o + k * 2 + 1, none⟩ = some (.int .i64 y))) := fun w' hb' =>
          ⟨cell_below qa hb' (lt_of_cell qa), cell_below qb hb' (lt_of_cell qb), cell_below hc1 hb' (lt_of_cell hc1), cell_below hc2 hb' (lt_of_cell hc2)⟩
        have HC1 : Hid (∀ w0, Below wr.heap.size wr w0 → Calls Try.prog 20 #[.slice xa xq xc, .slice (some ⟨w4.heap.size, 0, none⟩) 2 2] w0 fun e w' => e = .returned (.bool s) ∧ Hid (Below wr.heap.size wr w') ∧ (w'.cell? ⟨w2.heap.size, 0, none⟩ = some (.slice (some ⟨bb, o, none⟩) na ca) ∧ w'.cell? ⟨w6.heap.size, 0, none⟩ = some (.slice b nb cb) ∧ w'.cell? ⟨bb, o + k * 2, none⟩ = some (.slice xa xq xc) ∧ w'.cell? ⟨bb, o + k * 2 + 1, none⟩ = some (.int .i64 y))) := by
          intro w0 h
          have h0 := h.size
          refine (sameInts_any _ _ _ _ xa (some ⟨w4.heap.size, 0, none⟩) xq 2 xc 2 xr [r0, r1] s w0 (HROW.out.below h (by omega)) (HRW.out.below h (by omega)) HXQ.out rfl hxq HS.out).mono ?_
          rintro e w' ⟨h1, h2⟩
          have hb' : Below wr.heap.size wr w' := h.trans (h2.mono h0)
          exact ⟨h1, hb', HKC.out w' hb'⟩
        have HC2 : Hid (s = false → ∀ w0, Below wr.heap.size wr w0 → Calls Try.prog 21 #[.agg #[.slice b nb cb], .slice xa xq xc] w0 fun e w' => e = .returned (.int .i64 y) ∧ Hid (Below wr.heap.size wr w') ∧ (w'.cell? ⟨w2.heap.size, 0, none⟩ = some (.slice (some ⟨bb, o, none⟩) na ca) ∧ w'.cell? ⟨w6.heap.size, 0, none⟩ = some (.slice b nb cb) ∧ w'.cell? ⟨bb, o + k * 2, none⟩ = some (.slice xa xq xc) ∧ w'.cell? ⟨bb, o + k * 2 + 1, none⟩ = some (.int .i64 y))) := by
          intro hs w0 h
          have h0 := h.size
          have hx : at' A k ∈ A := by rw [at_get (by rw [HNA.out]; exact hlt)]; exact List.getElem_mem _
          have hne : (at' A k).1 ≠ [r0, r1] := by rw [← HXR.out]; have := HS.out; rw [hs] at this; simpa using this
          refine (bagTimes_any _ _ _ _ b xa nb cb xq xc D xr y w0 (HXB.out.below h (by omega)) (HROW.out.below h (by omega)) (by omega) (by omega) HNB.out HXQ.out (good_b' HF.out.gd HNB.out).1 (good_b' HF.out.gd HNB.out).2 (by rw [HXR.out, HF.out.other _ hx hne, HY.out])).mono ?_
          rintro e w' ⟨h1, h2⟩
          have hb' : Below wr.heap.size wr w' := h.trans (h2.mono h0)
          exact ⟨h1, hb', HKC.out w' hb'⟩
        clear hrow hbh
        rcases Bool.eq_false_or_eq_true s with hs | hs
        · subst hs
          go_wp2_with fail
          refine wp_region_held_drew (S := fun w' => w'.cell? ⟨w2.heap.size, 0, none⟩ = some (.slice (some ⟨bb, o, none⟩) na ca) ∧ w'.cell? ⟨w6.heap.size, 0, none⟩ = some (.slice b nb cb) ∧ w'.cell? ⟨bb, o + k * 2, none⟩ = some (.slice xa xq xc) ∧ w'.cell? ⟨bb, o + k * 2 + 1, none⟩ = some (.int .i64 y)) (by kernel_rfl) ⟨qa, qb, hc1, hc2⟩ (fun hHeld => ?_)
          refine wpAnyH_take (i := 0) (oi := { dst := some 49, op := Op.fieldAddr 26 (Operand.tmp 3) 0, type := 0, pos := "laws.go:268", after := #[], guard := none }) (v := ?_) rfl (by kernel_rfl) (by kernel_rfl) (by kernel_rfl) (fun _ _ _ h => h) (Or.inl ⟨by rfl, ?_⟩) (by assumption) ?_
          rotate_left
          · intro w hSw; (try dsimp only at hSw); go_simp; try with_reducible rfl
          simp only [Act.put, List.setIfInBounds_toArray, List.set_cons_zero, List.set_cons_succ]
          refine wpAnyH_take (i := 1) (oi := { dst := some 50, op := Op.load 24 (Operand.tmp 49), type := 24, pos := "laws.go:268", after := #[{ on := 0, ground := Ground.data }], guard := none }) (v := ?_) rfl (by kernel_rfl) (by kernel_rfl) (by kernel_rfl) (fun _ _ _ h => h) (Or.inl ⟨by rfl, ?_⟩) (by assumption) ?_
          rotate_left
          · intro w hSw; (try dsimp only at hSw); go_simp; try with_reducible rfl
          simp only [Act.put, List.setIfInBounds_toArray, List.set_cons_zero, List.set_cons_succ]
          refine wpAnyH_take (i := 2) (oi := { dst := some 51, op := Op.move (Operand.tmp 10), type := 3, pos := "laws.go:268", after := #[], guard := none }) (v := ?_) rfl (by kernel_rfl) (by kernel_rfl) (by kernel_rfl) (fun _ _ _ h => h) (Or.inl ⟨by rfl, ?_⟩) (by assumption) ?_
          rotate_left
          · intro w hSw; (try dsimp only at hSw); go_simp; try with_reducible rfl
          simp only [Act.put, List.setIfInBounds_toArray, List.set_cons_zero, List.set_cons_succ]
          refine wpAnyH_take (i := 3) (oi := { dst := some 52, op := Op.indexAddr 24 (Operand.tmp 50) (Operand.tmp 51), type := 0, pos := "laws.go:268", after := #[{ on := 1, ground := Ground.data }, { on := 2, ground := Ground.data }], guard := none }) (v := ?_) rfl (by kernel_rfl) (by kernel_rfl) (by kernel_rfl) (fun _ _ _ h => h) (Or.inl ⟨by rfl, ?_⟩) (by assumption) ?_
          rotate_left
          · intro w hSw; (try dsimp only at hSw); go_simp; try with_reducible rfl
          simp only [Act.put, List.setIfInBounds_toArray, List.set_cons_zero, List.set_cons_succ]
          refine wpAnyH_take (i := 4) (oi := { dst := some 53, op := Op.fieldAddr 35 (Operand.tmp 52) 0, type := 0, pos := "laws.go:268", after := #[{ on := 3, ground := Ground.data }], guard := none }) (v := ?_) rfl (by kernel_rfl) (by kernel_rfl) (by kernel_rfl) (fun _ _ _ h => h) (Or.inl ⟨by rfl, ?_⟩) (by assumption) ?_
          rotate_left
          · intro w hSw; (try dsimp only at hSw); go_simp; try with_reducible rfl
          simp only [Act.put, List.setIfInBounds_toArray, List.set_cons_zero, List.set_cons_succ]
          refine wpAnyH_take (i := 5) (oi := { dst := some 54, op := Op.load 29 (Operand.tmp 53), type := 29, pos := "laws.go:268", after := #[{ on := 4, ground := Ground.data }], guard := none }) (v := ?_) rfl (by kernel_rfl) (by kernel_rfl) (by kernel_rfl) (fun _ _ _ h => h) (Or.inl ⟨by rfl, ?_⟩) (by assumption) ?_
          rotate_left
          · intro w hSw; (try dsimp only at hSw); go_simp; try with_reducible rfl
          simp only [Act.put, List.setIfInBounds_toArray, List.set_cons_zero, List.set_cons_succ]
          refine wpAnyH_take (i := 6) (oi := { dst := some 55, op := Op.move (Operand.tmp 6), type := 29, pos := "laws.go:268", after := #[], guard := none }) (v := ?_) rfl (by kernel_rfl) (by kernel_rfl) (by kernel_rfl) (fun _ _ _ h => h) (Or.inl ⟨by rfl, ?_⟩) (by assumption) ?_
          rotate_left
          · intro w hSw; (try dsimp only at hSw); go_simp; try with_reducible rfl
          simp only [Act.put, List.setIfInBounds_toArray, List.set_cons_zero, List.set_cons_succ]
          refine wpAnyH_ready (rs := [7]) (by kernel_rfl) (by simp) ?_
          refine AllReadyH.cons rfl (fun K hK => ?_) ?_
          · go_simp
            go_wp2_with (go_at_call 20; refine (HC1.out _ ((Below.refl _ _).drew)).mono ?_; rintro e w8 ⟨rfl, B8, hk8⟩)
            refine hK.out _ _ hk8 (fun hHeld => ?_)
            clear hK K
            refine wpAnyH_take (i := 8) (oi := { dst := some 57, op := Op.unOp UnOp.not 4 (Operand.tmp 56), type := 4, pos := "laws.go:268", after := #[{ on := 7, ground := Ground.data }], guard := none }) (v := ?_) rfl (by kernel_rfl) (by kernel_rfl) (by kernel_rfl) (fun _ _ _ h => h) (Or.inl ⟨by rfl, ?_⟩) (by assumption) ?_
            rotate_left
            · intro w hSw; (try dsimp only at hSw); go_simp; try with_reducible rfl
            simp only [Act.put, List.setIfInBounds_toArray, List.set_cons_zero, List.set_cons_succ]
            refine wpAnyH_take (i := 9) (oi := { dst := some 58, op := Op.move (Operand.tmp 57), type := 4, pos := "laws.go:268", after := #[{ on := 8, ground := Ground.data }, { on := 7, ground := Ground.chain }], guard := none }) (v := ?_) rfl (by kernel_rfl) (by kernel_rfl) (by kernel_rfl) (fun _ _ _ h => h) (Or.inl ⟨by rfl, ?_⟩) (by assumption) ?_
            rotate_left
            · intro w hSw; (try dsimp only at hSw); go_simp; try with_reducible rfl
            simp only [Act.put, List.setIfInBounds_toArray, List.set_cons_zero, List.set_cons_succ]
            refine wpAnyH_take (i := 10) (oi := { dst := some 59, op := Op.load 26 (Operand.tmp 8), type := 26, pos := "laws.go:268", after := #[{ on := 9, ground := Ground.guard }], guard := some (9, true) }) (v := undef) rfl (by kernel_rfl) (by kernel_rfl) (by kernel_rfl) (fun _ _ _ h => h) (Or.inr ⟨by kernel_rfl, rfl⟩) (by assumption) ?_
            simp only [Act.put, List.setIfInBounds_toArray, List.set_cons_zero, List.set_cons_succ]
            refine wpAnyH_take (i := 11) (oi := { dst := some 60, op := Op.fieldAddr 26 (Operand.tmp 3) 0, type := 0, pos := "laws.go:268", after := #[{ on := 9, ground := Ground.guard }], guard := some (9, true) }) (v := undef) rfl (by kernel_rfl) (by kernel_rfl) (by kernel_rfl) (fun _ _ _ h => h) (Or.inr ⟨by kernel_rfl, rfl⟩) (by assumption) ?_
            simp only [Act.put, List.setIfInBounds_toArray, List.set_cons_zero, List.set_cons_succ]
            refine wpAnyH_take (i := 12) (oi := { dst := some 61, op := Op.load 24 (Operand.tmp 60), type := 24, pos := "laws.go:268", after := #[{ on := 11, ground := Ground.data }, { on := 9, ground := Ground.guard }], guard := some (9, true) }) (v := undef) rfl (by kernel_rfl) (by kernel_rfl) (by kernel_rfl) (fun _ _ _ h => h) (Or.inr ⟨by kernel_rfl, rfl⟩) (by assumption) ?_
            simp only [Act.put, List.setIfInBounds_toArray, List.set_cons_zero, List.set_cons_succ]
            refine wpAnyH_take (i := 13) (oi := { dst := some 62, op := Op.move (Operand.tmp 10), type := 3, pos := "laws.go:268", after := #[{ on := 9, ground := Ground.guard }], guard := some (9, true) }) (v := undef) rfl (by kernel_rfl) (by kernel_rfl) (by kernel_rfl) (fun _ _ _ h => h) (Or.inr ⟨by kernel_rfl, rfl⟩) (by assumption) ?_
            simp only [Act.put, List.setIfInBounds_toArray, List.set_cons_zero, List.set_cons_succ]
            refine wpAnyH_take (i := 14) (oi := { dst := some 63, op := Op.indexAddr 24 (Operand.tmp 61) (Operand.tmp 62), type := 0, pos := "laws.go:268", after := #[{ on := 12, ground := Ground.data }, { on := 13, ground := Ground.data }, { on := 9, ground := Ground.guard }], guard := some (9, true) }) (v := undef) rfl (by kernel_rfl) (by kernel_rfl) (by kernel_rfl) (fun _ _ _ h => h) (Or.inr ⟨by kernel_rfl, rfl⟩) (by assumption) ?_
            simp only [Act.put, List.setIfInBounds_toArray, List.set_cons_zero, List.set_cons_succ]
            refine wpAnyH_take (i := 15) (oi := { dst := some 64, op := Op.fieldAddr 35 (Operand.tmp 63) 0, type := 0, pos := "laws.go:268", after := #[{ on := 14, ground := Ground.data }, { on := 9, ground := Ground.guard }], guard := some (9, true) }) (v := undef) rfl (by kernel_rfl) (by kernel_rfl) (by kernel_rfl) (fun _ _ _ h => h) (Or.inr ⟨by kernel_rfl, rfl⟩) (by assumption) ?_
            simp only [Act.put, List.setIfInBounds_toArray, List.set_cons_zero, List.set_cons_succ]
            refine wpAnyH_take (i := 16) (oi := { dst := some 65, op := Op.load 29 (Operand.tmp 64), type := 29, pos := "laws.go:268", after := #[{ on := 15, ground := Ground.data }, { on := 9, ground := Ground.guard }], guard := some (9, true) }) (v := undef) rfl (by kernel_rfl) (by kernel_rfl) (by kernel_rfl) (fun _ _ _ h => h) (Or.inr ⟨by kernel_rfl, rfl⟩) (by assumption) ?_
            simp only [Act.put, List.setIfInBounds_toArray, List.set_cons_zero, List.set_cons_succ]
            refine wpAnyH_take (i := 18) (oi := { dst := some 67, op := Op.fieldAddr 26 (Operand.tmp 3) 0, type := 0, pos := "laws.go:268", after := #[{ on := 9, ground := Ground.guard }], guard := some (9, true) }) (v := undef) rfl (by kernel_rfl) (by kernel_rfl) (by kernel_rfl) (fun _ _ _ h => h) (Or.inr ⟨by kernel_rfl, rfl⟩) (by assumption) ?_
            simp only [Act.put, List.setIfInBounds_toArray, List.set_cons_zero, List.set_cons_succ]
            refine wpAnyH_take (i := 19) (oi := { dst := some 68, op := Op.load 24 (Operand.tmp 67), type := 24, pos := "laws.go:268", after := #[{ on := 18, ground := Ground.data }, { on := 9, ground := Ground.guard }], guard := some (9, true) }) (v := undef) rfl (by kernel_rfl) (by kernel_rfl) (by kernel_rfl) (fun _ _ _ h => h) (Or.inr ⟨by kernel_rfl, rfl⟩) (by assumption) ?_
            simp only [Act.put, List.setIfInBounds_toArray, List.set_cons_zero, List.set_cons_succ]
            refine wpAnyH_take (i := 20) (oi := { dst := some 69, op := Op.move (Operand.tmp 10), type := 3, pos := "laws.go:268", after := #[{ on := 9, ground := Ground.guard }], guard := some (9, true) }) (v := undef) rfl (by kernel_rfl) (by kernel_rfl) (by kernel_rfl) (fun _ _ _ h => h) (Or.inr ⟨by kernel_rfl, rfl⟩) (by assumption) ?_
            simp only [Act.put, List.setIfInBounds_toArray, List.set_cons_zero, List.set_cons_succ]
            refine wpAnyH_take (i := 21) (oi := { dst := some 70, op := Op.indexAddr 24 (Operand.tmp 68) (Operand.tmp 69), type := 0, pos := "laws.go:268", after := #[{ on := 19, ground := Ground.data }, { on := 20, ground := Ground.data }, { on := 9, ground := Ground.guard }], guard := some (9, true) }) (v := undef) rfl (by kernel_rfl) (by kernel_rfl) (by kernel_rfl) (fun _ _ _ h => h) (Or.inr ⟨by kernel_rfl, rfl⟩) (by assumption) ?_
            simp only [Act.put, List.setIfInBounds_toArray, List.set_cons_zero, List.set_cons_succ]
            refine wpAnyH_take (i := 22) (oi := { dst := some 71, op := Op.fieldAddr 35 (Operand.tmp 70) 1, type := 0, pos := "laws.go:268", after := #[{ on := 21, ground := Ground.data }, { on := 9, ground := Ground.guard }], guard := some (9, true) }) (v := undef) rfl (by kernel_rfl) (by kernel_rfl) (by kernel_rfl) (fun _ _ _ h => h) (Or.inr ⟨by kernel_rfl, rfl⟩) (by assumption) ?_
            simp only [Act.put, List.setIfInBounds_toArray, List.set_cons_zero, List.set_cons_succ]
            refine wpAnyH_take (i := 23) (oi := { dst := some 72, op := Op.load 3 (Operand.tmp 71), type := 3, pos := "laws.go:268", after := #[{ on := 22, ground := Ground.data }, { on := 9, ground := Ground.guard }], guard := some (9, true) }) (v := undef) rfl (by kernel_rfl) (by kernel_rfl) (by kernel_rfl) (fun _ _ _ h => h) (Or.inr ⟨by kernel_rfl, rfl⟩) (by assumption) ?_
            simp only [Act.put, List.setIfInBounds_toArray, List.set_cons_zero, List.set_cons_succ]
            refine wpAnyH_ready (rs := [17]) (by kernel_rfl) (by simp) ?_
            refine AllReadyH.cons (o := { dst := some 66, op := Op.call { callee := Callee.value (Operand.func 21), args := #[Operand.tmp 59, Operand.tmp 65], argTypes := #[26, 29] }, type := 3, pos := "laws.go:268", after := #[{ on := 10, ground := Ground.data }, { on := 16, ground := Ground.data }, { on := 9, ground := Ground.chain }, { on := 9, ground := Ground.guard }], guard := some (9, true) }) rfl (fun K hK => ?_) ?_
            · rw [if_neg (by refine Bool.eq_false_iff.1 ?_; kernel_rfl)]
              refine hK.out _ _ hk8 (fun hHeld => ?_)
              clear hK K
              simp only [Act.put, List.setIfInBounds_toArray, List.set_cons_zero, List.set_cons_succ]
              refine wpAnyH_take (i := 24) (oi := { dst := some 73, op := Op.binOp BinOp.neq 3 (Operand.tmp 66) (Operand.tmp 72) 3, type := 4, pos := "laws.go:268", after := #[{ on := 17, ground := Ground.data }, { on := 23, ground := Ground.data }, { on := 9, ground := Ground.guard }], guard := some (9, true) }) (v := undef) rfl (by kernel_rfl) (by kernel_rfl) (by kernel_rfl) (fun _ _ _ h => h) (Or.inr ⟨by kernel_rfl, rfl⟩) (by assumption) ?_
              simp only [Act.put, List.setIfInBounds_toArray, List.set_cons_zero, List.set_cons_succ]
              refine wpAnyH_take (i := 25) (oi := { dst := some 74, op := Op.pick (Operand.tmp 58) (Operand.tmp 73) (Operand.const (Value.bool false)), type := 4, pos := "laws.go:268", after := #[{ on := 9, ground := Ground.data }, { on := 24, ground := Ground.data }], guard := none }) (v := ?_) rfl (by kernel_rfl) (by kernel_rfl) (by kernel_rfl) (fun _ _ _ h => h) (Or.inl ⟨by kernel_rfl, ?_⟩) (by assumption) ?_
              rotate_left
              · intro w hSw; (try dsimp only at hSw); go_simp; try with_reducible rfl
              simp only [Act.put, List.setIfInBounds_toArray, List.set_cons_zero, List.set_cons_succ]
              refine wpAnyH_done (by kernel_rfl) ?_ _
              go_wp2
              go_roundw
              case rel => exact ⟨k + 1, by go_num, by omega, HL.out.trans (B8.out.mono HL.out.size)⟩
              case measure => simp [intOf]; omega
            exact AllReadyH.nil
          exact AllReadyH.nil
        · subst hs
          go_wp2_with fail
          go_region_held3 (fun w' => w'.cell? ⟨w2.heap.size, 0, none⟩ = some (.slice (some ⟨bb, o, none⟩) na ca) ∧ w'.cell? ⟨w6.heap.size, 0, none⟩ = some (.slice b nb cb) ∧ w'.cell? ⟨bb, o + k * 2, none⟩ = some (.slice xa xq xc) ∧ w'.cell? ⟨bb, o + k * 2 + 1, none⟩ = some (.int .i64 y)) (first | exact ⟨qa, qb, hc1, hc2⟩ | exact hk8) (first | (go_at_call 20; refine (HC1.out _ ((Below.refl _ _).drew)).mono ?_; rintro e w8 ⟨rfl, B8, hk8⟩) | (go_at_call 21; refine (HC2.out (by first | rfl | trivial) _ B8.out).mono ?_; rintro e w8 ⟨rfl, B8, hk8⟩))
          go_wp2
          go_roundw
          case rel => exact ⟨k + 1, by go_num, by omega, HL.out.trans (B8.out.mono HL.out.size)⟩
          case measure => simp [intOf]; omega
      · have hge : ¬ (k : Int) < (na : Int) := by omega
        go_wp2
        clear qa qb HDR
        clear hge hk
        go_loopw [11] (fun i wq => ∃ k : Nat, i = .int .i64 k ∧ 1 ≤ k ∧ (k = 1 ∨ k ≤ nb) ∧ Hid (Below w7.heap.size w7 wq)) (fun i _ => nb + 1 - (intOf i).toNat)
        case atStart => exact ⟨1, rfl, Nat.le_refl _, .inl rfl, HL⟩
        case round =>
          obtain ⟨k1, rfl, hk1, hk2, HL2⟩ := hrel
          obtain ⟨m, rfl⟩ : ∃ m, k1 = m + 1 := ⟨k1 - 1, by omega⟩
          have HDQ : Hid (Held w wr [(w6.heap.size, .slice b nb cb), (w2.heap.size + 1, .slice d nd cd), (w2.heap.size, .slice a na ca)]) := HD7.out.below HL2.out
          have s7 := S7.out
          have hsz := HL2.out.size
          have HXB : Hid (BagIn w5.heap.size w6.heap.size wr b D) := XB7.out.below HL2.out (by omega)
          have qa := HDQ.out.cell (b := w2.heap.size) (v := .slice a na ca) (by simp)
          have qb := HDQ.out.cell (b := w6.heap.size) (v := .slice b nb cb) (by simp)
          by_cases hlt : m + 1 < nb
          · have hlt1 : ((m + 1 : Nat) : Int) < (nb : Int) := by omega
            have hlt2 : (m : Int) < (nb : Int) := by omega
            have hlt3 : (m : Int) + 1 < (nb : Int) := by omega
            have hp0 : (0 : Int) ≤ (m : Int) := by omega
            have hp1 : (0 : Int) ≤ (m : Int) + 1 := by omega
            have hwm0 : IntKind.i64.wrap (m : Int) = (m : Int) := by simp [IntKind.wrap, IntKind.bits, IntKind.signed]; omega
            have hwm1 : IntKind.i64.wrap ((m : Int) + 1 - 1) = (m : Int) := by simp [IntKind.wrap, IntKind.bits, IntKind.signed]; omega
            have htn : ((m : Int) + 1).toNat = m + 1 := by omega
            obtain ⟨bb, o, rfl, _, _, xa, xc, hc1, hrow, _⟩ := HXB.out.item (k := m) (by rw [HNB.out]; omega)
            obtain ⟨b2, o2, e2, _, _, ya, yc, hd1, hrow2, _⟩ := HXB.out.item (k := m + 1) (by rw [HNB.out]; exact hlt)
            simp only [Option.some.injEq, Addr.mk.injEq, and_true] at e2
            obtain ⟨rfl, rfl⟩ := e2
            obtain ⟨xr, HXR⟩ : ∃ xr, Hid (xr = (at' D m).1) := ⟨_, rfl⟩
            obtain ⟨yr, HYR⟩ : ∃ yr, Hid (yr = (at' D (m + 1)).1) := ⟨_, rfl⟩
            obtain ⟨xq, HXQ⟩ : ∃ xq, Hid (xr.length = xq) := ⟨_, rfl⟩
            obtain ⟨yq, HYQ⟩ : ∃ yq, Hid (yr.length = yq) := ⟨_, rfl⟩
            change wr.cell? _ = some (.slice xa (at' D m).1.length xc) at hc1
            change wr.cell? _ = some (.slice ya (at' D (m + 1)).1.length yc) at hd1
            change RowIn _ _ wr xa (at' D m).1 at hrow
            change RowIn _ _ wr ya (at' D (m + 1)).1 at hrow2
            rw [← HXR.out, HXQ.out] at hc1
            rw [← HYR.out, HYQ.out] at hd1
            rw [← HXR.out] at hrow
            rw [← HYR.out] at hrow2
            have HROW : Hid (RowIn w5.heap.size w6.heap.size wr xa xr) := hrow
            have HROW2 : Hid (RowIn w5.heap.size w6.heap.size wr ya yr) := hrow2
            have hxq : xq ≤ 1048576 := by rw [← HXQ.out, HXR.out]; exact (good_b' HF.out.gd HNB.out).2 m (by omega)
            have hyq : yq ≤ 1048576 := by rw [← HYQ.out, HYR.out]; exact (good_b' HF.out.gd HNB.out).2 (m + 1) hlt
            have HLT : Hid (rowLt xr yr = true) := by show _ = _; rw [HXR.out, HYR.out]; exact srt_at.1 HF.out.gd.srt m (m + 1) (by omega) (by rw [HNB.out]; exact hlt)
            have HKC : Hid (∀ w', Below wr.heap.size wr w' → (w'.cell? ⟨w6.heap.size, 0, none⟩ = some (.slice (some ⟨bb, o, none⟩) nb cb) ∧ w'.cell? ⟨bb, o + m * 2, none⟩ = some (.slice xa xq xc) ∧ w'.cell? ⟨bb, o + (m + 1) * 2, none⟩ = some (.slice ya yq yc))) := fun w' hb' =>
              ⟨cell_below qb hb' (lt_of_cell qb), cell_below hc1 hb' (lt_of_cell hc1), cell_below hd1 hb' (lt_of_cell hd1)⟩
            have HC1 : Hid (∀ w0, Below wr.heap.size wr w0 → Calls Try.prog 22 #[.slice xa xq xc, .slice ya yq yc] w0 fun e w' => e = .returned (.bool true) ∧ Hid (Below wr.heap.size wr w') ∧ (w'.cell? ⟨w6.heap.size, 0, none⟩ = some (.slice (some ⟨bb, o, none⟩) nb cb) ∧ w'.cell? ⟨bb, o + m * 2, none⟩ = some (.slice xa xq xc) ∧ w'.cell? ⟨bb, o + (m + 1) * 2, none⟩ = some (.slice ya yq yc))) := by
              intro w0 h
              refine (rowLess_any _ _ _ _ xa ya xq yq xc yc xr yr w0 (HROW.out.below h (by omega)) (HROW2.out.below h (by omega)) HXQ.out HYQ.out hxq hyq).mono ?_
              rintro e w' ⟨rfl, rfl⟩
              exact ⟨by rw [HLT.out], h, HKC.out _ h⟩
            clear hrow hrow2 HDQ qa
            go_wp2_with fail
            go_region_held3 (fun w' => w'.cell? ⟨w6.heap.size, 0, none⟩ = some (.slice (some ⟨bb, o, none⟩) nb cb) ∧ w'.cell? ⟨bb, o + m * 2, none⟩ = some (.slice xa xq xc) ∧ w'.cell? ⟨bb, o + (m + 1) * 2, none⟩ = some (.slice ya yq yc)) (first | exact ⟨qb, hc1, hd1⟩ | exact hk8) (first | (go_at_call 22; refine (HC1.out _ ((Below.refl _ _).drew)).mono ?_; rintro e w8 ⟨rfl, B8, hk8⟩))
            go_wp2
            go_roundw
            case rel => exact ⟨m + 1 + 1, by go_num, by omega, .inr (by omega), HL2.out.trans (B8.out.mono HL2.out.size)⟩
            case measure => simp [intOf]; omega
          · have hge : ¬ ((m + 1 : Nat) : Int) < (nb : Int) := by omega
            have HXA : Hid (BagIn w.heap.size w2.heap.size wr a A) := XA7.out.below HL2.out (by omega)
            have HRW : Hid (RowIn w4.heap.size w5.heap.size wr (some ⟨w4.heap.size, 0, none⟩) [r0, r1]) := HRW7.out.below HL2.out (by omega)
            obtain ⟨sA, HSA⟩ : ∃ s, Hid (s = sizeOfBag A) := ⟨_, rfl⟩
            obtain ⟨tA, HTA⟩ : ∃ s, Hid (s = timesOf A [r0, r1]) := ⟨_, rfl⟩
            have hsa : 0 ≤ sA ∧ sA ≤ 21 := by rw [HSA.out]; exact HF.out.sb
            have hta : 0 ≤ tA ∧ tA ≤ 21 := by rw [HTA.out]; exact HF.out.tb
            have hw1 : IntKind.i64.wrap (sA + (1 + t)) = sA + (1 + t) := by simp [IntKind.wrap, IntKind.bits, IntKind.signed]; omega
            have hw2 : IntKind.i64.wrap (tA + (1 + t)) = tA + (1 + t) := by simp [IntKind.wrap, IntKind.bits, IntKind.signed]; omega
            have HKC : Hid (∀ w', Below wr.heap.size wr w' → (w'.cell? ⟨w2.heap.size, 0, none⟩ = some (.slice a na ca) ∧ w'.cell? ⟨w6.heap.size, 0, none⟩ = some (.slice b nb cb))) := fun w' hb' => ⟨cell_below qa hb' (lt_of_cell qa), cell_below qb hb' (lt_of_cell qb)⟩
            have HC1 : Hid (∀ w0, Below wr.heap.size wr w0 → Calls Try.prog 23 #[.agg #[.slice b nb cb]] w0 fun e w' => e = .returned (.bool true) ∧ Hid (Below wr.heap.size wr w') ∧ (w'.cell? ⟨w2.heap.size, 0, none⟩ = some (.slice a na ca) ∧ w'.cell? ⟨w6.heap.size, 0, none⟩ = some (.slice b nb cb))) := by
              intro w0 h
              have h0 := h.size
              refine (bagOk_any _ _ b nb cb D true w0 (HXB.out.below h (by omega)) (by omega) HNB.out (good_b' HF.out.gd HNB.out).1 (good_b' HF.out.gd HNB.out).2 HF.out.gd.ok.symm).mono ?_
              rintro e w' ⟨h1, h2⟩
              have hb' : Below wr.heap.size wr w' := h.trans (h2.mono h0)
              exact ⟨h1, hb', HKC.out w' hb'⟩
            have HC2 : Hid (∀ w0, Below wr.heap.size wr w0 → Calls Try.prog 21 #[.agg #[.slice b nb cb], .slice (some ⟨w4.heap.size, 0, none⟩) 2 2] w0 fun e w' => e = .returned (.int .i64 (tA + (1 + t))) ∧ Hid (Below wr.heap.size wr w') ∧ (w'.cell? ⟨w2.heap.size, 0, none⟩ = some (.slice a na ca) ∧ w'.cell? ⟨w6.heap.size, 0, none⟩ = some (.slice b nb cb))) := by
              intro w0 h
              have h0 := h.size
              refine (bagTimes_any _ _ _ _ b (some ⟨w4.heap.size, 0, none⟩) nb cb 2 2 D [r0, r1] (tA + (1 + t)) w0 (HXB.out.below h (by omega)) (HRW.out.below h (by omega)) (by omega) (by omega) HNB.out rfl (good_b' HF.out.gd HNB.out).1 (good_b' HF.out.gd HNB.out).2 (by rw [HTA.out, HF.out.same])).mono ?_
              rintro e w' ⟨h1, h2⟩
              have hb' : Below wr.heap.size wr w' := h.trans (h2.mono h0)
              exact ⟨h1, hb', HKC.out w' hb'⟩
            have HC3 : Hid (∀ w0, Below wr.heap.size wr w0 → Calls Try.prog 24 #[.agg #[.slice a na ca], .slice (some ⟨w4.heap.size, 0, none⟩) 2 2] w0 fun e w' => e = .returned (.int .i64 tA) ∧ Hid (Below wr.heap.size wr w') ∧ (w'.cell? ⟨w2.heap.size, 0, none⟩ = some (.slice a na ca) ∧ w'.cell? ⟨w6.heap.size, 0, none⟩ = some (.slice b nb cb))) := by
              intro w0 h
              have h0 := h.size
              refine (specTimes_any _ _ _ _ a (some ⟨w4.heap.size, 0, none⟩) na ca 2 2 A [r0, r1] tA w0 (HXA.out.below h (by omega)) (HRW.out.below h (by omega)) (by omega) (by omega) HNA.out rfl (good_b' HF.out.ga HNA.out).1 (good_b' HF.out.ga HNA.out).2 HTA.out).mono ?_
              rintro e w' ⟨h1, h2⟩
              have hb' : Below wr.heap.size wr w' := h.trans (h2.mono h0)
              exact ⟨h1, hb', HKC.out w' hb'⟩
            have HC4 : Hid (∀ w0, Below wr.heap.size wr w0 → Calls Try.prog 25 #[.agg #[.slice b nb cb]] w0 fun e w' => e = .returned (.int .i64 (sA + (1 + t))) ∧ Hid (Below wr.heap.size wr w') ∧ (w'.cell? ⟨w2.heap.size, 0, none⟩ = some (.slice a na ca) ∧ w'.cell? ⟨w6.heap.size, 0, none⟩ = some (.slice b nb cb))) := by
              intro w0 h
              have h0 := h.size
              refine (bagSize_any _ _ b nb cb D (sA + (1 + t)) w0 (HXB.out.below h (by omega)) (by omega) HNB.out (good_b' HF.out.gd HNB.out).1 (good_b' HF.out.gd HNB.out).2 (by rw [HSA.out, HF.out.size])).mono ?_
              rintro e w' ⟨h1, h2⟩
              have hb' : Below wr.heap.size wr w' := h.trans (h2.mono h0)
              exact ⟨h1, hb', HKC.out w' hb'⟩
            have HC5 : Hid (∀ w0, Below wr.heap.size wr w0 → Calls Try.prog 26 #[.agg #[.slice a na ca]] w0 fun e w' => e = .returned (.int .i64 sA) ∧ Hid (Below wr.heap.size wr w') ∧ (w'.cell? ⟨w2.heap.size, 0, none⟩ = some (.slice a na ca) ∧ w'.cell? ⟨w6.heap.size, 0, none⟩ = some (.slice b nb cb))) := by
              intro w0 h
              have h0 := h.size
              refine (specSize_any _ _ a na ca A sA w0 (HXA.out.below h (by omega)) (by omega) HNA.out (good_b' HF.out.ga HNA.out).1 (good_b' HF.out.ga HNA.out).2 HSA.out).mono ?_
              rintro e w' ⟨h1, h2⟩
              have hb' : Below wr.heap.size wr w' := h.trans (h2.mono h0)
              exact ⟨h1, hb', HKC.out w' hb'⟩
            have BL0 : Hid (Below w.heap.size w wr) := HDQ.out.bel
            clear HDQ HXA HRW
            go_wp2_with fail
            go_region_held3 (fun w' => w'.cell? ⟨w2.heap.size, 0, none⟩ = some (.slice a na ca) ∧ w'.cell? ⟨w6.heap.size, 0, none⟩ = some (.slice b nb cb)) (first | exact ⟨qa, qb⟩ | exact hk8) (first | (go_at_call 23; refine (HC1.out _ ((Below.refl _ _).drew)).mono ?_; rintro e w8 ⟨rfl, B8, hk8⟩) | (go_at_call 21; refine (HC2.out _ B8.out).mono ?_; rintro e w8 ⟨rfl, B8, hk8⟩) | (go_at_call 24; refine (HC3.out _ B8.out).mono ?_; rintro e w8 ⟨rfl, B8, hk8⟩) | (go_at_call 25; refine (HC4.out _ B8.out).mono ?_; rintro e w8 ⟨rfl, B8, hk8⟩) | (go_at_call 26; refine (HC5.out _ B8.out).mono ?_; rintro e w8 ⟨rfl, B8, hk8⟩))
            go_wp2
            go_ret
            exact ⟨rfl, BL0.out.trans (B8.out.mono BL0.out.size)⟩
end Go.Proofs.Ytijbngdafgmpaaa

/-
  Proved: at every list of bytes, FnBags answers true: a row that impl.BagAdd puts into the bag drawn of it is there as often more by impl.BagTimes, all other rows stay as they were, rows stay in order, and the size grows by as much. Of bags that are drawn alone, which are small.
-/
namespace Go.Proofs.Ytijbngdafgmpaaa.fnBags
open Go.ChangeShapes Go.WideShapes Go.ChangeAt Go.RowKit
open Go.ChangeMaps (open_string shut_string)
set_option linter.unusedVariables false

theorem own : ownKnob Try.prog.godebug = none := by kernel_rfl
theorem laidOut : laidOutB Try.prog = true := by kernel_rfl

theorem walk (a0 : Option Addr) (n0 cap0 : Nat) (w : World) (hc0 : CodeIn w a0 n0) :
    Calls Try.prog 3 #[.slice a0 n0 cap0] w fun e w' => e = .returned (.bool true) ∧ Below w.heap.size w w' := by
  exact law_3 a0 n0 cap0 w hc0

set_option maxRecDepth 100000 in
theorem lifted (os : Os) (started : os.Started) (H : Type) (enc : TypeId × Value → H) :
    ReturnsInHanded {} Try.checked os 3 .any (Rows.fnBagsSpec.pre6 enc Try.prog Try.f3 Rows.fnBagsRow.domain false) (Rows.fnBagsSpec.post enc Try.prog Try.f3 false true false false) := by
  refine returnsInHanded_of_change (C := Try.checked) own started (by kernel_rfl) Try.func3
    (ChangeSpec.witness6 (enc := enc) (C := Try.checked) false ⟨#[], #[.slice none 0 0], []⟩ 8 (by kernel_rfl) (by kernel_rfl) (by kernel_rfl) (by kernel_rfl)) ?_
  intro W base args ds gs before hval0 hW hcnd _
  have hval : ∀ (j : Nat) t v, Try.f3.params[j]? = some t → args[j]? = some v → Value.okWide Try.prog W .any base t v := hval0
  have hW' := hW
  obtain ⟨p, q, hA0, hV, rfl, hfz, hnd⟩ := hW
  have hA : DataW.TrodAll enc Try.prog W 0 (fun _ => true) true Try.f3.params.toList args.toList ds p := hA0
  rw [Try.params3] at hA hval
  obtain ⟨v0, vs0, d0, ds0, p0, q0, hargs, rfl, rfl, h0, r0⟩ := trodAll_cons hA
  obtain ⟨rfl, rfl, rfl⟩ := trodAll_nil r0
  obtain rfl : args = #[v0] := by cases args; simp_all
  obtain ⟨rfl, rfl⟩ := trodVars_none hV
  have k0 := h0
  have lt0 : ∀ x ∈ p0, x.block < W.heap.size := by obtain ⟨m, hm⟩ := k0; exact DataW.trod_lt m _ _ _ hm
  obtain ⟨a0, n0, cap0, rfl⟩ := okWide_slice Try.underlying22 (hval 0 22 v0 rfl rfl)
  have hc0 := code_in k0
  clear hA0 hval0
  refine (walk a0 n0 cap0 W hc0).mono fun e W' ⟨he, bel⟩ => ?_
  subst he
  exact ⟨_, rfl, _, _, _, [], _, [], hW', trodAll_mk1 (shut_bool Try.underlying4 _), (trodAll_cons_mk (Below.trod laidOut (by kernel_rfl) (of_decide_eq_true (by kernel_rfl)) k0 bel lt0) trodAll_mk0), rfl, bel.frame _, fun h => by cases h⟩

theorem over : Rows.fnBagsRow.holds Try.pinned (OpenSpec.ofChange Rows.fnBagsSpec) :=
  OpenClaim.holds_of_wide 3 Try.f3 rfl rfl rfl rfl rfl rfl rfl ⟨rfl, rfl, rfl, rfl, rfl⟩ rfl rfl rfl rfl rfl (by kernel_rfl) Try.func3 (by kernel_rfl)
    (of_decide_eq_true (by kernel_rfl)) (by unfold Func.isWrapper; first | (rw [if_pos (by decide +kernel)]; kernel_rfl) | (rw [if_neg (by decide +kernel)]; exact ⟨rfl, rfl⟩))
    (fun os started H enc _ => lifted os started H enc)

end Go.Proofs.Ytijbngdafgmpaaa.fnBags
namespace Go.Proofs.Ytijbngdafgmpaaa

theorem fnBags_holds : Rows.FnBagsSaid := fnBags.over
end Go.Proofs.Ytijbngdafgmpaaa
