import Derived.Test.YtijbngdafgmpaaaTldW
import Derived.Test.YtijbngdafgmpaaaOkB
import Derived.Test.YtijbngdafgmpaaaPutS
import Derived.Test.YtijbngdafgmpaaaItemC
import Derived.Test.YtijbngdafgmpaaaMarkB
import Derived.Test.YtijbngdafgmpaaaDBags
import Derived.Deep.RegionHeld3
import Derived.WalkKit
import Derived.ProofKit
import Derived.OpenShut
import Derived.ShutString
import Derived.ChangeOld
import Derived.Below
/-
  impl.BagAdd.
-/
namespace Go.Proofs.Ytijbngdafgmpaaa
open Go.RowKit Go.Maps

/-- a row can be added -/
def addOk (l : List It) (r : List Int) (t : Int) : Bool := okBag l && ((decide (1 ≤ t) && decide (t ≤ 1000000)) && okBag (putL r t l))
/-- a bag with a row added, or as it was -/
def addL (l : List It) (r : List Int) (t : Int) : List It := if addOk l r t = true then putL r t l else l
theorem fits_add {W : Nat} {l : List It} {r : List Int} {t : Int} (h : Good W l) : fits W l r t = addOk l r t := by
  unfold addOk
  rw [h.ok]
  by_cases ht : 1 ≤ t ∧ t ≤ 1000000
  · rw [fits_iff h (.inr ht)]; simp [ht.1, ht.2]
  · have h1 : okItem r t = false := by
      rcases hv : okItem r t with _ | _
      · rfl
      · exact absurd (okItem_split.1 hv).2 ht
    have h2 : (decide (1 ≤ t) && decide (t ≤ 1000000)) = false := by
      rcases hv : (decide (1 ≤ t) && decide (t ≤ 1000000)) with _ | _
      · rfl
      · simp at hv; exact absurd hv ht
    unfold fits; rw [h1, h2]; simp

set_option maxHeartbeats 2000000 in
set_option maxRecDepth 100000 in
theorem bagAdd_any (lo hi lo' hi' : Nat) (a ra : Option Addr) (n cap q rc : Nat) (l : List It) (r : List Int) (t : Int) (w : World) (ha : BagIn lo hi w a l) (hr : RowIn lo' hi' w ra r) (hh : hi ≤ w.heap.size) (hh' : hi' ≤ w.heap.size) (hn : l.length = n) (hq : r.length = q) (hm : n ≤ 1048576) (hm' : q ≤ 1048576) (hl : ∀ i, i < n → (at' l i).1.length ≤ 1048576) :
    Calls Try.prog 19 #[.agg #[.slice a n cap], .slice ra q rc, .int .i64 t] w fun e w' => ∃ (a' : Option Addr) (n' cap' : Nat) (ok : Bool), e = .returned (.tuple #[.agg #[.slice a' n' cap'], .bool ok]) ∧ Hid (ok = addOk l r t) ∧ Hid ((addL l r t).length = n') ∧ Hid (BagOwn w.heap.size w'.heap.size w' a' (addL l r t)) ∧ Hid (Below w.heap.size w w') := by
  have HA : Hid (BagIn lo hi w a l) := ha
  have HR : Hid (RowIn lo' hi' w ra r) := hr
  have HH : Hid (hi ≤ w.heap.size) := hh
  have HH' : Hid (hi' ≤ w.heap.size) := hh'
  have HN : Hid (l.length = n) := hn
  have HQ : Hid (r.length = q) := hq
  have HL : Hid (∀ i, i < n → (at' l i).1.length ≤ 1048576) := hl
  obtain ⟨B, HB⟩ : ∃ B, Hid (B = w.heap.size) := ⟨_, rfl⟩
  obtain ⟨s, HSB⟩ : ∃ s : Bool, Hid (s = okBag l) := ⟨_, rfl⟩
  clear ha hr hh hh' hn hq hl
  go_enter Try.func19, Try.ntmps19
  go_wp2_with fail
  refine (bagOk_any lo hi a n cap l s _ (HA.out.below (below2 w _ _) HH.out) (by have := HH.out; simp; omega) HN.out hm HL.out HSB.out).mono ?_
  rintro e w1 ⟨rfl, hb1⟩
  have HB1 : Hid (Below w.heap.size w w1) := (below2 w _ _).trans (hb1.mono (by simp; omega))
  have HK0 : Hid (Blk w1 B 1 (fun _ => .slice a n cap)) := ((blk_one w B HB.out _ _).alloc _).of_block (hb1.block _ (by rw [HB.out]; simp; omega))
  have HK1 : Hid (Blk w1 (B + 1) 1 (fun _ => .slice none 0 0)) := (blk_one _ (B + 1) (by rw [HB.out]; simp) _ _).of_block (hb1.block _ (by rw [HB.out]; simp))
  have hs1 : B + 1 + 1 ≤ w1.heap.size := by have := hb1.size; simp at this; rw [HB.out]; omega
  clear hb1
  rw [← HB.out]
  have c0 := HK0.out.cell (i := 0) (by omega)
  rcases Bool.eq_false_or_eq_true s with hs | hs
  · subst hs
    have HO : Hid (okBag l = true) := HSB.out.symm
    go_wp2_with fail
    refine (shelfOf_any lo hi a n cap l _ (HA.out.below HB1.out HH.out) (Nat.le_trans HH.out HB1.out.size) HN.out HO.out).mono ?_
    rintro e w2 ⟨mb, W, rfl, H2⟩
    have H2' : Hid (OwnM mb l w2 ∧ Good W l ∧ w1.heap.size ≤ mb ∧ Below w1.heap.size w1 w2) := H2.out
    clear H2
    have HS3 : Hid (ShelfAt w2.heap.size mb W l (w2.alloc (.cells #[.int .i64 (W : Nat), .map (some mb)] 69))) :=
      ⟨blk_two _ _ rfl _ _ _, H2'.out.1.block (Below.heap_alloc _ _ _ H2'.out.1.lt), by have := H2'.out.1.lt; omega⟩
    have HB2 : Hid (Below w.heap.size w (w2.alloc (.cells #[.int .i64 (W : Nat), .map (some mb)] 69))) := (HB1.out.trans (H2'.out.2.2.2.mono HB1.out.size)).trans ((below1' w2 _).mono (Nat.le_trans HB1.out.size H2'.out.2.2.2.size))
    have hs2 : w1.heap.size ≤ w2.heap.size := H2'.out.2.2.2.size
    go_wp2_with fail
    refine (put_any lo' hi' w2.heap.size mb W ra q rc r t l _ (HR.out.below HB2.out HH'.out) (Nat.le_trans HH'.out HB2.out.size) HQ.out hm' HS3.out H2'.out.2.1 (fun k h1 h2 => by have := HH'.out; have := H2'.out.2.2.1; have := HB.out; omega)).mono ?_
    rintro e w4 ⟨ok, rfl, HF, HS4, HK4⟩
    have HG4 : Hid (Good (wideOf W l r) (if ok = true then putL r t l else l)) := by
      rcases Bool.eq_false_or_eq_true ok with h | h
      · subst h; rw [if_pos rfl]; exact H2'.out.2.1.put HF.out.symm
      · subst h; rw [if_neg (by simp)]; exact H2'.out.2.1.still r
    obtain ⟨V, HV⟩ : ∃ V, Hid (V = wideOf W l r) := ⟨_, rfl⟩
    obtain ⟨L, HLL⟩ : ∃ L, Hid (L = if ok = true then putL r t l else l) := ⟨_, rfl⟩
    rw [← HV.out, ← HLL.out] at HS4 HG4
    go_wp2_with fail
    refine (told_any w2.heap.size mb V L w4 HS4.out HG4.out).mono ?_
    rintro e w5 ⟨a5, cap5, rfl, HO5, HB5⟩
    have HOK : Hid (ok = addOk l r t) := by rw [HF.out]; exact fits_add H2'.out.2.1
    have HLE : Hid (L = addL l r t) := by rw [HLL.out]; unfold addL; rw [← HOK.out]; rfl
    have hs4 : w2.heap.size ≤ w4.heap.size := by have := HK4.out.size; simp at this; omega
    have hB4 : Below w1.heap.size w1 w4 := (H2'.out.2.2.2.trans ((below1' w2 _).mono hs2)).trans (HK4.out.to_below (by simp; omega) (fun k hk => by have := H2'.out.2.2.1; omega))
    have HB5' : Hid (Below w1.heap.size w1 w5) := hB4.trans (HB5.out.mono (by omega))
    have HK5 : Hid (Blk w5 (B + 1) 1 (fun _ => .slice none 0 0)) := HK1.out.of_block (HB5'.out.block _ (by omega))
    have r0 := HK5.out.cell (i := 0) (by omega)
    have f0 := HK5.out.frozen 0
    clear c0 hB4 HS4 HG4 HK4 HS3 HB2
    go_wp2
    have z0 := (HK5.out.set 0 (by omega) (.slice a5 L.length cap5)).cell (i := 0) (by omega)
    simp only [if_true] at z0
    refine bodyPost_ret (v := .tuple #[.agg #[.slice a5 L.length cap5], .bool ok]) (by simp [results, Try.results19, go_sem, z0]) rfl ?_
    have hb := HB.out
    refine ⟨a5, L.length, cap5, ok, rfl, HOK.out, by show _ = _; rw [HLE.out], ?_, ?_⟩
    · rw [← HLE.out]
      exact (HO5.out.setCell (by omega) _).wide (by omega) (by simp)
    · exact (HB1.out.trans (HB5'.out.mono HB1.out.size)).setCell (by simp; omega) _
  · subst hs
    go_wp2_with fail
    refine (newBag_any lo hi a n cap l _ (HA.out.below HB1.out HH.out) (Nat.le_trans HH.out HB1.out.size) HN.out hm HL.out).mono ?_
    rintro e w2 ⟨a2, cap2, rfl, HO2, HB2⟩
    have HK2 : Hid (Blk w2 (B + 1) 1 (fun _ => .slice none 0 0)) := HK1.out.of_block (HB2.out.block _ (by omega))
    have r0 := HK2.out.cell (i := 0) (by omega)
    have f0 := HK2.out.frozen 0
    clear c0
    go_wp2
    have z0 := (HK2.out.set 0 (by omega) (.slice a2 n cap2)).cell (i := 0) (by omega)
    simp only [if_true] at z0
    refine bodyPost_ret (v := .tuple #[.agg #[.slice a2 n cap2], .bool false]) (by simp [results, Try.results19, go_sem, z0]) rfl ?_
    have hb := HB.out
    have hno : addOk l r t = false := by unfold addOk; rw [← HSB.out]; rfl
    have hle : addL l r t = l := by unfold addL; rw [hno]; rfl
    refine ⟨a2, n, cap2, false, rfl, hno.symm, by rw [hle]; exact HN.out, ?_, ?_⟩
    · rw [hle]
      exact (HO2.out.setCell (by omega) _).wide (by omega) (by simp)
    · exact (HB1.out.trans (HB2.out.mono HB1.out.size)).setCell (by simp; omega) _
end Go.Proofs.Ytijbngdafgmpaaa

/-
  spec.BagAdd.
-/
namespace Go.Proofs.Ytijbngdafgmpaaa
open Go.RowKit

theorem ok_times {l : List It} (h : okBag l = true) {i : Nat} (hi : i < l.length) : 0 ≤ (at' l i).2 ∧ (at' l i).2 ≤ 1000000 := by
  obtain ⟨V, g⟩ := good_of h
  have hx : at' l i ∈ l := by rw [at_get hi]; exact List.getElem_mem hi
  have := (okItem_split.1 (g.oks _ hx)).2
  omega
theorem putL_rows {r : List Int} {t : Int} {l : List It} {n : Nat} (h : ∀ i, i < l.length → (at' l i).1.length ≤ n) (hr : r.length ≤ n) {i : Nat} (hi : i < (putL r t l).length) : (at' (putL r t l) i).1.length ≤ n := by
  rcases putL_row (by rw [at_get hi]; exact List.getElem_mem hi : at' (putL r t l) i ∈ putL r t l) with e | e
  · rw [e]; exact hr
  · obtain ⟨k, hk, ek⟩ := List.getElem_of_mem e
    rw [← ek, ← at_get hk]; exact h k hk

set_option maxHeartbeats 2000000 in
set_option maxRecDepth 100000 in
theorem specAdd_any (lo hi lo' hi' : Nat) (a ra : Option Addr) (n cap q rc : Nat) (l : List It) (r : List Int) (t : Int) (w : World) (ha : BagIn lo hi w a l) (hr : RowIn lo' hi' w ra r) (hh : hi ≤ w.heap.size) (hh' : hi' ≤ w.heap.size) (hn : l.length = n) (hq : r.length = q) (hm : n ≤ 1048576) (hm' : q ≤ 1048576) (hl : ∀ i, i < n → (at' l i).1.length ≤ 1048576) :
    Calls Try.prog 27 #[.agg #[.slice a n cap], .slice ra q rc, .int .i64 t] w fun e w' => ∃ (a' : Option Addr) (n' cap' : Nat) (ok : Bool), e = .returned (.tuple #[.agg #[.slice a' n' cap'], .bool ok]) ∧ Hid (ok = addOk l r t) ∧ Hid ((addL l r t).length = n') ∧ Hid (BagIn w.heap.size w'.heap.size w' a' (addL l r t)) ∧ Hid (Below w.heap.size w w') := by
  have HA : Hid (BagIn lo hi w a l) := ha
  have HR : Hid (RowIn lo' hi' w ra r) := hr
  have HH : Hid (hi ≤ w.heap.size) := hh
  have HH' : Hid (hi' ≤ w.heap.size) := hh'
  have HN : Hid (l.length = n) := hn
  have HQ : Hid (r.length = q) := hq
  have HL : Hid (∀ i, i < n → (at' l i).1.length ≤ 1048576) := hl
  obtain ⟨B, HB⟩ : ∃ B, Hid (B = w.heap.size) := ⟨_, rfl⟩
  obtain ⟨s, HSB⟩ : ∃ s : Bool, Hid (s = okBag l) := ⟨_, rfl⟩
  clear ha hr hh hh' hn hq hl
  have HCP : Hid (∀ w0, Below w.heap.size w w0 → Calls Try.prog 63 #[.agg #[.slice a n cap]] w0 fun e w' => ∃ a' cap', e = .returned (.agg #[.slice a' n cap']) ∧ Hid (BagIn w0.heap.size w'.heap.size w' a' l) ∧ Hid (Below w0.heap.size w0 w')) := fun w0 h0 =>
    (l03Copy_any lo hi a n cap l w0 (HA.out.below h0 HH.out) (Nat.le_trans HH.out h0.size) HN.out hm HL.out).mono fun e w' ⟨v, he, h1, h2⟩ => by
      obtain ⟨a', cap', rfl, h3⟩ := h1.out.toIn
      exact ⟨a', cap', by rw [he, HN.out], h3.wide (by omega) (Nat.le_refl _), h2.out⟩
  go_enter Try.func27, Try.ntmps27
  go_wp2_with fail
  refine (specOk_any lo hi a n cap l s _ (HA.out.below (below2 w _ _) HH.out) (by have := HH.out; simp; omega) HN.out hm HL.out HSB.out).mono ?_
  rintro e w1 ⟨rfl, hb1⟩
  have HB1 : Hid (Below w.heap.size w w1) := (below2 w _ _).trans (hb1.mono (by simp; omega))
  have HK0 : Hid (Blk w1 B 1 (fun _ => .slice a n cap)) := ((blk_one w B HB.out _ _).alloc _).of_block (hb1.block _ (by rw [HB.out]; simp; omega))
  have HK1 : Hid (Blk w1 (B + 1) 1 (fun _ => .slice none 0 0)) := (blk_one _ (B + 1) (by rw [HB.out]; simp) _ _).of_block (hb1.block _ (by rw [HB.out]; simp))
  have hs1 : B + 1 + 1 ≤ w1.heap.size := by have := hb1.size; simp at this; rw [HB.out]; omega
  clear hb1
  rw [← HB.out]
  have c0 := HK0.out.cell (i := 0) (by omega)
  rcases Bool.eq_false_or_eq_true s with hs | hs
  · subst hs
    have HO : Hid (okBag l = true) := HSB.out.symm
    obtain ⟨tk, HTK⟩ : ∃ tk : Bool, Hid (tk = (decide (1 ≤ t) && decide (t ≤ 1000000))) := ⟨_, rfl⟩
    have HIN : Hid (∀ w0, Calls Try.prog 62 #[.int .i64 t, .int .i64 1, .int .i64 1000000] w0 fun e w' => e = .returned (.bool tk) ∧ w0 = w') := fun w0 => by rw [HTK.out]; exact l01In_any t 1 1000000 w0
    rcases Bool.eq_false_or_eq_true tk with ht | ht
    · subst ht
      have HT : Hid (1 ≤ t ∧ t ≤ 1000000) := by have := HTK.out; simp at this; exact this
      go_wp2_with (go_at_call 62; refine (HIN.out _).mono ?_; rintro e w1' ⟨rfl, rfl⟩)
      refine (HCP.out _ HB1.out).mono ?_
      rintro e w2 ⟨a2, cap2, rfl, HO2, HB2⟩
      have HB2' : Hid (Below w.heap.size w w2) := HB1.out.trans (HB2.out.mono HB1.out.size)
      have h300 : n ≤ 300 := by rw [← HN.out]; exact okBag_len HO.out
      go_wp2_with fail
      refine (l03Put_any w1.heap.size w2.heap.size lo' hi' a2 ra n cap2 q rc l r t w2 HO2.out (HR.out.below HB2'.out HH'.out) (Nat.le_refl _) (Nat.le_trans HH'.out HB2'.out.size) HN.out HQ.out hm hm' HL.out ⟨by have := HT.out; omega, HT.out.2⟩ (fun i hi => ok_times HO.out (by rw [HN.out]; exact hi)) HB2.out.size).mono ?_
      rintro e w3 ⟨a3, n3, cap3, rfl, HN3, HO3, HB3⟩
      have HB13 : Hid (Below w1.heap.size w1 w3) := HB2.out.trans (HB3.out.mono HB2.out.size)
      have hs3 : w1.heap.size ≤ w3.heap.size := HB13.out.size
      obtain ⟨s2, HS2⟩ : ∃ s2 : Bool, Hid (s2 = okBag (putL r t l)) := ⟨_, rfl⟩
      have hn3 : n3 ≤ 301 := by rw [← HN3.out]; have := putL_len_le (r := r) (t := t) (l := l); have := HN.out; omega
      have HL3 : Hid (∀ i, i < n3 → (at' (putL r t l) i).1.length ≤ 1048576) := fun i hi => putL_rows (fun k hk => HL.out k (by rw [← HN.out]; exact hk)) (by rw [HQ.out]; exact hm') (by rw [HN3.out]; exact hi)
      have HBB : Hid (Below w1.heap.size w1 (w3.alloc (.cells #[.slice a3 n3 cap3] 26))) := HB13.out.alloc hs3 _
      clear HO2 HB2 HB2'
      go_wp2_with fail
      refine (specOk_any w1.heap.size w3.heap.size a3 n3 cap3 (putL r t l) s2 _ (HO3.out.below (below1' w3 _) (Nat.le_refl _)) (by simp) HN3.out (by omega) HL3.out HS2.out).mono ?_
      rintro e w4 ⟨rfl, hb4⟩
      have HB4 : Hid (Below w1.heap.size w1 w4) := HBB.out.trans (hb4.mono (by simp; omega))
      have HBW4 : Hid (Below w.heap.size w w4) := HB1.out.trans (HB4.out.mono HB1.out.size)
      have HK4 : Hid (Blk w4 (B + 1) 1 (fun _ => .slice none 0 0)) := HK1.out.of_block (HB4.out.block _ (by omega))
      have HX4 : Hid (Blk w4 w3.heap.size 1 (fun _ => .slice a3 n3 cap3)) := (blk_one w3 _ rfl _ _).of_block (hb4.block _ (by simp))
      have HO4 : Hid (BagIn w1.heap.size w3.heap.size w4 a3 (putL r t l)) := (HO3.out.below (below1' w3 _) (Nat.le_refl _)).below hb4 (by simp)
      have hs4 : w3.heap.size < w4.heap.size := HX4.out.lt
      have c4 : w4.cell? ⟨B, 0, none⟩ = some (.slice a n cap) := cell_below c0 HB4.out (by omega)
      have x4 := HX4.out.cell (i := 0) (by omega)
      clear hb4 HBB HO3 c0
      rcases Bool.eq_false_or_eq_true s2 with h2 | h2
      · subst h2
        have r0 := HK4.out.cell (i := 0) (by omega)
        have f0 := HK4.out.frozen 0
        go_wp2
        have z0 := (HK4.out.set 0 (by omega) (.slice a3 n3 cap3)).cell (i := 0) (by omega)
        simp only [if_true] at z0
        refine bodyPost_ret (v := .tuple #[.agg #[.slice a3 n3 cap3], .bool true]) (by simp [results, Try.results27, go_sem, z0]) rfl ?_
        have hb := HB.out
        have hyes : addOk l r t = true := by unfold addOk; rw [← HSB.out, ← HTK.out, ← HS2.out]; rfl
        have hle : addL l r t = putL r t l := by unfold addL; rw [hyes]; rfl
        refine ⟨a3, n3, cap3, true, rfl, hyes.symm, by rw [hle]; exact HN3.out, ?_, ?_⟩
        · rw [hle]
          have hx : BagIn w1.heap.size w3.heap.size (w4.setCell ⟨B + 1, 0, none⟩ (.slice a3 n3 cap3)) a3 (putL r t l) := HO4.out.kept (p := fun k => k = B + 1) (((KeptP.refl (fun k => k = B + 1) w4)).setCell (g := B + 1) rfl _) (by omega) (fun k h1 h2 h3 => by omega)
          exact hx.wide (by omega) (by simp; omega)
        · exact HBW4.out.setCell (by simp; omega) _
      · subst h2
        go_wp2_with fail
        refine (HCP.out _ HBW4.out).mono ?_
        rintro e wz ⟨az, capz, rfl, HOz, HBz⟩
        have HKz : Hid (Blk wz (B + 1) 1 (fun _ => .slice none 0 0)) := HK4.out.of_block (HBz.out.block _ (by omega))
        have r0 := HKz.out.cell (i := 0) (by omega)
        have f0 := HKz.out.frozen 0
        clear c4 x4
        go_wp2
        have z0 := (HKz.out.set 0 (by omega) (.slice az n capz)).cell (i := 0) (by omega)
        simp only [if_true] at z0
        refine bodyPost_ret (v := .tuple #[.agg #[.slice az n capz], .bool false]) (by simp [results, Try.results27, go_sem, z0]) rfl ?_
        have hb := HB.out
        have hno : addOk l r t = false := by unfold addOk; rw [← HS2.out]; simp
        have hle : addL l r t = l := by unfold addL; rw [hno]; rfl
        refine ⟨az, n, capz, false, rfl, hno.symm, by rw [hle]; exact HN.out, ?_, ?_⟩
        · rw [hle]
          have hx : BagIn w4.heap.size wz.heap.size (wz.setCell ⟨B + 1, 0, none⟩ (.slice az n capz)) az l := HOz.out.kept (p := fun k => k = B + 1) (((KeptP.refl (fun k => k = B + 1) wz)).setCell (g := B + 1) rfl _) (Nat.le_refl _) (fun k h1 h2 h3 => by omega)
          exact hx.wide (by have := HBW4.out.size; omega) (by simp)
        · exact ((HBW4.out).trans (HBz.out.mono (HBW4.out).size)).setCell (by simp; omega) _
    · subst ht
      go_wp2_with (go_at_call 62; refine (HIN.out _).mono ?_; rintro e w1' ⟨rfl, rfl⟩)
      refine (HCP.out _ HB1.out).mono ?_
      rintro e wz ⟨az, capz, rfl, HOz, HBz⟩
      have HKz : Hid (Blk wz (B + 1) 1 (fun _ => .slice none 0 0)) := HK1.out.of_block (HBz.out.block _ (by omega))
      have r0 := HKz.out.cell (i := 0) (by omega)
      have f0 := HKz.out.frozen 0
      clear c0
      go_wp2
      have z0 := (HKz.out.set 0 (by omega) (.slice az n capz)).cell (i := 0) (by omega)
      simp only [if_true] at z0
      refine bodyPost_ret (v := .tuple #[.agg #[.slice az n capz], .bool false]) (by simp [results, Try.results27, go_sem, z0]) rfl ?_
      have hb := HB.out
      have hno : addOk l r t = false := by unfold addOk; rw [← HTK.out]; simp
      have hle : addL l r t = l := by unfold addL; rw [hno]; rfl
      refine ⟨az, n, capz, false, rfl, hno.symm, by rw [hle]; exact HN.out, ?_, ?_⟩
      · rw [hle]
        have hx : BagIn w1.heap.size wz.heap.size (wz.setCell ⟨B + 1, 0, none⟩ (.slice az n capz)) az l := HOz.out.kept (p := fun k => k = B + 1) (((KeptP.refl (fun k => k = B + 1) wz)).setCell (g := B + 1) rfl _) (Nat.le_refl _) (fun k h1 h2 h3 => by omega)
        exact hx.wide (by have := HB1.out.size; omega) (by simp)
      · exact ((HB1.out).trans (HBz.out.mono (HB1.out).size)).setCell (by simp; omega) _
  · subst hs
    go_wp2_with fail
    refine (HCP.out _ HB1.out).mono ?_
    rintro e wz ⟨az, capz, rfl, HOz, HBz⟩
    have HKz : Hid (Blk wz (B + 1) 1 (fun _ => .slice none 0 0)) := HK1.out.of_block (HBz.out.block _ (by omega))
    have r0 := HKz.out.cell (i := 0) (by omega)
    have f0 := HKz.out.frozen 0
    clear c0
    go_wp2
    have z0 := (HKz.out.set 0 (by omega) (.slice az n capz)).cell (i := 0) (by omega)
    simp only [if_true] at z0
    refine bodyPost_ret (v := .tuple #[.agg #[.slice az n capz], .bool false]) (by simp [results, Try.results27, go_sem, z0]) rfl ?_
    have hb := HB.out
    have hno : addOk l r t = false := by unfold addOk; rw [← HSB.out]; rfl
    have hle : addL l r t = l := by unfold addL; rw [hno]; rfl
    refine ⟨az, n, capz, false, rfl, hno.symm, by rw [hle]; exact HN.out, ?_, ?_⟩
    · rw [hle]
      have hx : BagIn w1.heap.size wz.heap.size (wz.setCell ⟨B + 1, 0, none⟩ (.slice az n capz)) az l := HOz.out.kept (p := fun k => k = B + 1) (((KeptP.refl (fun k => k = B + 1) wz)).setCell (g := B + 1) rfl _) (Nat.le_refl _) (fun k h1 h2 h3 => by omega)
      exact hx.wide (by have := HB1.out.size; omega) (by simp)
    · exact ((HB1.out).trans (HBz.out.mono (HB1.out).size)).setCell (by simp; omega) _
end Go.Proofs.Ytijbngdafgmpaaa

/-
  laws.sameBag of two bags that are the same.
-/
namespace Go.Proofs.Ytijbngdafgmpaaa
open Go.RowKit

set_option maxHeartbeats 2000000 in
set_option maxRecDepth 100000 in
theorem sameBag_any (lo hi lo' hi' : Nat) (a a' : Option Addr) (n cap cap' : Nat) (l : List It) (w : World) (ha : BagIn lo hi w a l) (hb : BagIn lo' hi' w a' l) (hh : hi ≤ w.heap.size) (hh' : hi' ≤ w.heap.size) (hn : l.length = n) (hm : n ≤ 1048576) (hr : ∀ i, i < n → (at' l i).1.length ≤ 1048576) :
    Calls Try.prog 29 #[.agg #[.slice a n cap], .agg #[.slice a' n cap']] w fun e w' => e = .returned (.bool true) ∧ Below w.heap.size w w' := by
  have HN : Hid (l.length = n) := hn
  have HA : Hid (BagIn lo hi w a l) := ha
  have HBB : Hid (BagIn lo' hi' w a' l) := hb
  have HH : Hid (hi ≤ w.heap.size ∧ hi' ≤ w.heap.size) := ⟨hh, hh'⟩
  have HQ : Hid (∀ i, i < n → (at' l i).1.length ≤ 1048576) := hr
  obtain ⟨B, HB⟩ : ∃ B, Hid (B = w.heap.size) := ⟨_, rfl⟩
  clear ha hb hn hh hh' hr
  have HK0 : Hid (Blk ((w.alloc (.cells #[.slice a n cap] 26)).alloc (.cells #[.slice a' n cap'] 26)) B 1 (fun _ => .slice a n cap)) := (blk_one w B HB.out _ _).alloc _
  have HK1 : Hid (Blk ((w.alloc (.cells #[.slice a n cap] 26)).alloc (.cells #[.slice a' n cap'] 26)) (B + 1) 1 (fun _ => .slice a' n cap')) := blk_one _ (B + 1) (by rw [HB.out]; simp) _ _
  go_enter Try.func29, Try.ntmps29
  go_wp2
  rw [← HB.out]
  go_loopw [5] (fun i wr => ∃ k : Nat, i = .int .i64 k ∧ k ≤ n ∧ Hid (Blk wr B 1 (fun _ => .slice a n cap)) ∧ Hid (Blk wr (B + 1) 1 (fun _ => .slice a' n cap')) ∧ Hid (Below w.heap.size w wr)) (fun i _ => n - (intOf i).toNat)
  case atStart => exact ⟨0, rfl, by omega, HK0, HK1, below2 w _ _⟩
  case round =>
    obtain ⟨k, rfl, hk, HKA, HKB, HL⟩ := hrel
    have q0 := HKA.out.cell (i := 0) (by omega)
    have q1 := HKB.out.cell (i := 0) (by omega)
    by_cases hlt : k < n
    · have hlt1 : (k : Int) < (n : Int) := by omega
      obtain ⟨b, o, rfl, _, _, ra, rc, hc1, hrow, hc2⟩ := (HA.out.below HL.out HH.out.1).item (k := k) (by rw [HN.out]; exact hlt)
      obtain ⟨b', o', rfl, _, _, ra', rc', hc1', hrow', hc2'⟩ := (HBB.out.below HL.out HH.out.2).item (k := k) (by rw [HN.out]; exact hlt)
      have HROW : Hid (RowIn lo hi wr ra (at' l k).1) := hrow
      have HROW' : Hid (RowIn lo' hi' wr ra' (at' l k).1) := hrow'
      obtain ⟨q, HQ1⟩ : ∃ q : Nat, Hid (q = (at' l k).1.length) := ⟨_, rfl⟩
      obtain ⟨t, HT⟩ : ∃ t : Int, Hid (t = (at' l k).2) := ⟨_, rfl⟩
      change wr.cell? _ = some (.slice ra (at' l k).1.length rc) at hc1
      change wr.cell? _ = some (.int .i64 (at' l k).2) at hc2
      change wr.cell? _ = some (.slice ra' (at' l k).1.length rc') at hc1'
      change wr.cell? _ = some (.int .i64 (at' l k).2) at hc2'
      rw [← HQ1.out] at hc1 hc1'
      rw [← HT.out] at hc2 hc2'
      clear hrow hrow'
      have hq : q ≤ 1048576 := by rw [HQ1.out]; exact HQ.out k hlt
      have HC : Hid (∀ w0, Below wr.heap.size wr w0 → Calls Try.prog 20 #[.slice ra q rc, .slice ra' q rc'] w0 fun e w' => e = .returned (.bool true) ∧ Hid (Below wr.heap.size wr w') ∧ (w'.cell? ⟨B, 0, none⟩ = some (.slice (some ⟨b, o, none⟩) n cap) ∧ w'.cell? ⟨B + 1, 0, none⟩ = some (.slice (some ⟨b', o', none⟩) n cap') ∧ w'.cell? ⟨b, o + k * 2, none⟩ = some (.slice ra q rc) ∧ w'.cell? ⟨b, o + k * 2 + 1, none⟩ = some (.int .i64 t) ∧ w'.cell? ⟨b', o' + k * 2, none⟩ = some (.slice ra' q rc') ∧ w'.cell? ⟨b', o' + k * 2 + 1, none⟩ = some (.int .i64 t))) := by
        intro w0 h
        have e1 := HH.out.1; have e2 := HH.out.2; have e3 := HL.out.size; have e4 := h.size
        refine (sameInts_any lo hi lo' hi' ra ra' q q rc rc' (at' l k).1 (at' l k).1 true w0 (HROW.out.below h (by omega)) (HROW'.out.below h (by omega)) HQ1.out.symm HQ1.out.symm hq (by simp)).mono ?_
        rintro e w' ⟨h1, h2⟩
        have hb' : Below wr.heap.size wr w' := h.trans (h2.mono e4)
        exact ⟨h1, hb', cell_below q0 hb' (lt_of_cell q0), cell_below q1 hb' (lt_of_cell q1), cell_below hc1 hb' (lt_of_cell hc1), cell_below hc2 hb' (lt_of_cell hc2), cell_below hc1' hb' (lt_of_cell hc1'), cell_below hc2' hb' (lt_of_cell hc2')⟩
      go_wp2_with fail
      go_region_held (fun w' => w'.cell? ⟨B, 0, none⟩ = some (.slice (some ⟨b, o, none⟩) n cap) ∧ w'.cell? ⟨B + 1, 0, none⟩ = some (.slice (some ⟨b', o', none⟩) n cap') ∧ w'.cell? ⟨b, o + k * 2, none⟩ = some (.slice ra q rc) ∧ w'.cell? ⟨b, o + k * 2 + 1, none⟩ = some (.int .i64 t) ∧ w'.cell? ⟨b', o' + k * 2, none⟩ = some (.slice ra' q rc') ∧ w'.cell? ⟨b', o' + k * 2 + 1, none⟩ = some (.int .i64 t)) (first | exact ⟨q0, q1, hc1, hc2, hc1', hc2'⟩ | exact hk1) ((go_at_call 20; refine (HC.out _ ((Below.refl _ _).drew)).mono ?_; rintro e w1 ⟨rfl, B1, hk1⟩))
      go_wp2
      go_roundw
      case rel => exact ⟨k + 1, by go_num, by omega, HKA.out.of_block (B1.out.block _ HKA.out.lt), HKB.out.of_block (B1.out.block _ HKB.out.lt), HL.out.trans (B1.out.mono HL.out.size)⟩
      case measure => simp [intOf]; omega
    · go_wp2
      go_ret
      exact ⟨rfl, HL.out⟩
end Go.Proofs.Ytijbngdafgmpaaa

/-
  Joined bags.
-/
namespace Go.Proofs.Ytijbngdafgmpaaa
open Go.RowKit

theorem joinL_even {W : Nat} {a b : List It} (ha : Even W a) (hb : Even W b) : Even W (joinL a b) := by
  induction b generalizing a with
  | nil => exact ha
  | cons x xs ih => exact ih (a := putL x.1 x.2 a) (putL_even ha (hb x (List.mem_cons_self ..))) (fun y hy => hb y (List.mem_cons_of_mem _ hy))
theorem Good.join {W : Nat} {a b : List It} (ha : Good W a) (hb : Good W b) (h : a.length + b.length ≤ 300) : Good W (joinL a b) :=
  ⟨Nat.le_trans joinL_len_le h, joinL_oks ha.oks hb.oks, joinL_even ha.even hb.even, joinL_srt ha.srt⟩
theorem join_yes {W : Nat} {a b : List It} (ha : Good W a) (hb : Good W b) (h : a.length + b.length ≤ 300) : joinOk a b = true ∧ joinR a b = joinL a b := by
  have h1 : joinOk a b = true := by unfold joinOk; rw [ha.ok, hb.ok, (ha.join hb h).ok]; rfl
  exact ⟨h1, joinR_yes h1⟩
theorem good_ext {W : Nat} {a b : List It} (ha : Good W a) (hb : Good W b) (h : ∀ q, timesOf a q = timesOf b q) : a = b :=
  srt_ext ha.srt hb.srt (fun x hx => (okItem_split.1 (ha.oks x hx)).2.1) (fun x hx => (okItem_split.1 (hb.oks x hx)).2.1) h
theorem Good.times {W : Nat} {a b : List It} (ha : Good W a) (hb : Good W b) (q : List Int) : timesOf (joinL a b) q = min (timesOf a q + timesOf b q) 1000000 :=
  joinL_times ha.srt hb.srt (fun q => oks_times ha.oks q) (fun x hx => by have := (okItem_split.1 (hb.oks x hx)).2; omega) q
theorem join_comm {W : Nat} {a b : List It} (ha : Good W a) (hb : Good W b) (h : a.length + b.length ≤ 300) : joinL a b = joinL b a :=
  good_ext (ha.join hb h) (hb.join ha (by omega)) fun q => by rw [ha.times hb, hb.times ha, Int.add_comm]
theorem join_assoc {W : Nat} {a b c : List It} (ha : Good W a) (hb : Good W b) (hc : Good W c) (h : a.length + b.length + c.length ≤ 300) : joinL (joinL a b) c = joinL a (joinL b c) := by
  have gab := ha.join hb (by omega)
  have gbc := hb.join hc (by omega)
  have l1 := joinL_len_le (a := a) (b := b)
  have l2 := joinL_len_le (a := b) (b := c)
  refine good_ext (gab.join hc (by omega)) (ha.join gbc (by omega)) fun q => ?_
  rw [gab.times hc, ha.times gbc, ha.times hb, hb.times hc]
  have h1 := oks_times ha.oks q
  have h2 := oks_times hb.oks q
  have h3 := oks_times hc.oks q
  omega
theorem sm_cons (x : It) (l : List It) : sm (x :: l) = x.2 + sm l := by simp [sm]
theorem oks_nonneg {l : List It} (h : Oks l) : ∀ x ∈ l, 0 ≤ x.2 := fun x hx => by have := (okItem_split.1 (h x hx)).2; omega
theorem sm_join {a b : List It} (ha : Oks a) (hb : Oks b) (h : sm a + sm b ≤ 1000000) : sm (joinL a b) = sm a + sm b := by
  induction b generalizing a with
  | nil => simp [joinL, sm]
  | cons x xs ih =>
    have hx := hb x (List.mem_cons_self ..)
    have hxs : Oks xs := fun y hy => hb y (List.mem_cons_of_mem _ hy)
    have h0 := sm_nonneg (oks_nonneg hxs)
    rw [sm_cons] at h
    have e : sm (putL x.1 x.2 a) = sm a + x.2 := sm_put fun y hy => by have := mem_le_sm (oks_nonneg ha) hy; omega
    have e2 : joinL a (x :: xs) = joinL (putL x.1 x.2 a) xs := rfl
    rw [e2, ih (putL_oks ha hx) hxs (by rw [e]; omega), e, sm_cons]
    omega
theorem size_sm {l : List It} (h : okBag l = true) (hs : sm l ≤ 1000000) : sizeOfBag l = sm l := by
  unfold sizeOfBag; rw [if_pos h, sumTo_all]; omega
theorem each_each (l : List It) : eachOf (eachOf l) = eachOf l := by simp [eachOf]
theorem eachOf_len (l : List It) : (eachOf l).length = l.length := by simp [eachOf]
theorem eachOf_row {l : List It} {i : Nat} (h : i < l.length) : (at' (eachOf l) i).1 = (at' l i).1 := by simp [eachOf, at', List.getD, h]
/-- what the law asks of drawn bags -/
structure Jd (A D C X AB BC : List It) : Prop where
  ga : Good 2 A
  gd : Good 2 D
  gc : Good 2 C
  gx : Good 2 X
  gab : Good 2 AB
  gbc : Good 2 BC
  x1 : joinOk A D = true ∧ joinR A D = X
  x2 : joinOk D A = true ∧ joinR D A = X
  x3 : joinR X C = AB
  x4 : joinR D C = BC
  x5 : joinOk A BC = true ∧ joinR A BC = AB
  add : addL D [4, 4] 2 = C
  size : sizeOfBag X = sizeOfBag A + sizeOfBag D
  sa : 0 ≤ sizeOfBag A ∧ sizeOfBag A ≤ 21
  sd : 0 ≤ sizeOfBag D ∧ sizeOfBag D ≤ 21
theorem jd_of {A D : List It} (ha : Drn 2 7 A) (hd : Drn 2 7 D) : ∃ C X AB BC, Jd A D C X AB BC := by
  have hi : okItem [4, 4] 2 = true := by decide
  have gc : Good 2 (putL [4, 4] 2 D) := ⟨by have := putL_len_le (r := [4, 4]) (t := 2) (l := D); have := hd.len; omega, putL_oks hd.good.oks hi, putL_even hd.good.even rfl, putL_srt hd.good.srt⟩
  have lc : (putL [4, 4] 2 D).length ≤ 8 := by have := putL_len_le (r := [4, 4]) (t := 2) (l := D); have := hd.len; omega
  have la := ha.len
  have ld := hd.len
  have hadd : addL D [4, 4] 2 = putL [4, 4] 2 D := by
    have : addOk D [4, 4] 2 = true := by unfold addOk; rw [hd.good.ok, gc.ok]; decide
    unfold addL; rw [this]; rfl
  have gx := ha.good.join hd.good (by omega)
  have gbc := hd.good.join gc (by omega)
  have lx := joinL_len_le (a := A) (b := D)
  have lbc := joinL_len_le (a := D) (b := putL [4, 4] 2 D)
  have gab := gx.join gc (by omega)
  have e1 := join_yes ha.good hd.good (by omega)
  have e2 := join_yes hd.good ha.good (by omega)
  have e3 := join_yes gx gc (by omega)
  have e4 := join_yes hd.good gc (by omega)
  have e5 := join_yes ha.good gbc (by omega)
  have hsa := ha.sum
  have hsd := hd.sum
  have na := sm_nonneg (oks_nonneg ha.good.oks)
  have nd := sm_nonneg (oks_nonneg hd.good.oks)
  have sx := sm_join ha.good.oks hd.good.oks (by omega)
  refine ⟨putL [4, 4] 2 D, joinL A D, joinL (joinL A D) (putL [4, 4] 2 D), joinL D (putL [4, 4] 2 D), ha.good, hd.good, gc, gx, gab, gbc, e1, ⟨e2.1, by rw [e2.2, join_comm hd.good ha.good (by omega)]⟩, e3.2, e4.2, ⟨e5.1, by rw [e5.2, join_assoc ha.good hd.good gc (by omega)]⟩, hadd, ?_, ?_, ?_⟩
  · rw [size_sm gx.ok (by omega), size_sm ha.good.ok (by omega), size_sm hd.good.ok (by omega), sx]
  · rw [size_sm ha.good.ok (by omega)]; omega
  · rw [size_sm hd.good.ok (by omega)]; omega
theorem good_b {W : Nat} {l : List It} {n : Nat} (h : Good W l) (hn : l.length = n) : n ≤ 1048576 ∧ ∀ i, i < n → (at' l i).1.length ≤ 1048576 :=
  ⟨by have := h.len; omega, fun i hi => by have := ok_rows h.ok (i := i) (by omega); omega⟩
theorem lit44 (w : World) (b : Nat) (hb : b = w.heap.size) : RowIn b (w.alloc (.cells #[.int .i64 4, .int .i64 4] 3)).heap.size (w.alloc (.cells #[.int .i64 4, .int .i64 4] 3)) (some ⟨b, 0, none⟩) [4, 4] := by
  subst hb
  refine .inr ⟨w.heap.size, 0, rfl, Nat.le_refl _, by simp, fun i hi => ?_⟩
  have hi' : i < 2 := by simpa using hi
  have hk := blk_two w w.heap.size rfl (.int .i64 4) (.int .i64 4) 3
  rw [Nat.zero_add, hk.cell hi']
  rcases i with _ | _ | i
  · rfl
  · rfl
  · omega
end Go.Proofs.Ytijbngdafgmpaaa

/-
  The walk of FnBagsJoined.
-/
namespace Go.Proofs.Ytijbngdafgmpaaa
open Go.RowKit
set_option maxRecDepth 100000 in
theorem field26 (a : Option Addr) (n c : Nat) (w : World) : Sem.run Try.prog (Instr.field 26 (.agg #[.slice a n c]) 0) w = .ok (.slice a n c) w := by kernel_rfl

set_option maxHeartbeats 16000000 in
set_option maxRecDepth 100000 in
theorem law_4 (a0 : Option Addr) (n0 cap0 : Nat) (w : World) (hc0 : CodeIn w a0 n0) :
    Calls Try.prog 4 #[.slice a0 n0 cap0] w fun e w' => e = .returned (.bool true) ∧ Below w.heap.size w w' := by
  by_cases hbig : (1048576 : Int) < (n0 : Int)
  · go_enter Try.func4, Try.ntmps4
    go_wp2_with fail
    refine (big_yes a0 n0 cap0 w hbig).mono ?_
    rintro e w1 ⟨rfl, rfl⟩
    go_wp2
    go_ret
    exact ⟨rfl, Below.refl _ _⟩
  · have HCD : Hid (CodeIn w a0 n0) := hc0
    clear hc0
    go_enter Try.func4, Try.ntmps4
    go_wp2_with fail
    refine (big_no a0 n0 cap0 w (by omega)).mono ?_
    rintro e w1 ⟨rfl, rfl⟩
    go_wp2_with fail
    refine (drawBags_any a0 n0 cap0 w (by omega) HCD.out).mono ?_
    rintro e w2 ⟨a, na, ca, A, d, nd, cd, D, rfl, HR, XA, XD, HB2⟩
    obtain ⟨C, X, AB, BC, hj⟩ := jd_of HR.out.2.1 HR.out.2.2.2
    have HJ : Hid (Jd A D C X AB BC) := hj
    have HNA : Hid (A.length = na) := HR.out.1
    have HND : Hid (D.length = nd) := HR.out.2.2.1
    clear hj HR
    have HD_0 : Hid (Held w ((w2.alloc (.cells #[.slice a na ca] 26)).alloc (.cells #[.slice d nd cd] 26)) [(w2.heap.size + 1, .slice d nd cd), (w2.heap.size, .slice a na ca)]) := by
      have h0 : Held w w2 [] := ⟨HB2.out, fun x hx => by simp at hx⟩
      have h := (h0.more (.slice a na ca) 26).more (.slice d nd cd) 26
      simp only [World.size_alloc] at h
      exact h
    have BB : Hid (Below w2.heap.size w2 ((w2.alloc (.cells #[.slice a na ca] 26)).alloc (.cells #[.slice d nd cd] 26))) := below2 w2 _ _
    have ZZ1 : Hid (w.heap.size ≤ w2.heap.size) := HB2.out.size
    have FA_2 : Hid (BagIn w.heap.size w2.heap.size w2 a A) := XA.out
    have FD_3 : Hid (BagIn w.heap.size w2.heap.size w2 d D) := XD.out
    clear XA XD
    have ZZ4 : Hid (w2.heap.size ≤ ((w2.alloc (.cells #[.slice a na ca] 26)).alloc (.cells #[.slice d nd cd] 26)).heap.size) := BB.out.size
    have FA_4 : Hid (BagIn w.heap.size w2.heap.size ((w2.alloc (.cells #[.slice a na ca] 26)).alloc (.cells #[.slice d nd cd] 26)) a A) := FA_2.out.below BB.out (by have y0 := ZZ1.out; have y1 := ZZ4.out; omega)
    have FD_4 : Hid (BagIn w.heap.size w2.heap.size ((w2.alloc (.cells #[.slice a na ca] 26)).alloc (.cells #[.slice d nd cd] 26)) d D) := FD_3.out.below BB.out (by have y0 := ZZ1.out; have y1 := ZZ4.out; omega)
    clear FA_2 FD_3
    have ZZ5 : Hid (((w2.alloc (.cells #[.slice a na ca] 26)).alloc (.cells #[.slice d nd cd] 26)).heap.size = w2.heap.size + 1 + 1) := by show _ = _; simp
    obtain ⟨w3, HW3⟩ : ∃ w3, Hid (w3 = ((w2.alloc (.cells #[.slice a na ca] 26)).alloc (.cells #[.slice d nd cd] 26))) := ⟨_, rfl⟩
    have q_6 := HD_0.out.cell (b := w2.heap.size + 1) (v := .slice d nd cd) (by simp)
    go_wp2_with fail
    rw [← HW3.out]
    rw [← HW3.out] at FA_4 FD_4 HD_0 ZZ4 ZZ5 q_6
    have HRW : Hid (RowIn (w2.heap.size + 1 + 1) (w3.alloc (.cells #[.int .i64 4, .int .i64 4] 3)).heap.size (w3.alloc (.cells #[.int .i64 4, .int .i64 4] 3)) (some ⟨w2.heap.size + 1 + 1, 0, none⟩) [4, 4]) := lit44 w3 _ (by have y0 := ZZ1.out; have y1 := ZZ4.out; have y2 := ZZ5.out; omega)
    refine (specAdd_any w.heap.size w2.heap.size (w2.heap.size + 1 + 1) (w3.alloc (.cells #[.int .i64 4, .int .i64 4] 3)).heap.size d (some ⟨w2.heap.size + 1 + 1, 0, none⟩) nd cd 2 2 D [4, 4] 2 _ (FD_4.out.below (below1' w3 _) (by have y0 := ZZ1.out; have y1 := ZZ4.out; have y2 := ZZ5.out; omega)) HRW.out (by simp; have y0 := ZZ1.out; have y1 := ZZ4.out; have y2 := ZZ5.out; omega) (Nat.le_refl _) HND.out rfl (good_b HJ.out.gd HND.out).1 (by omega) (good_b HJ.out.gd HND.out).2).mono ?_
    rintro e w4 ⟨c, nc, cc, okc, rfl, _, HNC, XC, BC4⟩
    rw [HJ.out.add] at HNC XC
    have B4 : Hid (Below w3.heap.size w3 w4) := (below1' w3 _).trans (BC4.out.mono (by simp))
    clear q_6
    have HD_7 : Hid (Held w w4 [(w2.heap.size + 1, .slice d nd cd), (w2.heap.size, .slice a na ca)]) := HD_0.out.below B4.out
    clear HD_0
    have ZZ8 : Hid (w3.heap.size ≤ w4.heap.size) := B4.out.size
    have FA_8 : Hid (BagIn w.heap.size w2.heap.size w4 a A) := FA_4.out.below B4.out (by have y0 := ZZ1.out; have y1 := ZZ4.out; have y2 := ZZ5.out; have y3 := ZZ8.out; omega)
    have FD_8 : Hid (BagIn w.heap.size w2.heap.size w4 d D) := FD_4.out.below B4.out (by have y0 := ZZ1.out; have y1 := ZZ4.out; have y2 := ZZ5.out; have y3 := ZZ8.out; omega)
    clear FA_4 FD_4
    have FC_9 : Hid (BagIn w3.heap.size w4.heap.size w4 c C) := XC.out.wide (by simp) (Nat.le_refl _)
    clear XC BC4 B4 HRW
    have BA_10 : Hid (Below w4.heap.size w4 (w4.alloc (.cells #[.slice c nc cc] 26))) := below1' w4 _
    have HD_11 : Hid (Held w (w4.alloc (.cells #[.slice c nc cc] 26)) [(w4.heap.size, .slice c nc cc), (w2.heap.size + 1, .slice d nd cd), (w2.heap.size, .slice a na ca)]) := HD_7.out.more _ _
    clear HD_7
    have ZZ12 : Hid ((w4.alloc (.cells #[.slice c nc cc] 26)).heap.size = w4.heap.size + 1) := by show _ = _; simp
    have ZZ13 : Hid (w4.heap.size ≤ (w4.alloc (.cells #[.slice c nc cc] 26)).heap.size) := BA_10.out.size
    have FA_13 : Hid (BagIn w.heap.size w2.heap.size (w4.alloc (.cells #[.slice c nc cc] 26)) a A) := FA_8.out.below BA_10.out (by have y0 := ZZ1.out; have y1 := ZZ4.out; have y2 := ZZ5.out; have y3 := ZZ8.out; have y4 := ZZ12.out; have y5 := ZZ13.out; omega)
    have FD_13 : Hid (BagIn w.heap.size w2.heap.size (w4.alloc (.cells #[.slice c nc cc] 26)) d D) := FD_8.out.below BA_10.out (by have y0 := ZZ1.out; have y1 := ZZ4.out; have y2 := ZZ5.out; have y3 := ZZ8.out; have y4 := ZZ12.out; have y5 := ZZ13.out; omega)
    have FC_13 : Hid (BagIn w3.heap.size w4.heap.size (w4.alloc (.cells #[.slice c nc cc] 26)) c C) := FC_9.out.below BA_10.out (by have y0 := ZZ1.out; have y1 := ZZ4.out; have y2 := ZZ5.out; have y3 := ZZ8.out; have y4 := ZZ12.out; have y5 := ZZ13.out; omega)
    clear FA_8 FD_8 FC_9
    clear BA_10
    have q_14 := HD_11.out.cell (b := w2.heap.size) (v := .slice a na ca) (by simp)
    have q_15 := HD_11.out.cell (b := w2.heap.size + 1) (v := .slice d nd cd) (by simp)
    go_wp2_with fail
    refine (bagJoin_any w.heap.size w2.heap.size w.heap.size w2.heap.size a d na ca nd cd A D _ FA_13.out FD_13.out (by have y0 := ZZ1.out; have y1 := ZZ4.out; have y2 := ZZ5.out; have y3 := ZZ8.out; have y4 := ZZ12.out; have y5 := ZZ13.out; omega) (by have y0 := ZZ1.out; have y1 := ZZ4.out; have y2 := ZZ5.out; have y3 := ZZ8.out; have y4 := ZZ12.out; have y5 := ZZ13.out; omega) HNA.out HND.out (good_b HJ.out.ga HNA.out).1 (good_b HJ.out.gd HND.out).1 (good_b HJ.out.ga HNA.out).2 (good_b HJ.out.gd HND.out).2).mono ?_
    rintro e w5 ⟨x, nx, cx, ok5, rfl, HO_16, HN_16, X_16, B_16⟩
    rw [HJ.out.x1.2] at HN_16 X_16
    obtain rfl : ok5 = true := by rw [HO_16.out]; exact HJ.out.x1.1
    clear q_14 q_15
    have HD_17 : Hid (Held w w5 [(w4.heap.size, .slice c nc cc), (w2.heap.size + 1, .slice d nd cd), (w2.heap.size, .slice a na ca)]) := HD_11.out.below B_16.out
    clear HD_11
    have ZZ18 : Hid ((w4.alloc (.cells #[.slice c nc cc] 26)).heap.size ≤ w5.heap.size) := B_16.out.size
    have FA_18 : Hid (BagIn w.heap.size w2.heap.size w5 a A) := FA_13.out.below B_16.out (by have y0 := ZZ1.out; have y1 := ZZ4.out; have y2 := ZZ5.out; have y3 := ZZ8.out; have y4 := ZZ12.out; have y5 := ZZ13.out; have y6 := ZZ18.out; omega)
    have FD_18 : Hid (BagIn w.heap.size w2.heap.size w5 d D) := FD_13.out.below B_16.out (by have y0 := ZZ1.out; have y1 := ZZ4.out; have y2 := ZZ5.out; have y3 := ZZ8.out; have y4 := ZZ12.out; have y5 := ZZ13.out; have y6 := ZZ18.out; omega)
    have FC_18 : Hid (BagIn w3.heap.size w4.heap.size w5 c C) := FC_13.out.below B_16.out (by have y0 := ZZ1.out; have y1 := ZZ4.out; have y2 := ZZ5.out; have y3 := ZZ8.out; have y4 := ZZ12.out; have y5 := ZZ13.out; have y6 := ZZ18.out; omega)
    clear FA_13 FD_13 FC_13
    have FX_19 : Hid (BagIn (w4.alloc (.cells #[.slice c nc cc] 26)).heap.size w5.heap.size w5 x X) := X_16.out.toIn
    have HFX : Hid (X.length = nx) := HN_16.out
    clear X_16 B_16 HN_16 HO_16
    have BA_20 : Hid (Below w5.heap.size w5 (w5.alloc (.cells #[.slice x nx cx] 26))) := below1' w5 _
    have HD_21 : Hid (Held w (w5.alloc (.cells #[.slice x nx cx] 26)) [(w5.heap.size, .slice x nx cx), (w4.heap.size, .slice c nc cc), (w2.heap.size + 1, .slice d nd cd), (w2.heap.size, .slice a na ca)]) := HD_17.out.more _ _
    clear HD_17
    have ZZ22 : Hid ((w5.alloc (.cells #[.slice x nx cx] 26)).heap.size = w5.heap.size + 1) := by show _ = _; simp
    have ZZ23 : Hid (w5.heap.size ≤ (w5.alloc (.cells #[.slice x nx cx] 26)).heap.size) := BA_20.out.size
    have FA_23 : Hid (BagIn w.heap.size w2.heap.size (w5.alloc (.cells #[.slice x nx cx] 26)) a A) := FA_18.out.below BA_20.out (by have y0 := ZZ1.out; have y1 := ZZ4.out; have y2 := ZZ5.out; have y3 := ZZ8.out; have y4 := ZZ12.out; have y5 := ZZ13.out; have y6 := ZZ18.out; have y7 := ZZ22.out; have y8 := ZZ23.out; omega)
    have FD_23 : Hid (BagIn w.heap.size w2.heap.size (w5.alloc (.cells #[.slice x nx cx] 26)) d D) := FD_18.out.below BA_20.out (by have y0 := ZZ1.out; have y1 := ZZ4.out; have y2 := ZZ5.out; have y3 := ZZ8.out; have y4 := ZZ12.out; have y5 := ZZ13.out; have y6 := ZZ18.out; have y7 := ZZ22.out; have y8 := ZZ23.out; omega)
    have FC_23 : Hid (BagIn w3.heap.size w4.heap.size (w5.alloc (.cells #[.slice x nx cx] 26)) c C) := FC_18.out.below BA_20.out (by have y0 := ZZ1.out; have y1 := ZZ4.out; have y2 := ZZ5.out; have y3 := ZZ8.out; have y4 := ZZ12.out; have y5 := ZZ13.out; have y6 := ZZ18.out; have y7 := ZZ22.out; have y8 := ZZ23.out; omega)
    have FX_23 : Hid (BagIn (w4.alloc (.cells #[.slice c nc cc] 26)).heap.size w5.heap.size (w5.alloc (.cells #[.slice x nx cx] 26)) x X) := FX_19.out.below BA_20.out (by have y0 := ZZ1.out; have y1 := ZZ4.out; have y2 := ZZ5.out; have y3 := ZZ8.out; have y4 := ZZ12.out; have y5 := ZZ13.out; have y6 := ZZ18.out; have y7 := ZZ22.out; have y8 := ZZ23.out; omega)
    clear FA_18 FD_18 FC_18 FX_19
    clear BA_20
    have q_24 := HD_21.out.cell (b := w2.heap.size + 1) (v := .slice d nd cd) (by simp)
    have q_25 := HD_21.out.cell (b := w2.heap.size) (v := .slice a na ca) (by simp)
    go_wp2_with fail
    refine (bagJoin_any w.heap.size w2.heap.size w.heap.size w2.heap.size d a nd cd na ca D A _ FD_23.out FA_23.out (by have y0 := ZZ1.out; have y1 := ZZ4.out; have y2 := ZZ5.out; have y3 := ZZ8.out; have y4 := ZZ12.out; have y5 := ZZ13.out; have y6 := ZZ18.out; have y7 := ZZ22.out; have y8 := ZZ23.out; omega) (by have y0 := ZZ1.out; have y1 := ZZ4.out; have y2 := ZZ5.out; have y3 := ZZ8.out; have y4 := ZZ12.out; have y5 := ZZ13.out; have y6 := ZZ18.out; have y7 := ZZ22.out; have y8 := ZZ23.out; omega) HND.out HNA.out (good_b HJ.out.gd HND.out).1 (good_b HJ.out.ga HNA.out).1 (good_b HJ.out.gd HND.out).2 (good_b HJ.out.ga HNA.out).2).mono ?_
    rintro e w6 ⟨y, ny, cy, ok6, rfl, HO_26, HN_26, X_26, B_26⟩
    rw [HJ.out.x2.2] at HN_26 X_26
    obtain rfl : ok6 = true := by rw [HO_26.out]; exact HJ.out.x2.1
    clear q_24 q_25
    have HD_27 : Hid (Held w w6 [(w5.heap.size, .slice x nx cx), (w4.heap.size, .slice c nc cc), (w2.heap.size + 1, .slice d nd cd), (w2.heap.size, .slice a na ca)]) := HD_21.out.below B_26.out
    clear HD_21
    have ZZ28 : Hid ((w5.alloc (.cells #[.slice x nx cx] 26)).heap.size ≤ w6.heap.size) := B_26.out.size
    have FA_28 : Hid (BagIn w.heap.size w2.heap.size w6 a A) := FA_23.out.below B_26.out (by have y0 := ZZ1.out; have y1 := ZZ4.out; have y2 := ZZ5.out; have y3 := ZZ8.out; have y4 := ZZ12.out; have y5 := ZZ13.out; have y6 := ZZ18.out; have y7 := ZZ22.out; have y8 := ZZ23.out; have y9 := ZZ28.out; omega)
    have FD_28 : Hid (BagIn w.heap.size w2.heap.size w6 d D) := FD_23.out.below B_26.out (by have y0 := ZZ1.out; have y1 := ZZ4.out; have y2 := ZZ5.out; have y3 := ZZ8.out; have y4 := ZZ12.out; have y5 := ZZ13.out; have y6 := ZZ18.out; have y7 := ZZ22.out; have y8 := ZZ23.out; have y9 := ZZ28.out; omega)
    have FC_28 : Hid (BagIn w3.heap.size w4.heap.size w6 c C) := FC_23.out.below B_26.out (by have y0 := ZZ1.out; have y1 := ZZ4.out; have y2 := ZZ5.out; have y3 := ZZ8.out; have y4 := ZZ12.out; have y5 := ZZ13.out; have y6 := ZZ18.out; have y7 := ZZ22.out; have y8 := ZZ23.out; have y9 := ZZ28.out; omega)
    have FX_28 : Hid (BagIn (w4.alloc (.cells #[.slice c nc cc] 26)).heap.size w5.heap.size w6 x X) := FX_23.out.below B_26.out (by have y0 := ZZ1.out; have y1 := ZZ4.out; have y2 := ZZ5.out; have y3 := ZZ8.out; have y4 := ZZ12.out; have y5 := ZZ13.out; have y6 := ZZ18.out; have y7 := ZZ22.out; have y8 := ZZ23.out; have y9 := ZZ28.out; omega)
    clear FA_23 FD_23 FC_23 FX_23
    have FY_29 : Hid (BagIn (w5.alloc (.cells #[.slice x nx cx] 26)).heap.size w6.heap.size w6 y X) := X_26.out.toIn
    have HFY : Hid (X.length = ny) := HN_26.out
    clear X_26 B_26 HN_26 HO_26
    have BA_30 : Hid (Below w6.heap.size w6 (w6.alloc (.cells #[.slice y ny cy] 26))) := below1' w6 _
    have HD_31 : Hid (Held w (w6.alloc (.cells #[.slice y ny cy] 26)) [(w6.heap.size, .slice y ny cy), (w5.heap.size, .slice x nx cx), (w4.heap.size, .slice c nc cc), (w2.heap.size + 1, .slice d nd cd), (w2.heap.size, .slice a na ca)]) := HD_27.out.more _ _
    clear HD_27
    have ZZ32 : Hid ((w6.alloc (.cells #[.slice y ny cy] 26)).heap.size = w6.heap.size + 1) := by show _ = _; simp
    have ZZ33 : Hid (w6.heap.size ≤ (w6.alloc (.cells #[.slice y ny cy] 26)).heap.size) := BA_30.out.size
    have FA_33 : Hid (BagIn w.heap.size w2.heap.size (w6.alloc (.cells #[.slice y ny cy] 26)) a A) := FA_28.out.below BA_30.out (by have y0 := ZZ1.out; have y1 := ZZ4.out; have y2 := ZZ5.out; have y3 := ZZ8.out; have y4 := ZZ12.out; have y5 := ZZ13.out; have y6 := ZZ18.out; have y7 := ZZ22.out; have y8 := ZZ23.out; have y9 := ZZ28.out; have y10 := ZZ32.out; have y11 := ZZ33.out; omega)
    have FD_33 : Hid (BagIn w.heap.size w2.heap.size (w6.alloc (.cells #[.slice y ny cy] 26)) d D) := FD_28.out.below BA_30.out (by have y0 := ZZ1.out; have y1 := ZZ4.out; have y2 := ZZ5.out; have y3 := ZZ8.out; have y4 := ZZ12.out; have y5 := ZZ13.out; have y6 := ZZ18.out; have y7 := ZZ22.out; have y8 := ZZ23.out; have y9 := ZZ28.out; have y10 := ZZ32.out; have y11 := ZZ33.out; omega)
    have FC_33 : Hid (BagIn w3.heap.size w4.heap.size (w6.alloc (.cells #[.slice y ny cy] 26)) c C) := FC_28.out.below BA_30.out (by have y0 := ZZ1.out; have y1 := ZZ4.out; have y2 := ZZ5.out; have y3 := ZZ8.out; have y4 := ZZ12.out; have y5 := ZZ13.out; have y6 := ZZ18.out; have y7 := ZZ22.out; have y8 := ZZ23.out; have y9 := ZZ28.out; have y10 := ZZ32.out; have y11 := ZZ33.out; omega)
    have FX_33 : Hid (BagIn (w4.alloc (.cells #[.slice c nc cc] 26)).heap.size w5.heap.size (w6.alloc (.cells #[.slice y ny cy] 26)) x X) := FX_28.out.below BA_30.out (by have y0 := ZZ1.out; have y1 := ZZ4.out; have y2 := ZZ5.out; have y3 := ZZ8.out; have y4 := ZZ12.out; have y5 := ZZ13.out; have y6 := ZZ18.out; have y7 := ZZ22.out; have y8 := ZZ23.out; have y9 := ZZ28.out; have y10 := ZZ32.out; have y11 := ZZ33.out; omega)
    have FY_33 : Hid (BagIn (w5.alloc (.cells #[.slice x nx cx] 26)).heap.size w6.heap.size (w6.alloc (.cells #[.slice y ny cy] 26)) y X) := FY_29.out.below BA_30.out (by have y0 := ZZ1.out; have y1 := ZZ4.out; have y2 := ZZ5.out; have y3 := ZZ8.out; have y4 := ZZ12.out; have y5 := ZZ13.out; have y6 := ZZ18.out; have y7 := ZZ22.out; have y8 := ZZ23.out; have y9 := ZZ28.out; have y10 := ZZ32.out; have y11 := ZZ33.out; omega)
    clear FA_28 FD_28 FC_28 FX_28 FY_29
    clear BA_30
    have q_34 := HD_31.out.cell (b := w5.heap.size) (v := .slice x nx cx) (by simp)
    have q_35 := HD_31.out.cell (b := w4.heap.size) (v := .slice c nc cc) (by simp)
    go_wp2_with fail
    refine (bagJoin_any (w4.alloc (.cells #[.slice c nc cc] 26)).heap.size w5.heap.size w3.heap.size w4.heap.size x c nx cx nc cc X C _ FX_33.out FC_33.out (by have y0 := ZZ1.out; have y1 := ZZ4.out; have y2 := ZZ5.out; have y3 := ZZ8.out; have y4 := ZZ12.out; have y5 := ZZ13.out; have y6 := ZZ18.out; have y7 := ZZ22.out; have y8 := ZZ23.out; have y9 := ZZ28.out; have y10 := ZZ32.out; have y11 := ZZ33.out; omega) (by have y0 := ZZ1.out; have y1 := ZZ4.out; have y2 := ZZ5.out; have y3 := ZZ8.out; have y4 := ZZ12.out; have y5 := ZZ13.out; have y6 := ZZ18.out; have y7 := ZZ22.out; have y8 := ZZ23.out; have y9 := ZZ28.out; have y10 := ZZ32.out; have y11 := ZZ33.out; omega) HFX.out HNC.out (good_b HJ.out.gx HFX.out).1 (good_b HJ.out.gc HNC.out).1 (good_b HJ.out.gx HFX.out).2 (good_b HJ.out.gc HNC.out).2).mono ?_
    rintro e w7 ⟨u, nu, cu, ok7, rfl, HO_36, HN_36, X_36, B_36⟩
    rw [HJ.out.x3] at HN_36 X_36
    clear q_34 q_35
    have HD_37 : Hid (Held w w7 [(w6.heap.size, .slice y ny cy), (w5.heap.size, .slice x nx cx), (w4.heap.size, .slice c nc cc), (w2.heap.size + 1, .slice d nd cd), (w2.heap.size, .slice a na ca)]) := HD_31.out.below B_36.out
    clear HD_31
    have ZZ38 : Hid ((w6.alloc (.cells #[.slice y ny cy] 26)).heap.size ≤ w7.heap.size) := B_36.out.size
    have FA_38 : Hid (BagIn w.heap.size w2.heap.size w7 a A) := FA_33.out.below B_36.out (by have y0 := ZZ1.out; have y1 := ZZ4.out; have y2 := ZZ5.out; have y3 := ZZ8.out; have y4 := ZZ12.out; have y5 := ZZ13.out; have y6 := ZZ18.out; have y7 := ZZ22.out; have y8 := ZZ23.out; have y9 := ZZ28.out; have y10 := ZZ32.out; have y11 := ZZ33.out; have y12 := ZZ38.out; omega)
    have FD_38 : Hid (BagIn w.heap.size w2.heap.size w7 d D) := FD_33.out.below B_36.out (by have y0 := ZZ1.out; have y1 := ZZ4.out; have y2 := ZZ5.out; have y3 := ZZ8.out; have y4 := ZZ12.out; have y5 := ZZ13.out; have y6 := ZZ18.out; have y7 := ZZ22.out; have y8 := ZZ23.out; have y9 := ZZ28.out; have y10 := ZZ32.out; have y11 := ZZ33.out; have y12 := ZZ38.out; omega)
    have FC_38 : Hid (BagIn w3.heap.size w4.heap.size w7 c C) := FC_33.out.below B_36.out (by have y0 := ZZ1.out; have y1 := ZZ4.out; have y2 := ZZ5.out; have y3 := ZZ8.out; have y4 := ZZ12.out; have y5 := ZZ13.out; have y6 := ZZ18.out; have y7 := ZZ22.out; have y8 := ZZ23.out; have y9 := ZZ28.out; have y10 := ZZ32.out; have y11 := ZZ33.out; have y12 := ZZ38.out; omega)
    have FX_38 : Hid (BagIn (w4.alloc (.cells #[.slice c nc cc] 26)).heap.size w5.heap.size w7 x X) := FX_33.out.below B_36.out (by have y0 := ZZ1.out; have y1 := ZZ4.out; have y2 := ZZ5.out; have y3 := ZZ8.out; have y4 := ZZ12.out; have y5 := ZZ13.out; have y6 := ZZ18.out; have y7 := ZZ22.out; have y8 := ZZ23.out; have y9 := ZZ28.out; have y10 := ZZ32.out; have y11 := ZZ33.out; have y12 := ZZ38.out; omega)
    have FY_38 : Hid (BagIn (w5.alloc (.cells #[.slice x nx cx] 26)).heap.size w6.heap.size w7 y X) := FY_33.out.below B_36.out (by have y0 := ZZ1.out; have y1 := ZZ4.out; have y2 := ZZ5.out; have y3 := ZZ8.out; have y4 := ZZ12.out; have y5 := ZZ13.out; have y6 := ZZ18.out; have y7 := ZZ22.out; have y8 := ZZ23.out; have y9 := ZZ28.out; have y10 := ZZ32.out; have y11 := ZZ33.out; have y12 := ZZ38.out; omega)
    clear FA_33 FD_33 FC_33 FX_33 FY_33
    have FAB_39 : Hid (BagIn (w6.alloc (.cells #[.slice y ny cy] 26)).heap.size w7.heap.size w7 u AB) := X_36.out.toIn
    have HFAB : Hid (AB.length = nu) := HN_36.out
    clear X_36 B_36 HN_36 HO_36
    have BA_40 : Hid (Below w7.heap.size w7 (w7.alloc (.cells #[.slice u nu cu] 26))) := below1' w7 _
    have HD_41 : Hid (Held w (w7.alloc (.cells #[.slice u nu cu] 26)) [(w7.heap.size, .slice u nu cu), (w6.heap.size, .slice y ny cy), (w5.heap.size, .slice x nx cx), (w4.heap.size, .slice c nc cc), (w2.heap.size + 1, .slice d nd cd), (w2.heap.size, .slice a na ca)]) := HD_37.out.more _ _
    clear HD_37
    have ZZ42 : Hid ((w7.alloc (.cells #[.slice u nu cu] 26)).heap.size = w7.heap.size + 1) := by show _ = _; simp
    have ZZ43 : Hid (w7.heap.size ≤ (w7.alloc (.cells #[.slice u nu cu] 26)).heap.size) := BA_40.out.size
    have FA_43 : Hid (BagIn w.heap.size w2.heap.size (w7.alloc (.cells #[.slice u nu cu] 26)) a A) := FA_38.out.below BA_40.out (by have y0 := ZZ1.out; have y1 := ZZ4.out; have y2 := ZZ5.out; have y3 := ZZ8.out; have y4 := ZZ12.out; have y5 := ZZ13.out; have y6 := ZZ18.out; have y7 := ZZ22.out; have y8 := ZZ23.out; have y9 := ZZ28.out; have y10 := ZZ32.out; have y11 := ZZ33.out; have y12 := ZZ38.out; have y13 := ZZ42.out; have y14 := ZZ43.out; omega)
    have FD_43 : Hid (BagIn w.heap.size w2.heap.size (w7.alloc (.cells #[.slice u nu cu] 26)) d D) := FD_38.out.below BA_40.out (by have y0 := ZZ1.out; have y1 := ZZ4.out; have y2 := ZZ5.out; have y3 := ZZ8.out; have y4 := ZZ12.out; have y5 := ZZ13.out; have y6 := ZZ18.out; have y7 := ZZ22.out; have y8 := ZZ23.out; have y9 := ZZ28.out; have y10 := ZZ32.out; have y11 := ZZ33.out; have y12 := ZZ38.out; have y13 := ZZ42.out; have y14 := ZZ43.out; omega)
    have FC_43 : Hid (BagIn w3.heap.size w4.heap.size (w7.alloc (.cells #[.slice u nu cu] 26)) c C) := FC_38.out.below BA_40.out (by have y0 := ZZ1.out; have y1 := ZZ4.out; have y2 := ZZ5.out; have y3 := ZZ8.out; have y4 := ZZ12.out; have y5 := ZZ13.out; have y6 := ZZ18.out; have y7 := ZZ22.out; have y8 := ZZ23.out; have y9 := ZZ28.out; have y10 := ZZ32.out; have y11 := ZZ33.out; have y12 := ZZ38.out; have y13 := ZZ42.out; have y14 := ZZ43.out; omega)
    have FX_43 : Hid (BagIn (w4.alloc (.cells #[.slice c nc cc] 26)).heap.size w5.heap.size (w7.alloc (.cells #[.slice u nu cu] 26)) x X) := FX_38.out.below BA_40.out (by have y0 := ZZ1.out; have y1 := ZZ4.out; have y2 := ZZ5.out; have y3 := ZZ8.out; have y4 := ZZ12.out; have y5 := ZZ13.out; have y6 := ZZ18.out; have y7 := ZZ22.out; have y8 := ZZ23.out; have y9 := ZZ28.out; have y10 := ZZ32.out; have y11 := ZZ33.out; have y12 := ZZ38.out; have y13 := ZZ42.out; have y14 := ZZ43.out; omega)
    have FY_43 : Hid (BagIn (w5.alloc (.cells #[.slice x nx cx] 26)).heap.size w6.heap.size (w7.alloc (.cells #[.slice u nu cu] 26)) y X) := FY_38.out.below BA_40.out (by have y0 := ZZ1.out; have y1 := ZZ4.out; have y2 := ZZ5.out; have y3 := ZZ8.out; have y4 := ZZ12.out; have y5 := ZZ13.out; have y6 := ZZ18.out; have y7 := ZZ22.out; have y8 := ZZ23.out; have y9 := ZZ28.out; have y10 := ZZ32.out; have y11 := ZZ33.out; have y12 := ZZ38.out; have y13 := ZZ42.out; have y14 := ZZ43.out; omega)
    have FAB_43 : Hid (BagIn (w6.alloc (.cells #[.slice y ny cy] 26)).heap.size w7.heap.size (w7.alloc (.cells #[.slice u nu cu] 26)) u AB) := FAB_39.out.below BA_40.out (by have y0 := ZZ1.out; have y1 := ZZ4.out; have y2 := ZZ5.out; have y3 := ZZ8.out; have y4 := ZZ12.out; have y5 := ZZ13.out; have y6 := ZZ18.out; have y7 := ZZ22.out; have y8 := ZZ23.out; have y9 := ZZ28.out; have y10 := ZZ32.out; have y11 := ZZ33.out; have y12 := ZZ38.out; have y13 := ZZ42.out; have y14 := ZZ43.out; omega)
    clear FA_38 FD_38 FC_38 FX_38 FY_38 FAB_39
    clear BA_40
    have q_44 := HD_41.out.cell (b := w2.heap.size + 1) (v := .slice d nd cd) (by simp)
    have q_45 := HD_41.out.cell (b := w4.heap.size) (v := .slice c nc cc) (by simp)
    go_wp2_with fail
    refine (bagJoin_any w.heap.size w2.heap.size w3.heap.size w4.heap.size d c nd cd nc cc D C _ FD_43.out FC_43.out (by have y0 := ZZ1.out; have y1 := ZZ4.out; have y2 := ZZ5.out; have y3 := ZZ8.out; have y4 := ZZ12.out; have y5 := ZZ13.out; have y6 := ZZ18.out; have y7 := ZZ22.out; have y8 := ZZ23.out; have y9 := ZZ28.out; have y10 := ZZ32.out; have y11 := ZZ33.out; have y12 := ZZ38.out; have y13 := ZZ42.out; have y14 := ZZ43.out; omega) (by have y0 := ZZ1.out; have y1 := ZZ4.out; have y2 := ZZ5.out; have y3 := ZZ8.out; have y4 := ZZ12.out; have y5 := ZZ13.out; have y6 := ZZ18.out; have y7 := ZZ22.out; have y8 := ZZ23.out; have y9 := ZZ28.out; have y10 := ZZ32.out; have y11 := ZZ33.out; have y12 := ZZ38.out; have y13 := ZZ42.out; have y14 := ZZ43.out; omega) HND.out HNC.out (good_b HJ.out.gd HND.out).1 (good_b HJ.out.gc HNC.out).1 (good_b HJ.out.gd HND.out).2 (good_b HJ.out.gc HNC.out).2).mono ?_
    rintro e w8 ⟨v, nv, cv, ok8, rfl, HO_46, HN_46, X_46, B_46⟩
    rw [HJ.out.x4] at HN_46 X_46
    clear q_44 q_45
    have HD_47 : Hid (Held w w8 [(w7.heap.size, .slice u nu cu), (w6.heap.size, .slice y ny cy), (w5.heap.size, .slice x nx cx), (w4.heap.size, .slice c nc cc), (w2.heap.size + 1, .slice d nd cd), (w2.heap.size, .slice a na ca)]) := HD_41.out.below B_46.out
    clear HD_41
    have ZZ48 : Hid ((w7.alloc (.cells #[.slice u nu cu] 26)).heap.size ≤ w8.heap.size) := B_46.out.size
    have FA_48 : Hid (BagIn w.heap.size w2.heap.size w8 a A) := FA_43.out.below B_46.out (by have y0 := ZZ1.out; have y1 := ZZ4.out; have y2 := ZZ5.out; have y3 := ZZ8.out; have y4 := ZZ12.out; have y5 := ZZ13.out; have y6 := ZZ18.out; have y7 := ZZ22.out; have y8 := ZZ23.out; have y9 := ZZ28.out; have y10 := ZZ32.out; have y11 := ZZ33.out; have y12 := ZZ38.out; have y13 := ZZ42.out; have y14 := ZZ43.out; have y15 := ZZ48.out; omega)
    have FD_48 : Hid (BagIn w.heap.size w2.heap.size w8 d D) := FD_43.out.below B_46.out (by have y0 := ZZ1.out; have y1 := ZZ4.out; have y2 := ZZ5.out; have y3 := ZZ8.out; have y4 := ZZ12.out; have y5 := ZZ13.out; have y6 := ZZ18.out; have y7 := ZZ22.out; have y8 := ZZ23.out; have y9 := ZZ28.out; have y10 := ZZ32.out; have y11 := ZZ33.out; have y12 := ZZ38.out; have y13 := ZZ42.out; have y14 := ZZ43.out; have y15 := ZZ48.out; omega)
    have FC_48 : Hid (BagIn w3.heap.size w4.heap.size w8 c C) := FC_43.out.below B_46.out (by have y0 := ZZ1.out; have y1 := ZZ4.out; have y2 := ZZ5.out; have y3 := ZZ8.out; have y4 := ZZ12.out; have y5 := ZZ13.out; have y6 := ZZ18.out; have y7 := ZZ22.out; have y8 := ZZ23.out; have y9 := ZZ28.out; have y10 := ZZ32.out; have y11 := ZZ33.out; have y12 := ZZ38.out; have y13 := ZZ42.out; have y14 := ZZ43.out; have y15 := ZZ48.out; omega)
    have FX_48 : Hid (BagIn (w4.alloc (.cells #[.slice c nc cc] 26)).heap.size w5.heap.size w8 x X) := FX_43.out.below B_46.out (by have y0 := ZZ1.out; have y1 := ZZ4.out; have y2 := ZZ5.out; have y3 := ZZ8.out; have y4 := ZZ12.out; have y5 := ZZ13.out; have y6 := ZZ18.out; have y7 := ZZ22.out; have y8 := ZZ23.out; have y9 := ZZ28.out; have y10 := ZZ32.out; have y11 := ZZ33.out; have y12 := ZZ38.out; have y13 := ZZ42.out; have y14 := ZZ43.out; have y15 := ZZ48.out; omega)
    have FY_48 : Hid (BagIn (w5.alloc (.cells #[.slice x nx cx] 26)).heap.size w6.heap.size w8 y X) := FY_43.out.below B_46.out (by have y0 := ZZ1.out; have y1 := ZZ4.out; have y2 := ZZ5.out; have y3 := ZZ8.out; have y4 := ZZ12.out; have y5 := ZZ13.out; have y6 := ZZ18.out; have y7 := ZZ22.out; have y8 := ZZ23.out; have y9 := ZZ28.out; have y10 := ZZ32.out; have y11 := ZZ33.out; have y12 := ZZ38.out; have y13 := ZZ42.out; have y14 := ZZ43.out; have y15 := ZZ48.out; omega)
    have FAB_48 : Hid (BagIn (w6.alloc (.cells #[.slice y ny cy] 26)).heap.size w7.heap.size w8 u AB) := FAB_43.out.below B_46.out (by have y0 := ZZ1.out; have y1 := ZZ4.out; have y2 := ZZ5.out; have y3 := ZZ8.out; have y4 := ZZ12.out; have y5 := ZZ13.out; have y6 := ZZ18.out; have y7 := ZZ22.out; have y8 := ZZ23.out; have y9 := ZZ28.out; have y10 := ZZ32.out; have y11 := ZZ33.out; have y12 := ZZ38.out; have y13 := ZZ42.out; have y14 := ZZ43.out; have y15 := ZZ48.out; omega)
    clear FA_43 FD_43 FC_43 FX_43 FY_43 FAB_43
    have FBC_49 : Hid (BagIn (w7.alloc (.cells #[.slice u nu cu] 26)).heap.size w8.heap.size w8 v BC) := X_46.out.toIn
    have HFBC : Hid (BC.length = nv) := HN_46.out
    clear X_46 B_46 HN_46 HO_46
    have BA_50 : Hid (Below w8.heap.size w8 (w8.alloc (.cells #[.slice v nv cv] 26))) := below1' w8 _
    have HD_51 : Hid (Held w (w8.alloc (.cells #[.slice v nv cv] 26)) [(w8.heap.size, .slice v nv cv), (w7.heap.size, .slice u nu cu), (w6.heap.size, .slice y ny cy), (w5.heap.size, .slice x nx cx), (w4.heap.size, .slice c nc cc), (w2.heap.size + 1, .slice d nd cd), (w2.heap.size, .slice a na ca)]) := HD_47.out.more _ _
    clear HD_47
    have ZZ52 : Hid ((w8.alloc (.cells #[.slice v nv cv] 26)).heap.size = w8.heap.size + 1) := by show _ = _; simp
    have ZZ53 : Hid (w8.heap.size ≤ (w8.alloc (.cells #[.slice v nv cv] 26)).heap.size) := BA_50.out.size
    have FA_53 : Hid (BagIn w.heap.size w2.heap.size (w8.alloc (.cells #[.slice v nv cv] 26)) a A) := FA_48.out.below BA_50.out (by have y0 := ZZ1.out; have y1 := ZZ4.out; have y2 := ZZ5.out; have y3 := ZZ8.out; have y4 := ZZ12.out; have y5 := ZZ13.out; have y6 := ZZ18.out; have y7 := ZZ22.out; have y8 := ZZ23.out; have y9 := ZZ28.out; have y10 := ZZ32.out; have y11 := ZZ33.out; have y12 := ZZ38.out; have y13 := ZZ42.out; have y14 := ZZ43.out; have y15 := ZZ48.out; have y16 := ZZ52.out; have y17 := ZZ53.out; omega)
    have FD_53 : Hid (BagIn w.heap.size w2.heap.size (w8.alloc (.cells #[.slice v nv cv] 26)) d D) := FD_48.out.below BA_50.out (by have y0 := ZZ1.out; have y1 := ZZ4.out; have y2 := ZZ5.out; have y3 := ZZ8.out; have y4 := ZZ12.out; have y5 := ZZ13.out; have y6 := ZZ18.out; have y7 := ZZ22.out; have y8 := ZZ23.out; have y9 := ZZ28.out; have y10 := ZZ32.out; have y11 := ZZ33.out; have y12 := ZZ38.out; have y13 := ZZ42.out; have y14 := ZZ43.out; have y15 := ZZ48.out; have y16 := ZZ52.out; have y17 := ZZ53.out; omega)
    have FC_53 : Hid (BagIn w3.heap.size w4.heap.size (w8.alloc (.cells #[.slice v nv cv] 26)) c C) := FC_48.out.below BA_50.out (by have y0 := ZZ1.out; have y1 := ZZ4.out; have y2 := ZZ5.out; have y3 := ZZ8.out; have y4 := ZZ12.out; have y5 := ZZ13.out; have y6 := ZZ18.out; have y7 := ZZ22.out; have y8 := ZZ23.out; have y9 := ZZ28.out; have y10 := ZZ32.out; have y11 := ZZ33.out; have y12 := ZZ38.out; have y13 := ZZ42.out; have y14 := ZZ43.out; have y15 := ZZ48.out; have y16 := ZZ52.out; have y17 := ZZ53.out; omega)
    have FX_53 : Hid (BagIn (w4.alloc (.cells #[.slice c nc cc] 26)).heap.size w5.heap.size (w8.alloc (.cells #[.slice v nv cv] 26)) x X) := FX_48.out.below BA_50.out (by have y0 := ZZ1.out; have y1 := ZZ4.out; have y2 := ZZ5.out; have y3 := ZZ8.out; have y4 := ZZ12.out; have y5 := ZZ13.out; have y6 := ZZ18.out; have y7 := ZZ22.out; have y8 := ZZ23.out; have y9 := ZZ28.out; have y10 := ZZ32.out; have y11 := ZZ33.out; have y12 := ZZ38.out; have y13 := ZZ42.out; have y14 := ZZ43.out; have y15 := ZZ48.out; have y16 := ZZ52.out; have y17 := ZZ53.out; omega)
    have FY_53 : Hid (BagIn (w5.alloc (.cells #[.slice x nx cx] 26)).heap.size w6.heap.size (w8.alloc (.cells #[.slice v nv cv] 26)) y X) := FY_48.out.below BA_50.out (by have y0 := ZZ1.out; have y1 := ZZ4.out; have y2 := ZZ5.out; have y3 := ZZ8.out; have y4 := ZZ12.out; have y5 := ZZ13.out; have y6 := ZZ18.out; have y7 := ZZ22.out; have y8 := ZZ23.out; have y9 := ZZ28.out; have y10 := ZZ32.out; have y11 := ZZ33.out; have y12 := ZZ38.out; have y13 := ZZ42.out; have y14 := ZZ43.out; have y15 := ZZ48.out; have y16 := ZZ52.out; have y17 := ZZ53.out; omega)
    have FAB_53 : Hid (BagIn (w6.alloc (.cells #[.slice y ny cy] 26)).heap.size w7.heap.size (w8.alloc (.cells #[.slice v nv cv] 26)) u AB) := FAB_48.out.below BA_50.out (by have y0 := ZZ1.out; have y1 := ZZ4.out; have y2 := ZZ5.out; have y3 := ZZ8.out; have y4 := ZZ12.out; have y5 := ZZ13.out; have y6 := ZZ18.out; have y7 := ZZ22.out; have y8 := ZZ23.out; have y9 := ZZ28.out; have y10 := ZZ32.out; have y11 := ZZ33.out; have y12 := ZZ38.out; have y13 := ZZ42.out; have y14 := ZZ43.out; have y15 := ZZ48.out; have y16 := ZZ52.out; have y17 := ZZ53.out; omega)
    have FBC_53 : Hid (BagIn (w7.alloc (.cells #[.slice u nu cu] 26)).heap.size w8.heap.size (w8.alloc (.cells #[.slice v nv cv] 26)) v BC) := FBC_49.out.below BA_50.out (by have y0 := ZZ1.out; have y1 := ZZ4.out; have y2 := ZZ5.out; have y3 := ZZ8.out; have y4 := ZZ12.out; have y5 := ZZ13.out; have y6 := ZZ18.out; have y7 := ZZ22.out; have y8 := ZZ23.out; have y9 := ZZ28.out; have y10 := ZZ32.out; have y11 := ZZ33.out; have y12 := ZZ38.out; have y13 := ZZ42.out; have y14 := ZZ43.out; have y15 := ZZ48.out; have y16 := ZZ52.out; have y17 := ZZ53.out; omega)
    clear FA_48 FD_48 FC_48 FX_48 FY_48 FAB_48 FBC_49
    clear BA_50
    have q_54 := HD_51.out.cell (b := w2.heap.size) (v := .slice a na ca) (by simp)
    have q_55 := HD_51.out.cell (b := w8.heap.size) (v := .slice v nv cv) (by simp)
    go_wp2_with fail
    refine (bagJoin_any w.heap.size w2.heap.size (w7.alloc (.cells #[.slice u nu cu] 26)).heap.size w8.heap.size a v na ca nv cv A BC _ FA_53.out FBC_53.out (by have y0 := ZZ1.out; have y1 := ZZ4.out; have y2 := ZZ5.out; have y3 := ZZ8.out; have y4 := ZZ12.out; have y5 := ZZ13.out; have y6 := ZZ18.out; have y7 := ZZ22.out; have y8 := ZZ23.out; have y9 := ZZ28.out; have y10 := ZZ32.out; have y11 := ZZ33.out; have y12 := ZZ38.out; have y13 := ZZ42.out; have y14 := ZZ43.out; have y15 := ZZ48.out; have y16 := ZZ52.out; have y17 := ZZ53.out; omega) (by have y0 := ZZ1.out; have y1 := ZZ4.out; have y2 := ZZ5.out; have y3 := ZZ8.out; have y4 := ZZ12.out; have y5 := ZZ13.out; have y6 := ZZ18.out; have y7 := ZZ22.out; have y8 := ZZ23.out; have y9 := ZZ28.out; have y10 := ZZ32.out; have y11 := ZZ33.out; have y12 := ZZ38.out; have y13 := ZZ42.out; have y14 := ZZ43.out; have y15 := ZZ48.out; have y16 := ZZ52.out; have y17 := ZZ53.out; omega) HNA.out HFBC.out (good_b HJ.out.ga HNA.out).1 (good_b HJ.out.gbc HFBC.out).1 (good_b HJ.out.ga HNA.out).2 (good_b HJ.out.gbc HFBC.out).2).mono ?_
    rintro e w9 ⟨z, nz, cz, ok9, rfl, HO_56, HN_56, X_56, B_56⟩
    rw [HJ.out.x5.2] at HN_56 X_56
    obtain rfl : ok9 = true := by rw [HO_56.out]; exact HJ.out.x5.1
    clear q_54 q_55
    have HD_57 : Hid (Held w w9 [(w8.heap.size, .slice v nv cv), (w7.heap.size, .slice u nu cu), (w6.heap.size, .slice y ny cy), (w5.heap.size, .slice x nx cx), (w4.heap.size, .slice c nc cc), (w2.heap.size + 1, .slice d nd cd), (w2.heap.size, .slice a na ca)]) := HD_51.out.below B_56.out
    clear HD_51
    have ZZ58 : Hid ((w8.alloc (.cells #[.slice v nv cv] 26)).heap.size ≤ w9.heap.size) := B_56.out.size
    have FA_58 : Hid (BagIn w.heap.size w2.heap.size w9 a A) := FA_53.out.below B_56.out (by have y0 := ZZ1.out; have y1 := ZZ4.out; have y2 := ZZ5.out; have y3 := ZZ8.out; have y4 := ZZ12.out; have y5 := ZZ13.out; have y6 := ZZ18.out; have y7 := ZZ22.out; have y8 := ZZ23.out; have y9 := ZZ28.out; have y10 := ZZ32.out; have y11 := ZZ33.out; have y12 := ZZ38.out; have y13 := ZZ42.out; have y14 := ZZ43.out; have y15 := ZZ48.out; have y16 := ZZ52.out; have y17 := ZZ53.out; have y18 := ZZ58.out; omega)
    have FD_58 : Hid (BagIn w.heap.size w2.heap.size w9 d D) := FD_53.out.below B_56.out (by have y0 := ZZ1.out; have y1 := ZZ4.out; have y2 := ZZ5.out; have y3 := ZZ8.out; have y4 := ZZ12.out; have y5 := ZZ13.out; have y6 := ZZ18.out; have y7 := ZZ22.out; have y8 := ZZ23.out; have y9 := ZZ28.out; have y10 := ZZ32.out; have y11 := ZZ33.out; have y12 := ZZ38.out; have y13 := ZZ42.out; have y14 := ZZ43.out; have y15 := ZZ48.out; have y16 := ZZ52.out; have y17 := ZZ53.out; have y18 := ZZ58.out; omega)
    have FC_58 : Hid (BagIn w3.heap.size w4.heap.size w9 c C) := FC_53.out.below B_56.out (by have y0 := ZZ1.out; have y1 := ZZ4.out; have y2 := ZZ5.out; have y3 := ZZ8.out; have y4 := ZZ12.out; have y5 := ZZ13.out; have y6 := ZZ18.out; have y7 := ZZ22.out; have y8 := ZZ23.out; have y9 := ZZ28.out; have y10 := ZZ32.out; have y11 := ZZ33.out; have y12 := ZZ38.out; have y13 := ZZ42.out; have y14 := ZZ43.out; have y15 := ZZ48.out; have y16 := ZZ52.out; have y17 := ZZ53.out; have y18 := ZZ58.out; omega)
    have FX_58 : Hid (BagIn (w4.alloc (.cells #[.slice c nc cc] 26)).heap.size w5.heap.size w9 x X) := FX_53.out.below B_56.out (by have y0 := ZZ1.out; have y1 := ZZ4.out; have y2 := ZZ5.out; have y3 := ZZ8.out; have y4 := ZZ12.out; have y5 := ZZ13.out; have y6 := ZZ18.out; have y7 := ZZ22.out; have y8 := ZZ23.out; have y9 := ZZ28.out; have y10 := ZZ32.out; have y11 := ZZ33.out; have y12 := ZZ38.out; have y13 := ZZ42.out; have y14 := ZZ43.out; have y15 := ZZ48.out; have y16 := ZZ52.out; have y17 := ZZ53.out; have y18 := ZZ58.out; omega)
    have FY_58 : Hid (BagIn (w5.alloc (.cells #[.slice x nx cx] 26)).heap.size w6.heap.size w9 y X) := FY_53.out.below B_56.out (by have y0 := ZZ1.out; have y1 := ZZ4.out; have y2 := ZZ5.out; have y3 := ZZ8.out; have y4 := ZZ12.out; have y5 := ZZ13.out; have y6 := ZZ18.out; have y7 := ZZ22.out; have y8 := ZZ23.out; have y9 := ZZ28.out; have y10 := ZZ32.out; have y11 := ZZ33.out; have y12 := ZZ38.out; have y13 := ZZ42.out; have y14 := ZZ43.out; have y15 := ZZ48.out; have y16 := ZZ52.out; have y17 := ZZ53.out; have y18 := ZZ58.out; omega)
    have FAB_58 : Hid (BagIn (w6.alloc (.cells #[.slice y ny cy] 26)).heap.size w7.heap.size w9 u AB) := FAB_53.out.below B_56.out (by have y0 := ZZ1.out; have y1 := ZZ4.out; have y2 := ZZ5.out; have y3 := ZZ8.out; have y4 := ZZ12.out; have y5 := ZZ13.out; have y6 := ZZ18.out; have y7 := ZZ22.out; have y8 := ZZ23.out; have y9 := ZZ28.out; have y10 := ZZ32.out; have y11 := ZZ33.out; have y12 := ZZ38.out; have y13 := ZZ42.out; have y14 := ZZ43.out; have y15 := ZZ48.out; have y16 := ZZ52.out; have y17 := ZZ53.out; have y18 := ZZ58.out; omega)
    have FBC_58 : Hid (BagIn (w7.alloc (.cells #[.slice u nu cu] 26)).heap.size w8.heap.size w9 v BC) := FBC_53.out.below B_56.out (by have y0 := ZZ1.out; have y1 := ZZ4.out; have y2 := ZZ5.out; have y3 := ZZ8.out; have y4 := ZZ12.out; have y5 := ZZ13.out; have y6 := ZZ18.out; have y7 := ZZ22.out; have y8 := ZZ23.out; have y9 := ZZ28.out; have y10 := ZZ32.out; have y11 := ZZ33.out; have y12 := ZZ38.out; have y13 := ZZ42.out; have y14 := ZZ43.out; have y15 := ZZ48.out; have y16 := ZZ52.out; have y17 := ZZ53.out; have y18 := ZZ58.out; omega)
    clear FA_53 FD_53 FC_53 FX_53 FY_53 FAB_53 FBC_53
    have FABC_59 : Hid (BagIn (w8.alloc (.cells #[.slice v nv cv] 26)).heap.size w9.heap.size w9 z AB) := X_56.out.toIn
    have HFABC : Hid (AB.length = nz) := HN_56.out
    clear X_56 B_56 HN_56 HO_56
    have BA_60 : Hid (Below w9.heap.size w9 (w9.alloc (.cells #[.slice z nz cz] 26))) := below1' w9 _
    have HD_61 : Hid (Held w (w9.alloc (.cells #[.slice z nz cz] 26)) [(w9.heap.size, .slice z nz cz), (w8.heap.size, .slice v nv cv), (w7.heap.size, .slice u nu cu), (w6.heap.size, .slice y ny cy), (w5.heap.size, .slice x nx cx), (w4.heap.size, .slice c nc cc), (w2.heap.size + 1, .slice d nd cd), (w2.heap.size, .slice a na ca)]) := HD_57.out.more _ _
    clear HD_57
    have ZZ62 : Hid ((w9.alloc (.cells #[.slice z nz cz] 26)).heap.size = w9.heap.size + 1) := by show _ = _; simp
    have ZZ63 : Hid (w9.heap.size ≤ (w9.alloc (.cells #[.slice z nz cz] 26)).heap.size) := BA_60.out.size
    have FA_63 : Hid (BagIn w.heap.size w2.heap.size (w9.alloc (.cells #[.slice z nz cz] 26)) a A) := FA_58.out.below BA_60.out (by have y0 := ZZ1.out; have y1 := ZZ4.out; have y2 := ZZ5.out; have y3 := ZZ8.out; have y4 := ZZ12.out; have y5 := ZZ13.out; have y6 := ZZ18.out; have y7 := ZZ22.out; have y8 := ZZ23.out; have y9 := ZZ28.out; have y10 := ZZ32.out; have y11 := ZZ33.out; have y12 := ZZ38.out; have y13 := ZZ42.out; have y14 := ZZ43.out; have y15 := ZZ48.out; have y16 := ZZ52.out; have y17 := ZZ53.out; have y18 := ZZ58.out; have y19 := ZZ62.out; have y20 := ZZ63.out; omega)
    have FD_63 : Hid (BagIn w.heap.size w2.heap.size (w9.alloc (.cells #[.slice z nz cz] 26)) d D) := FD_58.out.below BA_60.out (by have y0 := ZZ1.out; have y1 := ZZ4.out; have y2 := ZZ5.out; have y3 := ZZ8.out; have y4 := ZZ12.out; have y5 := ZZ13.out; have y6 := ZZ18.out; have y7 := ZZ22.out; have y8 := ZZ23.out; have y9 := ZZ28.out; have y10 := ZZ32.out; have y11 := ZZ33.out; have y12 := ZZ38.out; have y13 := ZZ42.out; have y14 := ZZ43.out; have y15 := ZZ48.out; have y16 := ZZ52.out; have y17 := ZZ53.out; have y18 := ZZ58.out; have y19 := ZZ62.out; have y20 := ZZ63.out; omega)
    have FC_63 : Hid (BagIn w3.heap.size w4.heap.size (w9.alloc (.cells #[.slice z nz cz] 26)) c C) := FC_58.out.below BA_60.out (by have y0 := ZZ1.out; have y1 := ZZ4.out; have y2 := ZZ5.out; have y3 := ZZ8.out; have y4 := ZZ12.out; have y5 := ZZ13.out; have y6 := ZZ18.out; have y7 := ZZ22.out; have y8 := ZZ23.out; have y9 := ZZ28.out; have y10 := ZZ32.out; have y11 := ZZ33.out; have y12 := ZZ38.out; have y13 := ZZ42.out; have y14 := ZZ43.out; have y15 := ZZ48.out; have y16 := ZZ52.out; have y17 := ZZ53.out; have y18 := ZZ58.out; have y19 := ZZ62.out; have y20 := ZZ63.out; omega)
    have FX_63 : Hid (BagIn (w4.alloc (.cells #[.slice c nc cc] 26)).heap.size w5.heap.size (w9.alloc (.cells #[.slice z nz cz] 26)) x X) := FX_58.out.below BA_60.out (by have y0 := ZZ1.out; have y1 := ZZ4.out; have y2 := ZZ5.out; have y3 := ZZ8.out; have y4 := ZZ12.out; have y5 := ZZ13.out; have y6 := ZZ18.out; have y7 := ZZ22.out; have y8 := ZZ23.out; have y9 := ZZ28.out; have y10 := ZZ32.out; have y11 := ZZ33.out; have y12 := ZZ38.out; have y13 := ZZ42.out; have y14 := ZZ43.out; have y15 := ZZ48.out; have y16 := ZZ52.out; have y17 := ZZ53.out; have y18 := ZZ58.out; have y19 := ZZ62.out; have y20 := ZZ63.out; omega)
    have FY_63 : Hid (BagIn (w5.alloc (.cells #[.slice x nx cx] 26)).heap.size w6.heap.size (w9.alloc (.cells #[.slice z nz cz] 26)) y X) := FY_58.out.below BA_60.out (by have y0 := ZZ1.out; have y1 := ZZ4.out; have y2 := ZZ5.out; have y3 := ZZ8.out; have y4 := ZZ12.out; have y5 := ZZ13.out; have y6 := ZZ18.out; have y7 := ZZ22.out; have y8 := ZZ23.out; have y9 := ZZ28.out; have y10 := ZZ32.out; have y11 := ZZ33.out; have y12 := ZZ38.out; have y13 := ZZ42.out; have y14 := ZZ43.out; have y15 := ZZ48.out; have y16 := ZZ52.out; have y17 := ZZ53.out; have y18 := ZZ58.out; have y19 := ZZ62.out; have y20 := ZZ63.out; omega)
    have FAB_63 : Hid (BagIn (w6.alloc (.cells #[.slice y ny cy] 26)).heap.size w7.heap.size (w9.alloc (.cells #[.slice z nz cz] 26)) u AB) := FAB_58.out.below BA_60.out (by have y0 := ZZ1.out; have y1 := ZZ4.out; have y2 := ZZ5.out; have y3 := ZZ8.out; have y4 := ZZ12.out; have y5 := ZZ13.out; have y6 := ZZ18.out; have y7 := ZZ22.out; have y8 := ZZ23.out; have y9 := ZZ28.out; have y10 := ZZ32.out; have y11 := ZZ33.out; have y12 := ZZ38.out; have y13 := ZZ42.out; have y14 := ZZ43.out; have y15 := ZZ48.out; have y16 := ZZ52.out; have y17 := ZZ53.out; have y18 := ZZ58.out; have y19 := ZZ62.out; have y20 := ZZ63.out; omega)
    have FBC_63 : Hid (BagIn (w7.alloc (.cells #[.slice u nu cu] 26)).heap.size w8.heap.size (w9.alloc (.cells #[.slice z nz cz] 26)) v BC) := FBC_58.out.below BA_60.out (by have y0 := ZZ1.out; have y1 := ZZ4.out; have y2 := ZZ5.out; have y3 := ZZ8.out; have y4 := ZZ12.out; have y5 := ZZ13.out; have y6 := ZZ18.out; have y7 := ZZ22.out; have y8 := ZZ23.out; have y9 := ZZ28.out; have y10 := ZZ32.out; have y11 := ZZ33.out; have y12 := ZZ38.out; have y13 := ZZ42.out; have y14 := ZZ43.out; have y15 := ZZ48.out; have y16 := ZZ52.out; have y17 := ZZ53.out; have y18 := ZZ58.out; have y19 := ZZ62.out; have y20 := ZZ63.out; omega)
    have FABC_63 : Hid (BagIn (w8.alloc (.cells #[.slice v nv cv] 26)).heap.size w9.heap.size (w9.alloc (.cells #[.slice z nz cz] 26)) z AB) := FABC_59.out.below BA_60.out (by have y0 := ZZ1.out; have y1 := ZZ4.out; have y2 := ZZ5.out; have y3 := ZZ8.out; have y4 := ZZ12.out; have y5 := ZZ13.out; have y6 := ZZ18.out; have y7 := ZZ22.out; have y8 := ZZ23.out; have y9 := ZZ28.out; have y10 := ZZ32.out; have y11 := ZZ33.out; have y12 := ZZ38.out; have y13 := ZZ42.out; have y14 := ZZ43.out; have y15 := ZZ48.out; have y16 := ZZ52.out; have y17 := ZZ53.out; have y18 := ZZ58.out; have y19 := ZZ62.out; have y20 := ZZ63.out; omega)
    clear FA_58 FD_58 FC_58 FX_58 FY_58 FAB_58 FBC_58 FABC_59
    clear BA_60
    obtain rfl : nx = ny := by rw [← HFX.out, HFY.out]
    obtain rfl : nu = nz := by rw [← HFAB.out, HFABC.out]
    obtain ⟨w10, HW10⟩ : ∃ w10, Hid (w10 = (w9.alloc (.cells #[.slice z nu cz] 26))) := ⟨_, rfl⟩
    obtain ⟨szA, HSA⟩ : ∃ s, Hid (s = sizeOfBag A) := ⟨_, rfl⟩
    obtain ⟨szD, HSD⟩ : ∃ s, Hid (s = sizeOfBag D) := ⟨_, rfl⟩
    have hsa : 0 ≤ szA ∧ szA ≤ 21 := by rw [HSA.out]; exact HJ.out.sa
    have hsd : 0 ≤ szD ∧ szD ≤ 21 := by rw [HSD.out]; exact HJ.out.sd
    have hwr : IntKind.i64.wrap (szA + szD) = szA + szD := by simp [IntKind.wrap, IntKind.bits, IntKind.signed]; omega
    rw [← HW10.out] at FA_63 FD_63 FC_63 FX_63 FY_63 FAB_63 FBC_63 FABC_63 HD_61 ZZ62 ZZ63
    have HS1 : Hid (∀ w0 , Below w10.heap.size w10 w0 → Calls Try.prog 29 #[.agg #[.slice x nx cx], .agg #[.slice y nx cy]] w0 fun e w' => e = .returned (.bool true) ∧ Hid (Below w10.heap.size w10 w') ∧ (w'.cell? ⟨w5.heap.size, 0, none⟩ = some (.slice x nx cx) ∧ w'.cell? ⟨w6.heap.size, 0, none⟩ = some (.slice y nx cy) ∧ w'.cell? ⟨w7.heap.size, 0, none⟩ = some (.slice u nu cu) ∧ w'.cell? ⟨w9.heap.size, 0, none⟩ = some (.slice z nu cz) ∧ w'.cell? ⟨w2.heap.size, 0, none⟩ = some (.slice a na ca) ∧ w'.cell? ⟨w2.heap.size + 1, 0, none⟩ = some (.slice d nd cd))) := by
      intro w0 h
      have hH : Held w w0 [(w9.heap.size, .slice z nu cz), (w8.heap.size, .slice v nv cv), (w7.heap.size, .slice u nu cu), (w6.heap.size, .slice y nx cy), (w5.heap.size, .slice x nx cx), (w4.heap.size, .slice c nc cc), (w2.heap.size + 1, .slice d nd cd), (w2.heap.size, .slice a na ca)] := HD_61.out.below h
      have h0s := h.size
      refine (sameBag_any (w4.alloc (.cells #[.slice c nc cc] 26)).heap.size w5.heap.size (w5.alloc (.cells #[.slice x nx cx] 26)).heap.size w6.heap.size x y nx cx cy X w0 (FX_63.out.below h (by have y0 := ZZ1.out; have y1 := ZZ4.out; have y2 := ZZ5.out; have y3 := ZZ8.out; have y4 := ZZ12.out; have y5 := ZZ13.out; have y6 := ZZ18.out; have y7 := ZZ22.out; have y8 := ZZ23.out; have y9 := ZZ28.out; have y10 := ZZ32.out; have y11 := ZZ33.out; have y12 := ZZ38.out; have y13 := ZZ42.out; have y14 := ZZ43.out; have y15 := ZZ48.out; have y16 := ZZ52.out; have y17 := ZZ53.out; have y18 := ZZ58.out; have y19 := ZZ62.out; have y20 := ZZ63.out; omega)) (FY_63.out.below h (by have y0 := ZZ1.out; have y1 := ZZ4.out; have y2 := ZZ5.out; have y3 := ZZ8.out; have y4 := ZZ12.out; have y5 := ZZ13.out; have y6 := ZZ18.out; have y7 := ZZ22.out; have y8 := ZZ23.out; have y9 := ZZ28.out; have y10 := ZZ32.out; have y11 := ZZ33.out; have y12 := ZZ38.out; have y13 := ZZ42.out; have y14 := ZZ43.out; have y15 := ZZ48.out; have y16 := ZZ52.out; have y17 := ZZ53.out; have y18 := ZZ58.out; have y19 := ZZ62.out; have y20 := ZZ63.out; omega)) (by have h0s := h.size; have y0 := ZZ1.out; have y1 := ZZ4.out; have y2 := ZZ5.out; have y3 := ZZ8.out; have y4 := ZZ12.out; have y5 := ZZ13.out; have y6 := ZZ18.out; have y7 := ZZ22.out; have y8 := ZZ23.out; have y9 := ZZ28.out; have y10 := ZZ32.out; have y11 := ZZ33.out; have y12 := ZZ38.out; have y13 := ZZ42.out; have y14 := ZZ43.out; have y15 := ZZ48.out; have y16 := ZZ52.out; have y17 := ZZ53.out; have y18 := ZZ58.out; have y19 := ZZ62.out; have y20 := ZZ63.out; omega) (by have h0s := h.size; have y0 := ZZ1.out; have y1 := ZZ4.out; have y2 := ZZ5.out; have y3 := ZZ8.out; have y4 := ZZ12.out; have y5 := ZZ13.out; have y6 := ZZ18.out; have y7 := ZZ22.out; have y8 := ZZ23.out; have y9 := ZZ28.out; have y10 := ZZ32.out; have y11 := ZZ33.out; have y12 := ZZ38.out; have y13 := ZZ42.out; have y14 := ZZ43.out; have y15 := ZZ48.out; have y16 := ZZ52.out; have y17 := ZZ53.out; have y18 := ZZ58.out; have y19 := ZZ62.out; have y20 := ZZ63.out; omega) HFX.out (good_b HJ.out.gx HFX.out).1 (good_b HJ.out.gx HFX.out).2).mono ?_
      rintro e w' ⟨rfl, hb⟩
      have hH' : Held w w' [(w9.heap.size, .slice z nu cz), (w8.heap.size, .slice v nv cv), (w7.heap.size, .slice u nu cu), (w6.heap.size, .slice y nx cy), (w5.heap.size, .slice x nx cx), (w4.heap.size, .slice c nc cc), (w2.heap.size + 1, .slice d nd cd), (w2.heap.size, .slice a na ca)] := hH.below hb
      exact ⟨rfl, h.trans (hb.mono h0s), (hH').cell (b := w5.heap.size) (v := .slice x nx cx) (by simp), (hH').cell (b := w6.heap.size) (v := .slice y nx cy) (by simp), (hH').cell (b := w7.heap.size) (v := .slice u nu cu) (by simp), (hH').cell (b := w9.heap.size) (v := .slice z nu cz) (by simp), (hH').cell (b := w2.heap.size) (v := .slice a na ca) (by simp), (hH').cell (b := w2.heap.size + 1) (v := .slice d nd cd) (by simp)⟩
    have HS2 : Hid (∀ w0 , Below w10.heap.size w10 w0 → Calls Try.prog 29 #[.agg #[.slice u nu cu], .agg #[.slice z nu cz]] w0 fun e w' => e = .returned (.bool true) ∧ Hid (Below w10.heap.size w10 w') ∧ (w'.cell? ⟨w5.heap.size, 0, none⟩ = some (.slice x nx cx) ∧ w'.cell? ⟨w6.heap.size, 0, none⟩ = some (.slice y nx cy) ∧ w'.cell? ⟨w7.heap.size, 0, none⟩ = some (.slice u nu cu) ∧ w'.cell? ⟨w9.heap.size, 0, none⟩ = some (.slice z nu cz) ∧ w'.cell? ⟨w2.heap.size, 0, none⟩ = some (.slice a na ca) ∧ w'.cell? ⟨w2.heap.size + 1, 0, none⟩ = some (.slice d nd cd))) := by
      intro w0 h
      have hH : Held w w0 [(w9.heap.size, .slice z nu cz), (w8.heap.size, .slice v nv cv), (w7.heap.size, .slice u nu cu), (w6.heap.size, .slice y nx cy), (w5.heap.size, .slice x nx cx), (w4.heap.size, .slice c nc cc), (w2.heap.size + 1, .slice d nd cd), (w2.heap.size, .slice a na ca)] := HD_61.out.below h
      have h0s := h.size
      refine (sameBag_any (w6.alloc (.cells #[.slice y nx cy] 26)).heap.size w7.heap.size (w8.alloc (.cells #[.slice v nv cv] 26)).heap.size w9.heap.size u z nu cu cz AB w0 (FAB_63.out.below h (by have y0 := ZZ1.out; have y1 := ZZ4.out; have y2 := ZZ5.out; have y3 := ZZ8.out; have y4 := ZZ12.out; have y5 := ZZ13.out; have y6 := ZZ18.out; have y7 := ZZ22.out; have y8 := ZZ23.out; have y9 := ZZ28.out; have y10 := ZZ32.out; have y11 := ZZ33.out; have y12 := ZZ38.out; have y13 := ZZ42.out; have y14 := ZZ43.out; have y15 := ZZ48.out; have y16 := ZZ52.out; have y17 := ZZ53.out; have y18 := ZZ58.out; have y19 := ZZ62.out; have y20 := ZZ63.out; omega)) (FABC_63.out.below h (by have y0 := ZZ1.out; have y1 := ZZ4.out; have y2 := ZZ5.out; have y3 := ZZ8.out; have y4 := ZZ12.out; have y5 := ZZ13.out; have y6 := ZZ18.out; have y7 := ZZ22.out; have y8 := ZZ23.out; have y9 := ZZ28.out; have y10 := ZZ32.out; have y11 := ZZ33.out; have y12 := ZZ38.out; have y13 := ZZ42.out; have y14 := ZZ43.out; have y15 := ZZ48.out; have y16 := ZZ52.out; have y17 := ZZ53.out; have y18 := ZZ58.out; have y19 := ZZ62.out; have y20 := ZZ63.out; omega)) (by have h0s := h.size; have y0 := ZZ1.out; have y1 := ZZ4.out; have y2 := ZZ5.out; have y3 := ZZ8.out; have y4 := ZZ12.out; have y5 := ZZ13.out; have y6 := ZZ18.out; have y7 := ZZ22.out; have y8 := ZZ23.out; have y9 := ZZ28.out; have y10 := ZZ32.out; have y11 := ZZ33.out; have y12 := ZZ38.out; have y13 := ZZ42.out; have y14 := ZZ43.out; have y15 := ZZ48.out; have y16 := ZZ52.out; have y17 := ZZ53.out; have y18 := ZZ58.out; have y19 := ZZ62.out; have y20 := ZZ63.out; omega) (by have h0s := h.size; have y0 := ZZ1.out; have y1 := ZZ4.out; have y2 := ZZ5.out; have y3 := ZZ8.out; have y4 := ZZ12.out; have y5 := ZZ13.out; have y6 := ZZ18.out; have y7 := ZZ22.out; have y8 := ZZ23.out; have y9 := ZZ28.out; have y10 := ZZ32.out; have y11 := ZZ33.out; have y12 := ZZ38.out; have y13 := ZZ42.out; have y14 := ZZ43.out; have y15 := ZZ48.out; have y16 := ZZ52.out; have y17 := ZZ53.out; have y18 := ZZ58.out; have y19 := ZZ62.out; have y20 := ZZ63.out; omega) HFAB.out (good_b HJ.out.gab HFAB.out).1 (good_b HJ.out.gab HFAB.out).2).mono ?_
      rintro e w' ⟨rfl, hb⟩
      have hH' : Held w w' [(w9.heap.size, .slice z nu cz), (w8.heap.size, .slice v nv cv), (w7.heap.size, .slice u nu cu), (w6.heap.size, .slice y nx cy), (w5.heap.size, .slice x nx cx), (w4.heap.size, .slice c nc cc), (w2.heap.size + 1, .slice d nd cd), (w2.heap.size, .slice a na ca)] := hH.below hb
      exact ⟨rfl, h.trans (hb.mono h0s), (hH').cell (b := w5.heap.size) (v := .slice x nx cx) (by simp), (hH').cell (b := w6.heap.size) (v := .slice y nx cy) (by simp), (hH').cell (b := w7.heap.size) (v := .slice u nu cu) (by simp), (hH').cell (b := w9.heap.size) (v := .slice z nu cz) (by simp), (hH').cell (b := w2.heap.size) (v := .slice a na ca) (by simp), (hH').cell (b := w2.heap.size + 1) (v := .slice d nd cd) (by simp)⟩
    have HZ1 : Hid (∀ w0 , Below w10.heap.size w10 w0 → Calls Try.prog 25 #[.agg #[.slice x nx cx]] w0 fun e w' => e = .returned (.int .i64 (szA + szD)) ∧ Hid (Below w10.heap.size w10 w') ∧ (w'.cell? ⟨w5.heap.size, 0, none⟩ = some (.slice x nx cx) ∧ w'.cell? ⟨w6.heap.size, 0, none⟩ = some (.slice y nx cy) ∧ w'.cell? ⟨w7.heap.size, 0, none⟩ = some (.slice u nu cu) ∧ w'.cell? ⟨w9.heap.size, 0, none⟩ = some (.slice z nu cz) ∧ w'.cell? ⟨w2.heap.size, 0, none⟩ = some (.slice a na ca) ∧ w'.cell? ⟨w2.heap.size + 1, 0, none⟩ = some (.slice d nd cd))) := by
      intro w0 h
      have hH : Held w w0 [(w9.heap.size, .slice z nu cz), (w8.heap.size, .slice v nv cv), (w7.heap.size, .slice u nu cu), (w6.heap.size, .slice y nx cy), (w5.heap.size, .slice x nx cx), (w4.heap.size, .slice c nc cc), (w2.heap.size + 1, .slice d nd cd), (w2.heap.size, .slice a na ca)] := HD_61.out.below h
      have h0s := h.size
      refine (bagSize_any (w4.alloc (.cells #[.slice c nc cc] 26)).heap.size w5.heap.size x nx cx X (szA + szD) w0 (FX_63.out.below h (by have y0 := ZZ1.out; have y1 := ZZ4.out; have y2 := ZZ5.out; have y3 := ZZ8.out; have y4 := ZZ12.out; have y5 := ZZ13.out; have y6 := ZZ18.out; have y7 := ZZ22.out; have y8 := ZZ23.out; have y9 := ZZ28.out; have y10 := ZZ32.out; have y11 := ZZ33.out; have y12 := ZZ38.out; have y13 := ZZ42.out; have y14 := ZZ43.out; have y15 := ZZ48.out; have y16 := ZZ52.out; have y17 := ZZ53.out; have y18 := ZZ58.out; have y19 := ZZ62.out; have y20 := ZZ63.out; omega)) (by have h0s := h.size; have y0 := ZZ1.out; have y1 := ZZ4.out; have y2 := ZZ5.out; have y3 := ZZ8.out; have y4 := ZZ12.out; have y5 := ZZ13.out; have y6 := ZZ18.out; have y7 := ZZ22.out; have y8 := ZZ23.out; have y9 := ZZ28.out; have y10 := ZZ32.out; have y11 := ZZ33.out; have y12 := ZZ38.out; have y13 := ZZ42.out; have y14 := ZZ43.out; have y15 := ZZ48.out; have y16 := ZZ52.out; have y17 := ZZ53.out; have y18 := ZZ58.out; have y19 := ZZ62.out; have y20 := ZZ63.out; omega) HFX.out (good_b HJ.out.gx HFX.out).1 (good_b HJ.out.gx HFX.out).2 (by rw [HSA.out, HSD.out]; exact HJ.out.size.symm)).mono ?_
      rintro e w' ⟨rfl, hb⟩
      have hH' : Held w w' [(w9.heap.size, .slice z nu cz), (w8.heap.size, .slice v nv cv), (w7.heap.size, .slice u nu cu), (w6.heap.size, .slice y nx cy), (w5.heap.size, .slice x nx cx), (w4.heap.size, .slice c nc cc), (w2.heap.size + 1, .slice d nd cd), (w2.heap.size, .slice a na ca)] := hH.below hb
      exact ⟨rfl, h.trans (hb.mono h0s), (hH').cell (b := w5.heap.size) (v := .slice x nx cx) (by simp), (hH').cell (b := w6.heap.size) (v := .slice y nx cy) (by simp), (hH').cell (b := w7.heap.size) (v := .slice u nu cu) (by simp), (hH').cell (b := w9.heap.size) (v := .slice z nu cz) (by simp), (hH').cell (b := w2.heap.size) (v := .slice a na ca) (by simp), (hH').cell (b := w2.heap.size + 1) (v := .slice d nd cd) (by simp)⟩
    have HZ2 : Hid (∀ w0 , Below w10.heap.size w10 w0 → Calls Try.prog 26 #[.agg #[.slice a na ca]] w0 fun e w' => e = .returned (.int .i64 (szA)) ∧ Hid (Below w10.heap.size w10 w') ∧ (w'.cell? ⟨w5.heap.size, 0, none⟩ = some (.slice x nx cx) ∧ w'.cell? ⟨w6.heap.size, 0, none⟩ = some (.slice y nx cy) ∧ w'.cell? ⟨w7.heap.size, 0, none⟩ = some (.slice u nu cu) ∧ w'.cell? ⟨w9.heap.size, 0, none⟩ = some (.slice z nu cz) ∧ w'.cell? ⟨w2.heap.size, 0, none⟩ = some (.slice a na ca) ∧ w'.cell? ⟨w2.heap.size + 1, 0, none⟩ = some (.slice d nd cd))) := by
      intro w0 h
      have hH : Held w w0 [(w9.heap.size, .slice z nu cz), (w8.heap.size, .slice v nv cv), (w7.heap.size, .slice u nu cu), (w6.heap.size, .slice y nx cy), (w5.heap.size, .slice x nx cx), (w4.heap.size, .slice c nc cc), (w2.heap.size + 1, .slice d nd cd), (w2.heap.size, .slice a na ca)] := HD_61.out.below h
      have h0s := h.size
      refine (specSize_any w.heap.size w2.heap.size a na ca A (szA) w0 (FA_63.out.below h (by have y0 := ZZ1.out; have y1 := ZZ4.out; have y2 := ZZ5.out; have y3 := ZZ8.out; have y4 := ZZ12.out; have y5 := ZZ13.out; have y6 := ZZ18.out; have y7 := ZZ22.out; have y8 := ZZ23.out; have y9 := ZZ28.out; have y10 := ZZ32.out; have y11 := ZZ33.out; have y12 := ZZ38.out; have y13 := ZZ42.out; have y14 := ZZ43.out; have y15 := ZZ48.out; have y16 := ZZ52.out; have y17 := ZZ53.out; have y18 := ZZ58.out; have y19 := ZZ62.out; have y20 := ZZ63.out; omega)) (by have h0s := h.size; have y0 := ZZ1.out; have y1 := ZZ4.out; have y2 := ZZ5.out; have y3 := ZZ8.out; have y4 := ZZ12.out; have y5 := ZZ13.out; have y6 := ZZ18.out; have y7 := ZZ22.out; have y8 := ZZ23.out; have y9 := ZZ28.out; have y10 := ZZ32.out; have y11 := ZZ33.out; have y12 := ZZ38.out; have y13 := ZZ42.out; have y14 := ZZ43.out; have y15 := ZZ48.out; have y16 := ZZ52.out; have y17 := ZZ53.out; have y18 := ZZ58.out; have y19 := ZZ62.out; have y20 := ZZ63.out; omega) HNA.out (good_b HJ.out.ga HNA.out).1 (good_b HJ.out.ga HNA.out).2 HSA.out).mono ?_
      rintro e w' ⟨rfl, hb⟩
      have hH' : Held w w' [(w9.heap.size, .slice z nu cz), (w8.heap.size, .slice v nv cv), (w7.heap.size, .slice u nu cu), (w6.heap.size, .slice y nx cy), (w5.heap.size, .slice x nx cx), (w4.heap.size, .slice c nc cc), (w2.heap.size + 1, .slice d nd cd), (w2.heap.size, .slice a na ca)] := hH.below hb
      exact ⟨rfl, h.trans (hb.mono h0s), (hH').cell (b := w5.heap.size) (v := .slice x nx cx) (by simp), (hH').cell (b := w6.heap.size) (v := .slice y nx cy) (by simp), (hH').cell (b := w7.heap.size) (v := .slice u nu cu) (by simp), (hH').cell (b := w9.heap.size) (v := .slice z nu cz) (by simp), (hH').cell (b := w2.heap.size) (v := .slice a na ca) (by simp), (hH').cell (b := w2.heap.size + 1) (v := .slice d nd cd) (by simp)⟩
    have HZ3 : Hid (∀ w0 , Below w10.heap.size w10 w0 → Calls Try.prog 26 #[.agg #[.slice d nd cd]] w0 fun e w' => e = .returned (.int .i64 (szD)) ∧ Hid (Below w10.heap.size w10 w') ∧ (w'.cell? ⟨w5.heap.size, 0, none⟩ = some (.slice x nx cx) ∧ w'.cell? ⟨w6.heap.size, 0, none⟩ = some (.slice y nx cy) ∧ w'.cell? ⟨w7.heap.size, 0, none⟩ = some (.slice u nu cu) ∧ w'.cell? ⟨w9.heap.size, 0, none⟩ = some (.slice z nu cz) ∧ w'.cell? ⟨w2.heap.size, 0, none⟩ = some (.slice a na ca) ∧ w'.cell? ⟨w2.heap.size + 1, 0, none⟩ = some (.slice d nd cd))) := by
      intro w0 h
      have hH : Held w w0 [(w9.heap.size, .slice z nu cz), (w8.heap.size, .slice v nv cv), (w7.heap.size, .slice u nu cu), (w6.heap.size, .slice y nx cy), (w5.heap.size, .slice x nx cx), (w4.heap.size, .slice c nc cc), (w2.heap.size + 1, .slice d nd cd), (w2.heap.size, .slice a na ca)] := HD_61.out.below h
      have h0s := h.size
      refine (specSize_any w.heap.size w2.heap.size d nd cd D (szD) w0 (FD_63.out.below h (by have y0 := ZZ1.out; have y1 := ZZ4.out; have y2 := ZZ5.out; have y3 := ZZ8.out; have y4 := ZZ12.out; have y5 := ZZ13.out; have y6 := ZZ18.out; have y7 := ZZ22.out; have y8 := ZZ23.out; have y9 := ZZ28.out; have y10 := ZZ32.out; have y11 := ZZ33.out; have y12 := ZZ38.out; have y13 := ZZ42.out; have y14 := ZZ43.out; have y15 := ZZ48.out; have y16 := ZZ52.out; have y17 := ZZ53.out; have y18 := ZZ58.out; have y19 := ZZ62.out; have y20 := ZZ63.out; omega)) (by have h0s := h.size; have y0 := ZZ1.out; have y1 := ZZ4.out; have y2 := ZZ5.out; have y3 := ZZ8.out; have y4 := ZZ12.out; have y5 := ZZ13.out; have y6 := ZZ18.out; have y7 := ZZ22.out; have y8 := ZZ23.out; have y9 := ZZ28.out; have y10 := ZZ32.out; have y11 := ZZ33.out; have y12 := ZZ38.out; have y13 := ZZ42.out; have y14 := ZZ43.out; have y15 := ZZ48.out; have y16 := ZZ52.out; have y17 := ZZ53.out; have y18 := ZZ58.out; have y19 := ZZ62.out; have y20 := ZZ63.out; omega) HND.out (good_b HJ.out.gd HND.out).1 (good_b HJ.out.gd HND.out).2 HSD.out).mono ?_
      rintro e w' ⟨rfl, hb⟩
      have hH' : Held w w' [(w9.heap.size, .slice z nu cz), (w8.heap.size, .slice v nv cv), (w7.heap.size, .slice u nu cu), (w6.heap.size, .slice y nx cy), (w5.heap.size, .slice x nx cx), (w4.heap.size, .slice c nc cc), (w2.heap.size + 1, .slice d nd cd), (w2.heap.size, .slice a na ca)] := hH.below hb
      exact ⟨rfl, h.trans (hb.mono h0s), (hH').cell (b := w5.heap.size) (v := .slice x nx cx) (by simp), (hH').cell (b := w6.heap.size) (v := .slice y nx cy) (by simp), (hH').cell (b := w7.heap.size) (v := .slice u nu cu) (by simp), (hH').cell (b := w9.heap.size) (v := .slice z nu cz) (by simp), (hH').cell (b := w2.heap.size) (v := .slice a na ca) (by simp), (hH').cell (b := w2.heap.size + 1) (v := .slice d nd cd) (by simp)⟩
    have HE1 : Hid (∀ w0 , Below w10.heap.size w10 w0 → Calls Try.prog 30 #[.agg #[.slice x nx cx]] w0 fun e w' => ∃ (a' : Option Addr) (c' : Nat), e = .returned (.agg #[.slice a' nx c']) ∧ Hid (BagIn w10.heap.size w'.heap.size w' a' (eachOf X)) ∧ Hid (∀ a2 l2, BagIn w10.heap.size w0.heap.size w0 a2 l2 → BagIn w10.heap.size w'.heap.size w' a2 l2) ∧ Hid (Below w10.heap.size w10 w') ∧ (w'.cell? ⟨w5.heap.size, 0, none⟩ = some (.slice x nx cx) ∧ w'.cell? ⟨w6.heap.size, 0, none⟩ = some (.slice y nx cy) ∧ w'.cell? ⟨w7.heap.size, 0, none⟩ = some (.slice u nu cu) ∧ w'.cell? ⟨w9.heap.size, 0, none⟩ = some (.slice z nu cz) ∧ w'.cell? ⟨w2.heap.size, 0, none⟩ = some (.slice a na ca) ∧ w'.cell? ⟨w2.heap.size + 1, 0, none⟩ = some (.slice d nd cd))) := by
      intro w0 h
      have hH : Held w w0 [(w9.heap.size, .slice z nu cz), (w8.heap.size, .slice v nv cv), (w7.heap.size, .slice u nu cu), (w6.heap.size, .slice y nx cy), (w5.heap.size, .slice x nx cx), (w4.heap.size, .slice c nc cc), (w2.heap.size + 1, .slice d nd cd), (w2.heap.size, .slice a na ca)] := HD_61.out.below h
      have h0s := h.size
      refine (bagEach_any (w4.alloc (.cells #[.slice c nc cc] 26)).heap.size w5.heap.size x nx cx X w0 (FX_63.out.below h (by have y0 := ZZ1.out; have y1 := ZZ4.out; have y2 := ZZ5.out; have y3 := ZZ8.out; have y4 := ZZ12.out; have y5 := ZZ13.out; have y6 := ZZ18.out; have y7 := ZZ22.out; have y8 := ZZ23.out; have y9 := ZZ28.out; have y10 := ZZ32.out; have y11 := ZZ33.out; have y12 := ZZ38.out; have y13 := ZZ42.out; have y14 := ZZ43.out; have y15 := ZZ48.out; have y16 := ZZ52.out; have y17 := ZZ53.out; have y18 := ZZ58.out; have y19 := ZZ62.out; have y20 := ZZ63.out; omega)) (by have h0s := h.size; have y0 := ZZ1.out; have y1 := ZZ4.out; have y2 := ZZ5.out; have y3 := ZZ8.out; have y4 := ZZ12.out; have y5 := ZZ13.out; have y6 := ZZ18.out; have y7 := ZZ22.out; have y8 := ZZ23.out; have y9 := ZZ28.out; have y10 := ZZ32.out; have y11 := ZZ33.out; have y12 := ZZ38.out; have y13 := ZZ42.out; have y14 := ZZ43.out; have y15 := ZZ48.out; have y16 := ZZ52.out; have y17 := ZZ53.out; have y18 := ZZ58.out; have y19 := ZZ62.out; have y20 := ZZ63.out; omega) HFX.out (good_b HJ.out.gx HFX.out).1 (good_b HJ.out.gx HFX.out).2).mono ?_
      rintro e w' ⟨a', c', rfl, hx, hb⟩
      have hH' : Held w w' [(w9.heap.size, .slice z nu cz), (w8.heap.size, .slice v nv cv), (w7.heap.size, .slice u nu cu), (w6.heap.size, .slice y nx cy), (w5.heap.size, .slice x nx cx), (w4.heap.size, .slice c nc cc), (w2.heap.size + 1, .slice d nd cd), (w2.heap.size, .slice a na ca)] := hH.below hb.out
      exact ⟨a', c', rfl, hx.out.toIn.wide h0s (Nat.le_refl _), (fun a2 l2 h2 => (h2.below hb.out (Nat.le_refl _)).wide (Nat.le_refl _) hb.out.size), h.trans (hb.out.mono h0s), (hH').cell (b := w5.heap.size) (v := .slice x nx cx) (by simp), (hH').cell (b := w6.heap.size) (v := .slice y nx cy) (by simp), (hH').cell (b := w7.heap.size) (v := .slice u nu cu) (by simp), (hH').cell (b := w9.heap.size) (v := .slice z nu cz) (by simp), (hH').cell (b := w2.heap.size) (v := .slice a na ca) (by simp), (hH').cell (b := w2.heap.size + 1) (v := .slice d nd cd) (by simp)⟩
    have HE2 : Hid (∀ w0 (a1 : Option Addr) (c1 : Nat), Below w10.heap.size w10 w0 → BagIn w10.heap.size w0.heap.size w0 a1 (eachOf X) → Calls Try.prog 30 #[.agg #[.slice a1 nx c1]] w0 fun e w' => ∃ (a' : Option Addr) (c' : Nat), e = .returned (.agg #[.slice a' nx c']) ∧ Hid (BagIn w10.heap.size w'.heap.size w' a' (eachOf X)) ∧ Hid (Below w10.heap.size w10 w') ∧ (w'.cell? ⟨w5.heap.size, 0, none⟩ = some (.slice x nx cx) ∧ w'.cell? ⟨w6.heap.size, 0, none⟩ = some (.slice y nx cy) ∧ w'.cell? ⟨w7.heap.size, 0, none⟩ = some (.slice u nu cu) ∧ w'.cell? ⟨w9.heap.size, 0, none⟩ = some (.slice z nu cz) ∧ w'.cell? ⟨w2.heap.size, 0, none⟩ = some (.slice a na ca) ∧ w'.cell? ⟨w2.heap.size + 1, 0, none⟩ = some (.slice d nd cd))) := by
      intro w0 a1 c1 h hx1
      have hH : Held w w0 [(w9.heap.size, .slice z nu cz), (w8.heap.size, .slice v nv cv), (w7.heap.size, .slice u nu cu), (w6.heap.size, .slice y nx cy), (w5.heap.size, .slice x nx cx), (w4.heap.size, .slice c nc cc), (w2.heap.size + 1, .slice d nd cd), (w2.heap.size, .slice a na ca)] := HD_61.out.below h
      have h0s := h.size
      refine (bagEach_any w10.heap.size w0.heap.size a1 nx c1 (eachOf X) w0 hx1 (Nat.le_refl _) (by rw [eachOf_len]; exact HFX.out) (good_b HJ.out.gx HFX.out).1 (fun i hi => by rw [eachOf_row (by rw [HFX.out]; exact hi)]; exact (good_b HJ.out.gx HFX.out).2 i hi)).mono ?_
      rintro e w' ⟨a', c', rfl, hx, hb⟩
      have hH' : Held w w' [(w9.heap.size, .slice z nu cz), (w8.heap.size, .slice v nv cv), (w7.heap.size, .slice u nu cu), (w6.heap.size, .slice y nx cy), (w5.heap.size, .slice x nx cx), (w4.heap.size, .slice c nc cc), (w2.heap.size + 1, .slice d nd cd), (w2.heap.size, .slice a na ca)] := hH.below hb.out
      exact ⟨a', c', rfl, (by rw [each_each] at hx; exact hx.out.toIn.wide h0s (Nat.le_refl _)), h.trans (hb.out.mono h0s), (hH').cell (b := w5.heap.size) (v := .slice x nx cx) (by simp), (hH').cell (b := w6.heap.size) (v := .slice y nx cy) (by simp), (hH').cell (b := w7.heap.size) (v := .slice u nu cu) (by simp), (hH').cell (b := w9.heap.size) (v := .slice z nu cz) (by simp), (hH').cell (b := w2.heap.size) (v := .slice a na ca) (by simp), (hH').cell (b := w2.heap.size + 1) (v := .slice d nd cd) (by simp)⟩
    have HS3 : Hid (∀ w0 (a1 a2 : Option Addr) (c1 c2 : Nat), Below w10.heap.size w10 w0 → BagIn w10.heap.size w0.heap.size w0 a1 (eachOf X) → BagIn w10.heap.size w0.heap.size w0 a2 (eachOf X) → Calls Try.prog 29 #[.agg #[.slice a1 nx c1], .agg #[.slice a2 nx c2]] w0 fun e w' => e = .returned (.bool true) ∧ Hid (Below w10.heap.size w10 w') ∧ (w'.cell? ⟨w5.heap.size, 0, none⟩ = some (.slice x nx cx) ∧ w'.cell? ⟨w6.heap.size, 0, none⟩ = some (.slice y nx cy) ∧ w'.cell? ⟨w7.heap.size, 0, none⟩ = some (.slice u nu cu) ∧ w'.cell? ⟨w9.heap.size, 0, none⟩ = some (.slice z nu cz) ∧ w'.cell? ⟨w2.heap.size, 0, none⟩ = some (.slice a na ca) ∧ w'.cell? ⟨w2.heap.size + 1, 0, none⟩ = some (.slice d nd cd))) := by
      intro w0 a1 a2 c1 c2 h hx1 hx2
      have hH : Held w w0 [(w9.heap.size, .slice z nu cz), (w8.heap.size, .slice v nv cv), (w7.heap.size, .slice u nu cu), (w6.heap.size, .slice y nx cy), (w5.heap.size, .slice x nx cx), (w4.heap.size, .slice c nc cc), (w2.heap.size + 1, .slice d nd cd), (w2.heap.size, .slice a na ca)] := HD_61.out.below h
      have h0s := h.size
      refine (sameBag_any w10.heap.size w0.heap.size w10.heap.size w0.heap.size a1 a2 nx c1 c2 (eachOf X) w0 hx1 hx2 (Nat.le_refl _) (Nat.le_refl _) (by rw [eachOf_len]; exact HFX.out) (good_b HJ.out.gx HFX.out).1 (fun i hi => by rw [eachOf_row (by rw [HFX.out]; exact hi)]; exact (good_b HJ.out.gx HFX.out).2 i hi)).mono ?_
      rintro e w' ⟨rfl, hb⟩
      have hH' : Held w w' [(w9.heap.size, .slice z nu cz), (w8.heap.size, .slice v nv cv), (w7.heap.size, .slice u nu cu), (w6.heap.size, .slice y nx cy), (w5.heap.size, .slice x nx cx), (w4.heap.size, .slice c nc cc), (w2.heap.size + 1, .slice d nd cd), (w2.heap.size, .slice a na ca)] := hH.below hb
      exact ⟨rfl, h.trans (hb.mono h0s), (hH').cell (b := w5.heap.size) (v := .slice x nx cx) (by simp), (hH').cell (b := w6.heap.size) (v := .slice y nx cy) (by simp), (hH').cell (b := w7.heap.size) (v := .slice u nu cu) (by simp), (hH').cell (b := w9.heap.size) (v := .slice z nu cz) (by simp), (hH').cell (b := w2.heap.size) (v := .slice a na ca) (by simp), (hH').cell (b := w2.heap.size + 1) (v := .slice d nd cd) (by simp)⟩
    have q0 := HD_61.out.cell (b := w5.heap.size) (v := .slice x nx cx) (by simp)
    have q1 := HD_61.out.cell (b := w6.heap.size) (v := .slice y nx cy) (by simp)
    have q2 := HD_61.out.cell (b := w7.heap.size) (v := .slice u nu cu) (by simp)
    have q3 := HD_61.out.cell (b := w9.heap.size) (v := .slice z nu cz) (by simp)
    have q4 := HD_61.out.cell (b := w2.heap.size) (v := .slice a na ca) (by simp)
    have q5 := HD_61.out.cell (b := w2.heap.size + 1) (v := .slice d nd cd) (by simp)
    have BL0 : Hid (Below w.heap.size w w10) := HD_61.out.bel
    clear FA_63 FD_63 FC_63 FX_63 FY_63 FAB_63 FBC_63 FABC_63 HNA HND HNC HFX HFY HFAB HFBC HFABC HJ ZZ1 ZZ4 ZZ5 ZZ8 ZZ12 ZZ13 ZZ18 ZZ22 ZZ23 ZZ28 ZZ32 ZZ33 ZZ38 ZZ42 ZZ43 ZZ48 ZZ52 ZZ53 ZZ58 ZZ62 ZZ63 HD_61
    go_wp2_with fail
    rw [← HW10.out]
    have hfld : ∀ (a : Option Addr) (n c : Nat) (w : World), Sem.run Try.prog (Instr.field 26 (.agg #[.slice a n c]) 0) w = .ok (.slice a n c) w := field26
    have T1 : True := trivial
    have T2 : True := trivial
    have U1 : True := trivial
    have U2 : True := trivial
    have V1 : True := trivial
    go_region_held3 (fun w' => w'.cell? ⟨w5.heap.size, 0, none⟩ = some (.slice x nx cx) ∧ w'.cell? ⟨w6.heap.size, 0, none⟩ = some (.slice y nx cy) ∧ w'.cell? ⟨w7.heap.size, 0, none⟩ = some (.slice u nu cu) ∧ w'.cell? ⟨w9.heap.size, 0, none⟩ = some (.slice z nu cz) ∧ w'.cell? ⟨w2.heap.size, 0, none⟩ = some (.slice a na ca) ∧ w'.cell? ⟨w2.heap.size + 1, 0, none⟩ = some (.slice d nd cd)) (first | exact ⟨q0, q1, q2, q3, q4, q5⟩ | exact hkS | exact hkZ | exact hkE) (first | (go_at_call 29; first | (clear T1; refine (HS1.out _ ((Below.refl _ _).drew)).mono ?_; rintro e wS ⟨rfl, BL, hkS⟩) | (clear T2; refine (HS2.out _ BL.out).mono ?_; rintro e wS ⟨rfl, BL, hkS⟩) | (refine (HS3.out _ _ _ _ _ BL.out (TR1.out _ _ XE2.out) XE1.out).mono ?_; rintro e wS ⟨rfl, BL, hkS⟩)) | (go_at_call 25; refine (HZ1.out _ BL.out).mono ?_; rintro e wZ ⟨rfl, BL, hkZ⟩) | (go_at_call 26; first | (clear V1; refine (HZ2.out _ BL.out).mono ?_; rintro e wZ ⟨rfl, BL, hkZ⟩) | (refine (HZ3.out _ BL.out).mono ?_; rintro e wZ ⟨rfl, BL, hkZ⟩)) | (go_at_call 30; first | (clear U1; refine (HE1.out _ BL.out).mono ?_; rintro e wE ⟨aE, cE, rfl, XE1, TR1, BL, hkE⟩) | (clear U2; refine (HE2.out _ _ _ BL.out XE1.out).mono ?_; rintro e wE ⟨aF, cF, rfl, XE2, BL, hkE⟩) | (refine (HE1.out _ BL.out).mono ?_; rintro e wE ⟨aE, cE, rfl, XE1, TR1, BL, hkE⟩)))
    go_wp2
    go_ret
    exact ⟨rfl, BL0.out.trans (BL.out.mono BL0.out.size)⟩
end Go.Proofs.Ytijbngdafgmpaaa

/-
  Proved: at every list of bytes, FnBagsJoined answers true: the two bags that are drawn of it are joined by impl.BagJoin to the same bag in either order, with a third it is the same which two are joined first, and sizes add up. Of bags that are drawn alone, which are small.
-/
namespace Go.Proofs.Ytijbngdafgmpaaa.fnBagsJoined
open Go.ChangeShapes Go.WideShapes Go.ChangeAt Go.RowKit
open Go.ChangeMaps (open_string shut_string)
set_option linter.unusedVariables false

theorem own : ownKnob Try.prog.godebug = none := by kernel_rfl
theorem laidOut : laidOutB Try.prog = true := by kernel_rfl

theorem walk (a0 : Option Addr) (n0 cap0 : Nat) (w : World) (hc0 : CodeIn w a0 n0) :
    Calls Try.prog 4 #[.slice a0 n0 cap0] w fun e w' => e = .returned (.bool true) ∧ Below w.heap.size w w' := by
  exact law_4 a0 n0 cap0 w hc0

set_option maxRecDepth 100000 in
theorem lifted (os : Os) (started : os.Started) (H : Type) (enc : TypeId × Value → H) :
    ReturnsInHanded {} Try.checked os 4 .any (Rows.fnBagsJoinedSpec.pre6 enc Try.prog Try.f4 Rows.fnBagsJoinedRow.domain false) (Rows.fnBagsJoinedSpec.post enc Try.prog Try.f4 false true false false) := by
  refine returnsInHanded_of_change (C := Try.checked) own started (by kernel_rfl) Try.func4
    (ChangeSpec.witness6 (enc := enc) (C := Try.checked) false ⟨#[], #[.slice none 0 0], []⟩ 8 (by kernel_rfl) (by kernel_rfl) (by kernel_rfl) (by kernel_rfl)) ?_
  intro W base args ds gs before hval0 hW hcnd _
  have hval : ∀ (j : Nat) t v, Try.f4.params[j]? = some t → args[j]? = some v → Value.okWide Try.prog W .any base t v := hval0
  have hW' := hW
  obtain ⟨p, q, hA0, hV, rfl, hfz, hnd⟩ := hW
  have hA : DataW.TrodAll enc Try.prog W 0 (fun _ => true) true Try.f4.params.toList args.toList ds p := hA0
  rw [Try.params4] at hA hval
  obtain ⟨v0, vs0, d0, ds0, p0, q0, hargs, rfl, rfl, h0, r0⟩ := trodAll_cons hA
  obtain ⟨rfl, rfl, rfl⟩ := trodAll_nil r0
  obtain rfl : args = #[v0] := by cases args; simp_all
  obtain ⟨rfl, rfl⟩ := trodVars_none hV
  have k0 := h0
  have lt0 : ∀ x ∈ p0, x.block < W.heap.size := by obtain ⟨m, hm⟩ := k0; exact DataW.trod_lt m _ _ _ hm
  obtain ⟨a0, n0, cap0, rfl⟩ := okWide_slice Try.underlying22 (hval 0 22 v0 rfl rfl)
  have hc0 := code_in k0
  clear hA0 hval0
  refine (walk a0 n0 cap0 W hc0).mono fun e W' ⟨he, bel⟩ => ?_
  subst he
  exact ⟨_, rfl, _, _, _, [], _, [], hW', trodAll_mk1 (shut_bool Try.underlying4 _), (trodAll_cons_mk (Below.trod laidOut (by kernel_rfl) (of_decide_eq_true (by kernel_rfl)) k0 bel lt0) trodAll_mk0), rfl, bel.frame _, fun h => by cases h⟩

theorem over : Rows.fnBagsJoinedRow.holds Try.pinned (OpenSpec.ofChange Rows.fnBagsJoinedSpec) :=
  OpenClaim.holds_of_wide 4 Try.f4 rfl rfl rfl rfl rfl rfl rfl ⟨rfl, rfl, rfl, rfl, rfl⟩ rfl rfl rfl rfl rfl (by kernel_rfl) Try.func4 (by kernel_rfl)
    (of_decide_eq_true (by kernel_rfl)) (by unfold Func.isWrapper; first | (rw [if_pos (by decide +kernel)]; kernel_rfl) | (rw [if_neg (by decide +kernel)]; exact ⟨rfl, rfl⟩))
    (fun os started H enc _ => lifted os started H enc)

end Go.Proofs.Ytijbngdafgmpaaa.fnBagsJoined
namespace Go.Proofs.Ytijbngdafgmpaaa

theorem fnBagsJoined_holds : Rows.FnBagsJoinedSaid := fnBagsJoined.over
end Go.Proofs.Ytijbngdafgmpaaa
