/-
  impl.BagAdd.
-/
import Derived.Test.YtijbngdafgmpaaaTldW
import Derived.Test.YtijbngdafgmpaaaOkB
namespace Go.Proofs.Ytijbngdafgmpaaa
open Go.RowKit Go.Maps

/-- a row can be added -/
def addOk (l : List It) (r : List Int) (t : Int) : Bool := okBag l && ((decide (1 ≤ t) && decide (t ≤ 1000000)) && okBag (putL r t l))
/-- a bag with a row added, or as it was -/
def addL (l : List It) (r : List Int) (t : Int) : List It := if addOk l r t = true then putL r t l else l
theorem fits_add {W : Nat} {l : List It} {r : List Int} {t : Int} (h : Good W l) : fits W l r t = addOk l r t := by
  unfold addOk
  rw [h.ok]
  by_cases ht : 1 ≤ t ∧ t ≤ 1000000
  · rw [fits_iff h (.inr ht)]; simp [ht.1, ht.2]
  · have h1 : okItem r t = false := by
      rcases hv : okItem r t with _ | _
      · rfl
      · exact absurd (okItem_split.1 hv).2 ht
    have h2 : (decide (1 ≤ t) && decide (t ≤ 1000000)) = false := by
      rcases hv : (decide (1 ≤ t) && decide (t ≤ 1000000)) with _ | _
      · rfl
      · simp at hv; exact absurd hv ht
    unfold fits; rw [h1, h2]; simp

set_option maxHeartbeats 2000000 in
set_option maxRecDepth 100000 in
theorem bagAdd_any (lo hi lo' hi' : Nat) (a ra : Option Addr) (n cap q rc : Nat) (l : List It) (r : List Int) (t : Int) (w : World) (ha : BagIn lo hi w a l) (hr : RowIn lo' hi' w ra r) (hh : hi ≤ w.heap.size) (hh' : hi' ≤ w.heap.size) (hn : l.length = n) (hq : r.length = q) (hm : n ≤ 1048576) (hm' : q ≤ 1048576) (hl : ∀ i, i < n → (at' l i).1.length ≤ 1048576) :
    Calls Try.prog 19 #[.agg #[.slice a n cap], .slice ra q rc, .int .i64 t] w fun e w' => ∃ (a' : Option Addr) (n' cap' : Nat) (ok : Bool), e = .returned (.tuple #[.agg #[.slice a' n' cap'], .bool ok]) ∧ Hid (ok = addOk l r t) ∧ Hid ((addL l r t).length = n') ∧ Hid (BagOwn w.heap.size w'.heap.size w' a' (addL l r t)) ∧ Hid (Below w.heap.size w w') := by
  have HA : Hid (BagIn lo hi w a l) := ha
  have HR : Hid (RowIn lo' hi' w ra r) := hr
  have HH : Hid (hi ≤ w.heap.size) := hh
  have HH' : Hid (hi' ≤ w.heap.size) := hh'
  have HN : Hid (l.length = n) := hn
  have HQ : Hid (r.length = q) := hq
  have HL : Hid (∀ i, i < n → (at' l i).1.length ≤ 1048576) := hl
  obtain ⟨B, HB⟩ : ∃ B, Hid (B = w.heap.size) := ⟨_, rfl⟩
  obtain ⟨s, HSB⟩ : ∃ s : Bool, Hid (s = okBag l) := ⟨_, rfl⟩
  clear ha hr hh hh' hn hq hl
  go_enter Try.func19, Try.ntmps19
  go_wp2_with fail
  refine (bagOk_any lo hi a n cap l s _ (HA.out.below (below2 w _ _) HH.out) (by have := HH.out; simp; omega) HN.out hm HL.out HSB.out).mono ?_
  rintro e w1 ⟨rfl, hb1⟩
  have HB1 : Hid (Below w.heap.size w w1) := (below2 w _ _).trans (hb1.mono (by simp; omega))
  have HK0 : Hid (Blk w1 B 1 (fun _ => .slice a n cap)) := ((blk_one w B HB.out _ _).alloc _).of_block (hb1.block _ (by rw [HB.out]; simp; omega))
  have HK1 : Hid (Blk w1 (B + 1) 1 (fun _ => .slice none 0 0)) := (blk_one _ (B + 1) (by rw [HB.out]; simp) _ _).of_block (hb1.block _ (by rw [HB.out]; simp))
  have hs1 : B + 1 + 1 ≤ w1.heap.size := by have := hb1.size; simp at this; rw [HB.out]; omega
  clear hb1
  rw [← HB.out]
  have c0 := HK0.out.cell (i := 0) (by omega)
  rcases Bool.eq_false_or_eq_true s with hs | hs
  · subst hs
    have HO : Hid (okBag l = true) := HSB.out.symm
    go_wp2_with fail
    refine (shelfOf_any lo hi a n cap l _ (HA.out.below HB1.out HH.out) (Nat.le_trans HH.out HB1.out.size) HN.out HO.out).mono ?_
    rintro e w2 ⟨mb, W, rfl, H2⟩
    have H2' : Hid (OwnM mb l w2 ∧ Good W l ∧ w1.heap.size ≤ mb ∧ Below w1.heap.size w1 w2) := H2.out
    clear H2
    have HS3 : Hid (ShelfAt w2.heap.size mb W l (w2.alloc (.cells #[.int .i64 (W : Nat), .map (some mb)] 69))) :=
      ⟨blk_two _ _ rfl _ _ _, H2'.out.1.block (Below.heap_alloc _ _ _ H2'.out.1.lt), by have := H2'.out.1.lt; omega⟩
    have HB2 : Hid (Below w.heap.size w (w2.alloc (.cells #[.int .i64 (W : Nat), .map (some mb)] 69))) := (HB1.out.trans (H2'.out.2.2.2.mono HB1.out.size)).trans ((below1' w2 _).mono (Nat.le_trans HB1.out.size H2'.out.2.2.2.size))
    have hs2 : w1.heap.size ≤ w2.heap.size := H2'.out.2.2.2.size
    go_wp2_with fail
    refine (put_any lo' hi' w2.heap.size mb W ra q rc r t l _ (HR.out.below HB2.out HH'.out) (Nat.le_trans HH'.out HB2.out.size) HQ.out hm' HS3.out H2'.out.2.1 (fun k h1 h2 => by have := HH'.out; have := H2'.out.2.2.1; have := HB.out; omega)).mono ?_
    rintro e w4 ⟨ok, rfl, HF, HS4, HK4⟩
    have HG4 : Hid (Good (wideOf W l r) (if ok = true then putL r t l else l)) := by
      rcases Bool.eq_false_or_eq_true ok with h | h
      · subst h; rw [if_pos rfl]; exact H2'.out.2.1.put HF.out.symm
      · subst h; rw [if_neg (by simp)]; exact H2'.out.2.1.still r
    obtain ⟨V, HV⟩ : ∃ V, Hid (V = wideOf W l r) := ⟨_, rfl⟩
    obtain ⟨L, HLL⟩ : ∃ L, Hid (L = if ok = true then putL r t l else l) := ⟨_, rfl⟩
    rw [← HV.out, ← HLL.out] at HS4 HG4
    go_wp2_with fail
    refine (told_any w2.heap.size mb V L w4 HS4.out HG4.out).mono ?_
    rintro e w5 ⟨a5, cap5, rfl, HO5, HB5⟩
    have HOK : Hid (ok = addOk l r t) := by rw [HF.out]; exact fits_add H2'.out.2.1
    have HLE : Hid (L = addL l r t) := by rw [HLL.out]; unfold addL; rw [← HOK.out]; rfl
    have hs4 : w2.heap.size ≤ w4.heap.size := by have := HK4.out.size; simp at this; omega
    have hB4 : Below w1.heap.size w1 w4 := (H2'.out.2.2.2.trans ((below1' w2 _).mono hs2)).trans (HK4.out.to_below (by simp; omega) (fun k hk => by have := H2'.out.2.2.1; omega))
    have HB5' : Hid (Below w1.heap.size w1 w5) := hB4.trans (HB5.out.mono (by omega))
    have HK5 : Hid (Blk w5 (B + 1) 1 (fun _ => .slice none 0 0)) := HK1.out.of_block (HB5'.out.block _ (by omega))
    have r0 := HK5.out.cell (i := 0) (by omega)
    have f0 := HK5.out.frozen 0
    clear c0 hB4 HS4 HG4 HK4 HS3 HB2
    go_wp2
    have z0 := (HK5.out.set 0 (by omega) (.slice a5 L.length cap5)).cell (i := 0) (by omega)
    simp only [if_true] at z0
    refine bodyPost_ret (v := .tuple #[.agg #[.slice a5 L.length cap5], .bool ok]) (by simp [results, Try.results19, go_sem, z0]) rfl ?_
    have hb := HB.out
    refine ⟨a5, L.length, cap5, ok, rfl, HOK.out, by show _ = _; rw [HLE.out], ?_, ?_⟩
    · rw [← HLE.out]
      exact (HO5.out.setCell (by omega) _).wide (by omega) (by simp)
    · exact (HB1.out.trans (HB5'.out.mono HB1.out.size)).setCell (by simp; omega) _
  · subst hs
    go_wp2_with fail
    refine (newBag_any lo hi a n cap l _ (HA.out.below HB1.out HH.out) (Nat.le_trans HH.out HB1.out.size) HN.out hm HL.out).mono ?_
    rintro e w2 ⟨a2, cap2, rfl, HO2, HB2⟩
    have HK2 : Hid (Blk w2 (B + 1) 1 (fun _ => .slice none 0 0)) := HK1.out.of_block (HB2.out.block _ (by omega))
    have r0 := HK2.out.cell (i := 0) (by omega)
    have f0 := HK2.out.frozen 0
    clear c0
    go_wp2
    have z0 := (HK2.out.set 0 (by omega) (.slice a2 n cap2)).cell (i := 0) (by omega)
    simp only [if_true] at z0
    refine bodyPost_ret (v := .tuple #[.agg #[.slice a2 n cap2], .bool false]) (by simp [results, Try.results19, go_sem, z0]) rfl ?_
    have hb := HB.out
    have hno : addOk l r t = false := by unfold addOk; rw [← HSB.out]; rfl
    have hle : addL l r t = l := by unfold addL; rw [hno]; rfl
    refine ⟨a2, n, cap2, false, rfl, hno.symm, by rw [hle]; exact HN.out, ?_, ?_⟩
    · rw [hle]
      exact (HO2.out.setCell (by omega) _).wide (by omega) (by simp)
    · exact (HB1.out.trans (HB2.out.mono HB1.out.size)).setCell (by simp; omega) _
end Go.Proofs.Ytijbngdafgmpaaa
