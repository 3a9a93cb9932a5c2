/-
  spec.BagAdd.
-/
import Derived.Test.YtijbngdafgmpaaaAdd
import Derived.Test.YtijbngdafgmpaaaPutS
namespace Go.Proofs.Ytijbngdafgmpaaa
open Go.RowKit

theorem ok_times {l : List It} (h : okBag l = true) {i : Nat} (hi : i < l.length) : 0 ≤ (at' l i).2 ∧ (at' l i).2 ≤ 1000000 := by
  obtain ⟨V, g⟩ := good_of h
  have hx : at' l i ∈ l := by rw [at_get hi]; exact List.getElem_mem hi
  have := (okItem_split.1 (g.oks _ hx)).2
  omega
theorem putL_rows {r : List Int} {t : Int} {l : List It} {n : Nat} (h : ∀ i, i < l.length → (at' l i).1.length ≤ n) (hr : r.length ≤ n) {i : Nat} (hi : i < (putL r t l).length) : (at' (putL r t l) i).1.length ≤ n := by
  rcases putL_row (by rw [at_get hi]; exact List.getElem_mem hi : at' (putL r t l) i ∈ putL r t l) with e | e
  · rw [e]; exact hr
  · obtain ⟨k, hk, ek⟩ := List.getElem_of_mem e
    rw [← ek, ← at_get hk]; exact h k hk

set_option maxHeartbeats 2000000 in
set_option maxRecDepth 100000 in
theorem specAdd_any (lo hi lo' hi' : Nat) (a ra : Option Addr) (n cap q rc : Nat) (l : List It) (r : List Int) (t : Int) (w : World) (ha : BagIn lo hi w a l) (hr : RowIn lo' hi' w ra r) (hh : hi ≤ w.heap.size) (hh' : hi' ≤ w.heap.size) (hn : l.length = n) (hq : r.length = q) (hm : n ≤ 1048576) (hm' : q ≤ 1048576) (hl : ∀ i, i < n → (at' l i).1.length ≤ 1048576) :
    Calls Try.prog 27 #[.agg #[.slice a n cap], .slice ra q rc, .int .i64 t] w fun e w' => ∃ (a' : Option Addr) (n' cap' : Nat) (ok : Bool), e = .returned (.tuple #[.agg #[.slice a' n' cap'], .bool ok]) ∧ Hid (ok = addOk l r t) ∧ Hid ((addL l r t).length = n') ∧ Hid (BagIn w.heap.size w'.heap.size w' a' (addL l r t)) ∧ Hid (Below w.heap.size w w') := by
  have HA : Hid (BagIn lo hi w a l) := ha
  have HR : Hid (RowIn lo' hi' w ra r) := hr
  have HH : Hid (hi ≤ w.heap.size) := hh
  have HH' : Hid (hi' ≤ w.heap.size) := hh'
  have HN : Hid (l.length = n) := hn
  have HQ : Hid (r.length = q) := hq
  have HL : Hid (∀ i, i < n → (at' l i).1.length ≤ 1048576) := hl
  obtain ⟨B, HB⟩ : ∃ B, Hid (B = w.heap.size) := ⟨_, rfl⟩
  obtain ⟨s, HSB⟩ : ∃ s : Bool, Hid (s = okBag l) := ⟨_, rfl⟩
  clear ha hr hh hh' hn hq hl
  have HCP : Hid (∀ w0, Below w.heap.size w w0 → Calls Try.prog 63 #[.agg #[.slice a n cap]] w0 fun e w' => ∃ a' cap', e = .returned (.agg #[.slice a' n cap']) ∧ Hid (BagIn w0.heap.size w'.heap.size w' a' l) ∧ Hid (Below w0.heap.size w0 w')) := fun w0 h0 =>
    (l03Copy_any lo hi a n cap l w0 (HA.out.below h0 HH.out) (Nat.le_trans HH.out h0.size) HN.out hm HL.out).mono fun e w' ⟨v, he, h1, h2⟩ => by
      obtain ⟨a', cap', rfl, h3⟩ := h1.out.toIn
      exact ⟨a', cap', by rw [he, HN.out], h3.wide (by omega) (Nat.le_refl _), h2.out⟩
  go_enter Try.func27, Try.ntmps27
  go_wp2_with fail
  refine (specOk_any lo hi a n cap l s _ (HA.out.below (below2 w _ _) HH.out) (by have := HH.out; simp; omega) HN.out hm HL.out HSB.out).mono ?_
  rintro e w1 ⟨rfl, hb1⟩
  have HB1 : Hid (Below w.heap.size w w1) := (below2 w _ _).trans (hb1.mono (by simp; omega))
  have HK0 : Hid (Blk w1 B 1 (fun _ => .slice a n cap)) := ((blk_one w B HB.out _ _).alloc _).of_block (hb1.block _ (by rw [HB.out]; simp; omega))
  have HK1 : Hid (Blk w1 (B + 1) 1 (fun _ => .slice none 0 0)) := (blk_one _ (B + 1) (by rw [HB.out]; simp) _ _).of_block (hb1.block _ (by rw [HB.out]; simp))
  have hs1 : B + 1 + 1 ≤ w1.heap.size := by have := hb1.size; simp at this; rw [HB.out]; omega
  clear hb1
  rw [← HB.out]
  have c0 := HK0.out.cell (i := 0) (by omega)
  rcases Bool.eq_false_or_eq_true s with hs | hs
  · subst hs
    have HO : Hid (okBag l = true) := HSB.out.symm
    obtain ⟨tk, HTK⟩ : ∃ tk : Bool, Hid (tk = (decide (1 ≤ t) && decide (t ≤ 1000000))) := ⟨_, rfl⟩
    have HIN : Hid (∀ w0, Calls Try.prog 62 #[.int .i64 t, .int .i64 1, .int .i64 1000000] w0 fun e w' => e = .returned (.bool tk) ∧ w0 = w') := fun w0 => by rw [HTK.out]; exact l01In_any t 1 1000000 w0
    rcases Bool.eq_false_or_eq_true tk with ht | ht
    · subst ht
      have HT : Hid (1 ≤ t ∧ t ≤ 1000000) := by have := HTK.out; simp at this; exact this
      go_wp2_with (go_at_call 62; refine (HIN.out _).mono ?_; rintro e w1' ⟨rfl, rfl⟩)
      refine (HCP.out _ HB1.out).mono ?_
      rintro e w2 ⟨a2, cap2, rfl, HO2, HB2⟩
      have HB2' : Hid (Below w.heap.size w w2) := HB1.out.trans (HB2.out.mono HB1.out.size)
      have h300 : n ≤ 300 := by rw [← HN.out]; exact okBag_len HO.out
      go_wp2_with fail
      refine (l03Put_any w1.heap.size w2.heap.size lo' hi' a2 ra n cap2 q rc l r t w2 HO2.out (HR.out.below HB2'.out HH'.out) (Nat.le_refl _) (Nat.le_trans HH'.out HB2'.out.size) HN.out HQ.out hm hm' HL.out ⟨by have := HT.out; omega, HT.out.2⟩ (fun i hi => ok_times HO.out (by rw [HN.out]; exact hi)) HB2.out.size).mono ?_
      rintro e w3 ⟨a3, n3, cap3, rfl, HN3, HO3, HB3⟩
      have HB13 : Hid (Below w1.heap.size w1 w3) := HB2.out.trans (HB3.out.mono HB2.out.size)
      have hs3 : w1.heap.size ≤ w3.heap.size := HB13.out.size
      obtain ⟨s2, HS2⟩ : ∃ s2 : Bool, Hid (s2 = okBag (putL r t l)) := ⟨_, rfl⟩
      have hn3 : n3 ≤ 301 := by rw [← HN3.out]; have := putL_len_le (r := r) (t := t) (l := l); have := HN.out; omega
      have HL3 : Hid (∀ i, i < n3 → (at' (putL r t l) i).1.length ≤ 1048576) := fun i hi => putL_rows (fun k hk => HL.out k (by rw [← HN.out]; exact hk)) (by rw [HQ.out]; exact hm') (by rw [HN3.out]; exact hi)
      have HBB : Hid (Below w1.heap.size w1 (w3.alloc (.cells #[.slice a3 n3 cap3] 26))) := HB13.out.alloc hs3 _
      clear HO2 HB2 HB2'
      go_wp2_with fail
      refine (specOk_any w1.heap.size w3.heap.size a3 n3 cap3 (putL r t l) s2 _ (HO3.out.below (below1' w3 _) (Nat.le_refl _)) (by simp) HN3.out (by omega) HL3.out HS2.out).mono ?_
      rintro e w4 ⟨rfl, hb4⟩
      have HB4 : Hid (Below w1.heap.size w1 w4) := HBB.out.trans (hb4.mono (by simp; omega))
      have HBW4 : Hid (Below w.heap.size w w4) := HB1.out.trans (HB4.out.mono HB1.out.size)
      have HK4 : Hid (Blk w4 (B + 1) 1 (fun _ => .slice none 0 0)) := HK1.out.of_block (HB4.out.block _ (by omega))
      have HX4 : Hid (Blk w4 w3.heap.size 1 (fun _ => .slice a3 n3 cap3)) := (blk_one w3 _ rfl _ _).of_block (hb4.block _ (by simp))
      have HO4 : Hid (BagIn w1.heap.size w3.heap.size w4 a3 (putL r t l)) := (HO3.out.below (below1' w3 _) (Nat.le_refl _)).below hb4 (by simp)
      have hs4 : w3.heap.size < w4.heap.size := HX4.out.lt
      have c4 : w4.cell? ⟨B, 0, none⟩ = some (.slice a n cap) := cell_below c0 HB4.out (by omega)
      have x4 := HX4.out.cell (i := 0) (by omega)
      clear hb4 HBB HO3 c0
      rcases Bool.eq_false_or_eq_true s2 with h2 | h2
      · subst h2
        have r0 := HK4.out.cell (i := 0) (by omega)
        have f0 := HK4.out.frozen 0
        go_wp2
        have z0 := (HK4.out.set 0 (by omega) (.slice a3 n3 cap3)).cell (i := 0) (by omega)
        simp only [if_true] at z0
        refine bodyPost_ret (v := .tuple #[.agg #[.slice a3 n3 cap3], .bool true]) (by simp [results, Try.results27, go_sem, z0]) rfl ?_
        have hb := HB.out
        have hyes : addOk l r t = true := by unfold addOk; rw [← HSB.out, ← HTK.out, ← HS2.out]; rfl
        have hle : addL l r t = putL r t l := by unfold addL; rw [hyes]; rfl
        refine ⟨a3, n3, cap3, true, rfl, hyes.symm, by rw [hle]; exact HN3.out, ?_, ?_⟩
        · rw [hle]
          have hx : BagIn w1.heap.size w3.heap.size (w4.setCell ⟨B + 1, 0, none⟩ (.slice a3 n3 cap3)) a3 (putL r t l) := HO4.out.kept (p := fun k => k = B + 1) (((KeptP.refl (fun k => k = B + 1) w4)).setCell (g := B + 1) rfl _) (by omega) (fun k h1 h2 h3 => by omega)
          exact hx.wide (by omega) (by simp; omega)
        · exact HBW4.out.setCell (by simp; omega) _
      · subst h2
        go_wp2_with fail
        refine (HCP.out _ HBW4.out).mono ?_
        rintro e wz ⟨az, capz, rfl, HOz, HBz⟩
        have HKz : Hid (Blk wz (B + 1) 1 (fun _ => .slice none 0 0)) := HK4.out.of_block (HBz.out.block _ (by omega))
        have r0 := HKz.out.cell (i := 0) (by omega)
        have f0 := HKz.out.frozen 0
        clear c4 x4
        go_wp2
        have z0 := (HKz.out.set 0 (by omega) (.slice az n capz)).cell (i := 0) (by omega)
        simp only [if_true] at z0
        refine bodyPost_ret (v := .tuple #[.agg #[.slice az n capz], .bool false]) (by simp [results, Try.results27, go_sem, z0]) rfl ?_
        have hb := HB.out
        have hno : addOk l r t = false := by unfold addOk; rw [← HS2.out]; simp
        have hle : addL l r t = l := by unfold addL; rw [hno]; rfl
        refine ⟨az, n, capz, false, rfl, hno.symm, by rw [hle]; exact HN.out, ?_, ?_⟩
        · rw [hle]
          have hx : BagIn w4.heap.size wz.heap.size (wz.setCell ⟨B + 1, 0, none⟩ (.slice az n capz)) az l := HOz.out.kept (p := fun k => k = B + 1) (((KeptP.refl (fun k => k = B + 1) wz)).setCell (g := B + 1) rfl _) (Nat.le_refl _) (fun k h1 h2 h3 => by omega)
          exact hx.wide (by have := HBW4.out.size; omega) (by simp)
        · exact ((HBW4.out).trans (HBz.out.mono (HBW4.out).size)).setCell (by simp; omega) _
    · subst ht
      go_wp2_with (go_at_call 62; refine (HIN.out _).mono ?_; rintro e w1' ⟨rfl, rfl⟩)
      refine (HCP.out _ HB1.out).mono ?_
      rintro e wz ⟨az, capz, rfl, HOz, HBz⟩
      have HKz : Hid (Blk wz (B + 1) 1 (fun _ => .slice none 0 0)) := HK1.out.of_block (HBz.out.block _ (by omega))
      have r0 := HKz.out.cell (i := 0) (by omega)
      have f0 := HKz.out.frozen 0
      clear c0
      go_wp2
      have z0 := (HKz.out.set 0 (by omega) (.slice az n capz)).cell (i := 0) (by omega)
      simp only [if_true] at z0
      refine bodyPost_ret (v := .tuple #[.agg #[.slice az n capz], .bool false]) (by simp [results, Try.results27, go_sem, z0]) rfl ?_
      have hb := HB.out
      have hno : addOk l r t = false := by unfold addOk; rw [← HTK.out]; simp
      have hle : addL l r t = l := by unfold addL; rw [hno]; rfl
      refine ⟨az, n, capz, false, rfl, hno.symm, by rw [hle]; exact HN.out, ?_, ?_⟩
      · rw [hle]
        have hx : BagIn w1.heap.size wz.heap.size (wz.setCell ⟨B + 1, 0, none⟩ (.slice az n capz)) az l := HOz.out.kept (p := fun k => k = B + 1) (((KeptP.refl (fun k => k = B + 1) wz)).setCell (g := B + 1) rfl _) (Nat.le_refl _) (fun k h1 h2 h3 => by omega)
        exact hx.wide (by have := HB1.out.size; omega) (by simp)
      · exact ((HB1.out).trans (HBz.out.mono (HB1.out).size)).setCell (by simp; omega) _
  · subst hs
    go_wp2_with fail
    refine (HCP.out _ HB1.out).mono ?_
    rintro e wz ⟨az, capz, rfl, HOz, HBz⟩
    have HKz : Hid (Blk wz (B + 1) 1 (fun _ => .slice none 0 0)) := HK1.out.of_block (HBz.out.block _ (by omega))
    have r0 := HKz.out.cell (i := 0) (by omega)
    have f0 := HKz.out.frozen 0
    clear c0
    go_wp2
    have z0 := (HKz.out.set 0 (by omega) (.slice az n capz)).cell (i := 0) (by omega)
    simp only [if_true] at z0
    refine bodyPost_ret (v := .tuple #[.agg #[.slice az n capz], .bool false]) (by simp [results, Try.results27, go_sem, z0]) rfl ?_
    have hb := HB.out
    have hno : addOk l r t = false := by unfold addOk; rw [← HSB.out]; rfl
    have hle : addL l r t = l := by unfold addL; rw [hno]; rfl
    refine ⟨az, n, capz, false, rfl, hno.symm, by rw [hle]; exact HN.out, ?_, ?_⟩
    · rw [hle]
      have hx : BagIn w1.heap.size wz.heap.size (wz.setCell ⟨B + 1, 0, none⟩ (.slice az n capz)) az l := HOz.out.kept (p := fun k => k = B + 1) (((KeptP.refl (fun k => k = B + 1) wz)).setCell (g := B + 1) rfl _) (Nat.le_refl _) (fun k h1 h2 h3 => by omega)
      exact hx.wide (by have := HB1.out.size; omega) (by simp)
    · exact ((HB1.out).trans (HBz.out.mono (HB1.out).size)).setCell (by simp; omega) _
end Go.Proofs.Ytijbngdafgmpaaa
