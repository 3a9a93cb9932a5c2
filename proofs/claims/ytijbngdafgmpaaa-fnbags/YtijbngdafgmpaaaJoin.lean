/-
  impl.BagJoin.
-/
import Derived.Test.YtijbngdafgmpaaaTldW
import Derived.Test.YtijbngdafgmpaaaOkB
namespace Go.Proofs.Ytijbngdafgmpaaa
open Go.RowKit Go.Maps

/-- two bags can be joined -/
def joinOk (a b : List It) : Bool := okBag a && (okBag b && okBag (joinL a b))
/-- two bags joined, or nothing -/
def joinR (a b : List It) : List It := if joinOk a b = true then joinL a b else []
theorem joinR_no {a b : List It} (h : joinOk a b = false) : joinR a b = [] := by unfold joinR; rw [h]; rfl
theorem joinR_yes {a b : List It} (h : joinOk a b = true) : joinR a b = joinL a b := by unfold joinR; rw [h]; rfl
theorem joinL_take {a b : List It} {k : Nat} (hk : k < b.length) : joinL a (b.take (k + 1)) = putL (at' b k).1 (at' b k).2 (joinL a (b.take k)) := by
  rw [← joinL_snoc, at_get hk]
  congr 1
  rw [List.take_add_one]; simp [hk]

set_option maxHeartbeats 2000000 in
set_option maxRecDepth 100000 in
theorem bagJoin_any (lo hi lo' hi' : Nat) (a b : Option Addr) (n cap m cbp : Nat) (l k0 : List It) (w : World) (ha : BagIn lo hi w a l) (hb : BagIn lo' hi' w b k0) (hh : hi ≤ w.heap.size) (hh' : hi' ≤ w.heap.size) (hn : l.length = n) (hq : k0.length = m) (hm : n ≤ 1048576) (hm' : m ≤ 1048576) (hl : ∀ i, i < n → (at' l i).1.length ≤ 1048576) (hl' : ∀ i, i < m → (at' k0 i).1.length ≤ 1048576) :
    Calls Try.prog 28 #[.agg #[.slice a n cap], .agg #[.slice b m cbp]] w fun e w' => ∃ (a' : Option Addr) (n' cap' : Nat) (ok : Bool), e = .returned (.tuple #[.agg #[.slice a' n' cap'], .bool ok]) ∧ Hid (ok = joinOk l k0) ∧ Hid ((joinR l k0).length = n') ∧ Hid (BagOwn w.heap.size w'.heap.size w' a' (joinR l k0)) ∧ Hid (Below w.heap.size w w') := by
  have HA : Hid (BagIn lo hi w a l) := ha
  have HBB : Hid (BagIn lo' hi' w b k0) := hb
  have HH : Hid (hi ≤ w.heap.size) := hh
  have HH' : Hid (hi' ≤ w.heap.size) := hh'
  have HN : Hid (l.length = n) := hn
  have HQ : Hid (k0.length = m) := hq
  have HL : Hid (∀ i, i < n → (at' l i).1.length ≤ 1048576) := hl
  have HL' : Hid (∀ i, i < m → (at' k0 i).1.length ≤ 1048576) := hl'
  obtain ⟨B, HB⟩ : ∃ B, Hid (B = w.heap.size) := ⟨_, rfl⟩
  obtain ⟨s, HSB⟩ : ∃ s : Bool, Hid (s = okBag l) := ⟨_, rfl⟩
  obtain ⟨s', HSB'⟩ : ∃ s : Bool, Hid (s = okBag k0) := ⟨_, rfl⟩
  clear ha hb hh hh' hn hq hl hl'
  have HK3 : Hid (∀ w1, Below (w.heap.size + 1 + 1 + 1) (((w.alloc (.cells #[.slice a n cap] 26)).alloc (.cells #[.slice b m cbp] 26)).alloc (.cells #[.slice none 0 0] 26)) w1 → Blk w1 B 1 (fun _ => .slice a n cap) ∧ Blk w1 (B + 1) 1 (fun _ => .slice b m cbp) ∧ Blk w1 (B + 1 + 1) 1 (fun _ => .slice none 0 0) ∧ Below w.heap.size w w1 ∧ B + 1 + 1 + 1 ≤ w1.heap.size) := fun w1 hb1 => by
    have hb := HB.out
    have hs := hb1.size
    simp at hs
    refine ⟨(((blk_one w B HB.out _ _).alloc _).alloc _).of_block (hb1.block _ (by omega)), ((blk_one _ (B + 1) (by rw [HB.out]; simp) _ _).alloc _).of_block (hb1.block _ (by omega)), (blk_one _ (B + 1 + 1) (by rw [HB.out]; simp) _ _).of_block (hb1.block _ (by omega)), (below3 w _ _ _).trans (hb1.mono (by omega)), by omega⟩
  have HNO : Hid (∀ (w5 : World), Blk w5 (B + 1 + 1) 1 (fun _ => .slice none 0 0) → Below w.heap.size w w5 → joinOk l k0 = false → (∃ (a' : Option Addr) (n' cap' : Nat) (ok : Bool), Ending.returned (.tuple #[.agg #[.slice none 0 0], .bool false]) = .returned (.tuple #[.agg #[.slice a' n' cap'], .bool ok]) ∧ Hid (ok = joinOk l k0) ∧ Hid ((joinR l k0).length = n') ∧ Hid (BagOwn w.heap.size (w5.setCell ⟨B + 1 + 1, 0, none⟩ (.slice none 0 0)).heap.size (w5.setCell ⟨B + 1 + 1, 0, none⟩ (.slice none 0 0)) a' (joinR l k0)) ∧ Hid (Below w.heap.size w (w5.setCell ⟨B + 1 + 1, 0, none⟩ (.slice none 0 0))))) := fun w5 h1 h2 h3 => by
    have hb := HB.out
    refine ⟨none, 0, 0, false, rfl, h3.symm, ?_, ?_, h2.setCell (by simp; omega) _⟩
    · rw [joinR_no h3]; rfl
    · rw [joinR_no h3]; exact .inl rfl
  go_enter Try.func28, Try.ntmps28
  go_wp2_with fail
  refine (bagOk_any lo hi a n cap l s _ (HA.out.below (below3 w _ _ _) HH.out) (by have := HH.out; simp; omega) HN.out hm HL.out HSB.out).mono ?_
  rintro e w1 ⟨rfl, hb1⟩
  simp only [World.size_alloc] at hb1
  obtain ⟨ka, kb, kr, hw1, hs1⟩ := HK3.out w1 hb1
  have HKA : Hid (Blk w1 B 1 (fun _ => .slice a n cap)) := ka
  have HKB : Hid (Blk w1 (B + 1) 1 (fun _ => .slice b m cbp)) := kb
  have HKR : Hid (Blk w1 (B + 1 + 1) 1 (fun _ => .slice none 0 0)) := kr
  have HW1 : Hid (Below w.heap.size w w1) := hw1
  clear ka kb kr hw1 hb1 HK3
  rw [← HB.out]
  rcases Bool.eq_false_or_eq_true s with hs | hs
  · subst hs
    have HO : Hid (okBag l = true) := HSB.out.symm
    have c1 := HKB.out.cell (i := 0) (by omega)
    go_wp2_with fail
    refine (bagOk_any lo' hi' b m cbp k0 s' _ (HBB.out.below HW1.out HH'.out) (Nat.le_trans HH'.out HW1.out.size) HQ.out hm' HL'.out HSB'.out).mono ?_
    rintro e w2 ⟨rfl, hb2⟩
    have HB2 : Hid (Below w1.heap.size w1 w2) := hb2
    clear hb2 c1
    have HW2 : Hid (Below w.heap.size w w2) := HW1.out.trans (HB2.out.mono HW1.out.size)
    have HKA2 : Hid (Blk w2 B 1 (fun _ => .slice a n cap)) := HKA.out.of_block (HB2.out.block _ (by omega))
    have HKB2 : Hid (Blk w2 (B + 1) 1 (fun _ => .slice b m cbp)) := HKB.out.of_block (HB2.out.block _ (by omega))
    have HKR2 : Hid (Blk w2 (B + 1 + 1) 1 (fun _ => .slice none 0 0)) := HKR.out.of_block (HB2.out.block _ (by omega))
    have hs2 : w1.heap.size ≤ w2.heap.size := HB2.out.size
    clear HKA HKB HKR HB2
    rcases Bool.eq_false_or_eq_true s' with hs | hs
    · subst hs
      have HO' : Hid (okBag k0 = true) := HSB'.out.symm
      have h300 : m ≤ 300 := by rw [← HQ.out]; exact okBag_len HO'.out
      have c2 := HKA2.out.cell (i := 0) (by omega)
      go_wp2_with fail
      refine (shelfOf_any lo hi a n cap l _ (HA.out.below HW2.out HH.out) (Nat.le_trans HH.out HW2.out.size) HN.out HO.out).mono ?_
      rintro e w3 ⟨mb, W, rfl, H3⟩
      have H3' : Hid (OwnM mb l w3 ∧ Good W l ∧ w2.heap.size ≤ mb ∧ Below w2.heap.size w2 w3) := H3.out
      clear H3 c2
      obtain ⟨p, HP⟩ : ∃ p, Hid (p = w3.heap.size) := ⟨_, rfl⟩
      have HS4 : Hid (ShelfAt p mb W l (w3.alloc (.cells #[.int .i64 (W : Nat), .map (some mb)] 69))) :=
        ⟨blk_two _ _ HP.out _ _ _, H3'.out.1.block (Below.heap_alloc _ _ _ H3'.out.1.lt), by have := H3'.out.1.lt; have := HP.out; omega⟩
      have hs3 : w2.heap.size ≤ w3.heap.size := H3'.out.2.2.2.size
      have HB4 : Hid (Below w2.heap.size w2 (w3.alloc (.cells #[.int .i64 (W : Nat), .map (some mb)] 69))) := H3'.out.2.2.2.alloc hs3 _
      have HPM : Hid (w2.heap.size ≤ mb ∧ w2.heap.size ≤ p ∧ p ≠ mb) := by have := HP.out; have := H3'.out.1.lt; exact ⟨H3'.out.2.2.1, by omega, by omega⟩
      have c4 : (w3.alloc (.cells #[.int .i64 (W : Nat), .map (some mb)] 69)).cell? ⟨B + 1, 0, none⟩ = some (.slice b m cbp) := cell_below (HKB2.out.cell (i := 0) (by omega)) HB4.out (by omega)
      have HG0 : Hid (Good W l) := H3'.out.2.1
      clear H3'
      go_wp2_with fail
      rw [← HP.out]
      go_loopw [23] (fun i wr => ∃ k V : Nat, i = .int .i64 k ∧ k ≤ m ∧ Hid (ShelfAt p mb V (joinL l (k0.take k)) wr) ∧ Hid (Good V (joinL l (k0.take k))) ∧ Hid (Below w2.heap.size w2 wr)) (fun i _ => m - (intOf i).toNat)
      case atStart => exact ⟨0, W, rfl, by omega, HS4, HG0, HB4⟩
      case round =>
        obtain ⟨k, V, rfl, hk, HS, HG, HBL⟩ := hrel
        have HWR : Hid (Below w.heap.size w wr) := HW2.out.trans (HBL.out.mono HW2.out.size)
        have HKR3 : Hid (Blk wr (B + 1 + 1) 1 (fun _ => .slice none 0 0)) := HKR2.out.of_block (HBL.out.block _ (by omega))
        by_cases hlt : k < m
        · have hlt1 : (k : Int) < (m : Int) := by omega
          obtain ⟨bb, o, rfl, _, hbh, xa, xc, hc1, hrow, hc2⟩ := (HBB.out.below HWR.out HH'.out).item (k := k) (by rw [HQ.out]; exact hlt)
          obtain ⟨xr, HXR⟩ : ∃ xr, Hid (xr = (at' k0 k).1) := ⟨_, rfl⟩
          obtain ⟨y, HY⟩ : ∃ y, Hid (y = (at' k0 k).2) := ⟨_, rfl⟩
          obtain ⟨xq, HXQ⟩ : ∃ xq, Hid (xr.length = xq) := ⟨_, rfl⟩
          change wr.cell? _ = some (.slice xa (at' k0 k).1.length xc) at hc1
          change wr.cell? _ = some (.int .i64 (at' k0 k).2) at hc2
          change RowIn lo' hi' wr xa (at' k0 k).1 at hrow
          rw [← HXR.out, HXQ.out] at hc1
          rw [← HY.out] at hc2
          rw [← HXR.out] at hrow
          have HROW : Hid (RowIn lo' hi' wr xa xr) := hrow
          have hxq : xq ≤ 1048576 := by rw [← HXQ.out, HXR.out]; exact HL'.out k hlt
          clear hrow hbh
          go_wp2_with fail
          refine (put_any lo' hi' p mb V xa xq xc xr y (joinL l (k0.take k)) _ (HROW.out.below (below1' wr _) (Nat.le_trans HH'.out HWR.out.size)) (by have := HH'.out; have := HWR.out.size; simp; omega) HXQ.out hxq (HS.out.below (below1' wr _)) HG.out (fun j h1 h2 => by have := HH'.out; have := HB.out; have := HPM.out; omega)).mono ?_
          rintro e w5 ⟨ok, rfl, HF, HS5, HK5⟩
          have HB5 : Hid (Below w2.heap.size w2 w5) := HBL.out.trans (((below1' wr _).mono HBL.out.size).trans (HK5.out.to_below (by have := HBL.out.size; simp; omega) (fun k hk => by have := HPM.out; omega)))
          have HKR5 : Hid (Blk w5 (B + 1 + 1) 1 (fun _ => .slice none 0 0)) := HKR2.out.of_block (HB5.out.block _ (by omega))
          clear hc1 hc2
          rcases Bool.eq_false_or_eq_true ok with hok | hok
          · subst hok
            go_wp2
            go_roundw
            case rel =>
              refine ⟨k + 1, wideOf V (joinL l (k0.take k)) xr, by go_num, by omega, ?_, ?_, HB5.out⟩
              · rw [joinL_take (by rw [HQ.out]; exact hlt), ← HXR.out, ← HY.out]; have h := HS5.out; try rw [if_pos rfl] at h
                exact h
              · rw [joinL_take (by rw [HQ.out]; exact hlt), ← HXR.out, ← HY.out]; exact HG.out.put HF.out.symm
            case measure => simp [intOf]; omega
          · subst hok
            have r0 := HKR5.out.cell (i := 0) (by omega)
            have f0 := HKR5.out.frozen 0
            go_wp2
            have z0 := (HKR5.out.set 0 (by omega) (.slice none 0 0)).cell (i := 0) (by omega)
            simp only [if_true] at z0
            try rw [Exit.noGoto_ret]
            refine bodyPost_ret (v := .tuple #[.agg #[.slice none 0 0], .bool false]) (by simp [results, Try.results28, go_sem, z0]) rfl ?_
            refine HNO.out w5 HKR5.out (HW2.out.trans (HB5.out.mono HW2.out.size)) ?_
            have hst := join_stuck (W := V) (a := l) HO'.out (k := k) (by rw [HQ.out]; exact hlt) HG.out (by rw [← HXR.out, ← HY.out]; exact HF.out.symm)
            unfold joinOk; rw [hst]; simp
        · obtain rfl : k = m := by omega
          have e : k0.take k = k0 := List.take_of_length_le (by rw [HQ.out]; exact Nat.le_refl _)
          have hg0 := HG.out
          have hs0 := HS.out
          rw [e] at hg0 hs0
          have HG' : Hid (Good V (joinL l k0)) := hg0
          have HS' : Hid (ShelfAt p mb V (joinL l k0) wr) := hs0
          clear hg0 hs0 e HS HG
          go_wp2_with fail
          refine (told_any p mb V (joinL l k0) wr HS'.out HG'.out).mono ?_
          rintro e w6 ⟨a6, cap6, rfl, HO6, HB6⟩
          have HKR6 : Hid (Blk w6 (B + 1 + 1) 1 (fun _ => .slice none 0 0)) := HKR3.out.of_block (HB6.out.block _ HKR3.out.lt)
          have hs6 : w2.heap.size ≤ wr.heap.size := HBL.out.size
          have r0 := HKR6.out.cell (i := 0) (by omega)
          have f0 := HKR6.out.frozen 0
          go_wp2
          have z0 := (HKR6.out.set 0 (by omega) (.slice a6 (joinL l k0).length cap6)).cell (i := 0) (by omega)
          simp only [if_true] at z0
          refine bodyPost_ret (v := .tuple #[.agg #[.slice a6 (joinL l k0).length cap6], .bool true]) (by simp [results, Try.results28, go_sem, z0]) rfl ?_
          have hb := HB.out
          have hyes : joinOk l k0 = true := by unfold joinOk; rw [HO.out, HO'.out, HG'.out.ok]; rfl
          refine ⟨a6, (joinL l k0).length, cap6, true, rfl, hyes.symm, by rw [joinR_yes hyes]; rfl, ?_, ?_⟩
          · rw [joinR_yes hyes]
            exact (HO6.out.setCell (by omega) _).wide (by have := HWR.out.size; omega) (by simp)
          · exact (HWR.out.trans (HB6.out.mono HWR.out.size)).setCell (by simp; omega) _
    · subst hs
      have r0 := HKR2.out.cell (i := 0) (by omega)
      have f0 := HKR2.out.frozen 0
      go_wp2
      have z0 := (HKR2.out.set 0 (by omega) (.slice none 0 0)).cell (i := 0) (by omega)
      simp only [if_true] at z0
      refine bodyPost_ret (v := .tuple #[.agg #[.slice none 0 0], .bool false]) (by simp [results, Try.results28, go_sem, z0]) rfl ?_
      exact HNO.out w2 HKR2.out HW2.out (by unfold joinOk; rw [← HSB'.out]; simp)
  · subst hs
    have r0 := HKR.out.cell (i := 0) (by omega)
    have f0 := HKR.out.frozen 0
    go_wp2
    have z0 := (HKR.out.set 0 (by omega) (.slice none 0 0)).cell (i := 0) (by omega)
    simp only [if_true] at z0
    refine bodyPost_ret (v := .tuple #[.agg #[.slice none 0 0], .bool false]) (by simp [results, Try.results28, go_sem, z0]) rfl ?_
    exact HNO.out w1 HKR.out HW1.out (by unfold joinOk; rw [← HSB.out]; simp)
end Go.Proofs.Ytijbngdafgmpaaa
