/-
  shelfOf: a right bag laid on a shelf.
-/
import Derived.Test.YtijbngdafgmpaaaPut
namespace Go.Proofs.Ytijbngdafgmpaaa
open Go.RowKit Go.Maps

theorem Good.take {W : Nat} {l : List It} (h : Good W l) (k : Nat) : Good W (l.take k) :=
  ⟨by have := h.len; simp; omega, fun x hx => h.oks x (List.mem_of_mem_take hx), fun x hx => h.even x (List.mem_of_mem_take hx), h.srt.sublist (List.take_sublist _ _)⟩
theorem put_take {W : Nat} {l : List It} {k : Nat} (h : okBag l = true) (hk : k < l.length) (hg : Good W (l.take k)) : fits W (l.take k) (at' l k).1 (at' l k).2 = true ∧ putL (at' l k).1 (at' l k).2 (l.take k) = l.take (k + 1) := by
  obtain ⟨V, g⟩ := good_of h
  have e : l.take (k + 1) = l.take k ++ [at' l k] := by rw [List.take_add_one, at_get hk]; simp [hk]
  have hp : putL (at' l k).1 (at' l k).2 (l.take k) = l.take (k + 1) := by
    rw [e]; apply putL_last; rw [← e]; exact (g.take (k + 1)).srt
  refine ⟨?_, hp⟩
  rw [fits_iff hg (.inl (g.oks _ (by rw [at_get hk]; exact List.getElem_mem hk))), hp]
  exact (g.take (k + 1)).ok
theorem ok_rows {l : List It} (h : okBag l = true) {i : Nat} (hi : i < l.length) : (at' l i).1.length ≤ 4 := by
  obtain ⟨V, g⟩ := good_of h
  exact okRow_len (okItem_split.1 (g.oks _ (by rw [at_get hi]; exact List.getElem_mem hi))).1

set_option maxHeartbeats 2000000 in
set_option maxRecDepth 100000 in
theorem shelfOf_any (lo hi : Nat) (a : Option Addr) (n cap : Nat) (l : List It) (w : World) (ha : BagIn lo hi w a l) (hh : hi ≤ w.heap.size) (hn : l.length = n) (hok : okBag l = true) :
    Calls Try.prog 55 #[.agg #[.slice a n cap]] w fun e w' => ∃ mb W : Nat, e = .returned (.agg #[.int .i64 (W : Nat), .map (some mb)]) ∧ Hid (OwnM mb l w' ∧ Good W l ∧ w.heap.size ≤ mb ∧ Below w.heap.size w w') := by
  have HA : Hid (BagIn lo hi w a l) := ha
  have HH : Hid (hi ≤ w.heap.size) := hh
  have HN : Hid (l.length = n) := hn
  have HO : Hid (okBag l = true) := hok
  have h3 : n ≤ 300 := by rw [← hn]; exact okBag_len hok
  have hmm := @run_makeMap Try.prog
  clear ha hh hn hok
  go_enter Try.func55, Try.ntmps55
  obtain ⟨B, HB⟩ : ∃ B, Hid (B = w.heap.size) := ⟨_, rfl⟩
  have HB4 : Hid (Below w.heap.size w ((((w.alloc (.cells #[.slice a n cap] 26)).alloc (.cells #[.int .i64 0, .map none] 69)).alloc (.map #[] 0)).alloc (.cells #[.int .i64 0, .map (some (B + 1 + 1))] 69))) := (below3 w _ _ _).alloc (by simp; omega) _
  have HS0 : Hid (ShelfAt (B + 1 + 1 + 1) (B + 1 + 1) 0 [] ((((w.alloc (.cells #[.slice a n cap] 26)).alloc (.cells #[.int .i64 0, .map none] 69)).alloc (.map #[] 0)).alloc (.cells #[.int .i64 0, .map (some (B + 1 + 1))] 69))) := by
    refine ⟨blk_two _ (B + 1 + 1 + 1) (by rw [HB.out]; simp) _ _ _, ?_, by omega⟩
    have hmade := World.ownsMap_made (H := Unit) ((w.alloc (.cells #[.slice a n cap] 26)).alloc (.cells #[.int .i64 0, .map none] 69)) Try.prog 106 (plainElem Try.prog 3)
    have e : ((w.alloc (.cells #[.slice a n cap] 26)).alloc (.cells #[.int .i64 0, .map none] 69)).heap.size = B + 1 + 1 := by rw [HB.out]; simp
    rw [e] at hmade
    exact OwnM.of (hmade.alloc _) MapOf.nil
  have HR0 : Hid (Blk ((((w.alloc (.cells #[.slice a n cap] 26)).alloc (.cells #[.int .i64 0, .map none] 69)).alloc (.map #[] 0)).alloc (.cells #[.int .i64 0, .map (some (B + 1 + 1))] 69)) (B + 1) 2 (fun i => if i = 0 then .int .i64 0 else .map none)) :=
    ((blk_two _ (B + 1) (by rw [HB.out]; simp) _ _ _).alloc _).alloc _
  go_wp2
  rw [← HB.out]
  go_loopw [11] (fun i wr => ∃ k W : Nat, i = .int .i64 k ∧ k ≤ n ∧ Hid (ShelfAt (B + 1 + 1 + 1) (B + 1 + 1) W (l.take k) wr) ∧ Hid (Good W (l.take k)) ∧ Hid (Below w.heap.size w wr) ∧ Hid (∃ u v, Blk wr (B + 1) 2 (fun i => if i = 0 then u else v))) (fun i _ => n - (intOf i).toNat)
  case atStart => exact ⟨0, 0, rfl, by omega, HS0, Good.nil 0, HB4, _, _, HR0.out⟩
  case round =>
    obtain ⟨k, W, rfl, hk, HS, HG, HL, HR⟩ := hrel
    by_cases hlt : k < n
    · have hlt1 : (k : Int) < (n : Int) := by omega
      obtain ⟨b, o, rfl, _, hbh, xa, xc, hc1, hrow, hc2⟩ := (HA.out.below HL.out HH.out).item (k := k) (by rw [HN.out]; exact hlt)
      obtain ⟨xr, HXR⟩ : ∃ xr, Hid (xr = (at' l k).1) := ⟨_, rfl⟩
      obtain ⟨y, HY⟩ : ∃ y, Hid (y = (at' l k).2) := ⟨_, rfl⟩
      obtain ⟨xq, HXQ⟩ : ∃ xq, Hid (xr.length = xq) := ⟨_, rfl⟩
      change wr.cell? _ = some (.slice xa (at' l k).1.length xc) at hc1
      change wr.cell? _ = some (.int .i64 (at' l k).2) at hc2
      change RowIn lo hi wr xa (at' l k).1 at hrow
      rw [← HXR.out, HXQ.out] at hc1
      rw [← HY.out] at hc2
      rw [← HXR.out] at hrow
      have HROW : Hid (RowIn lo hi wr xa xr) := hrow
      have hxq : xq ≤ 1048576 := by rw [← HXQ.out, HXR.out]; have := ok_rows HO.out (i := k) (by rw [HN.out]; exact hlt); omega
      have HPT : Hid (fits W (l.take k) xr y = true ∧ putL xr y (l.take k) = l.take (k + 1)) := by
        rw [HXR.out, HY.out]; exact put_take HO.out (by rw [HN.out]; exact hlt) HG.out
      clear hrow hbh
      go_wp2_with fail
      refine (put_any lo hi (B + 1 + 1 + 1) (B + 1 + 1) W xa xq xc xr y (l.take k) _ (HROW.out.below (below1' wr _) (Nat.le_trans HH.out HL.out.size)) (by have := HH.out; have := HL.out.size; simp; omega) HXQ.out hxq (HS.out.below (below1' wr _)) HG.out (fun j h1 h2 => by have := HH.out; have := HB.out; omega)).mono ?_
      rintro e w2 ⟨ok, rfl, HF, HS2, HK2⟩
      clear hc1 hc2
      go_wp2
      go_roundw
      case rel =>
        have hf : ok = true := by rw [HF.out]; exact HPT.out.1
        have hb := HB.out
        have hs := HS.out.box.lt
        have hl := HL.out.size
        subst hf
        have HB2 : Below w.heap.size w w2 := (HL.out.trans ((below1' wr _).mono HL.out.size)).trans (HK2.out.to_below (by simp; omega) (fun k hk => by omega))
        refine ⟨k + 1, wideOf W (l.take k) xr, by go_num, by omega, ?_, ?_, HB2, ?_⟩
        · have := HS2.out; rw [if_pos rfl, HPT.out.2] at this; exact this
        · have := HG.out.put HPT.out.1; rw [HPT.out.2] at this; exact this
        · obtain ⟨u, v, hr⟩ := HR.out
          exact ⟨u, v, HK2.out.blk (hr.alloc _) (by omega)⟩
      case measure => simp [intOf]; omega
    · obtain rfl : k = n := by omega
      have hg0 := HG.out
      have hs0 := HS.out
      have e : l.take k = l := List.take_of_length_le (by rw [HN.out]; exact Nat.le_refl _)
      rw [e] at hg0 hs0
      have HG' : Hid (Good W l) := hg0
      have HS' : Hid (ShelfAt (B + 1 + 1 + 1) (B + 1 + 1) W l wr) := hs0
      obtain ⟨u, v, hr⟩ := HR.out
      have HRR : Hid (Blk wr (B + 1) 2 (fun i => if i = 0 then u else v)) := hr
      have c0 := HS'.out.box.cell (i := 0) (by omega)
      have c1 := HS'.out.box.cell (i := 1) (by omega)
      have r0 := HRR.out.cell (i := 0) (by omega)
      have r1 := HRR.out.cell (i := 1) (by omega)
      have f0 := HRR.out.frozen 0
      have f1 := HRR.out.frozen 1
      simp only [if_true, Nat.one_ne_zero, if_false] at c0 c1 r0 r1
      clear hg0 hs0 e hr HS HG HS0 HR0 HB4
      go_wp2
      have HRZ := ((HRR.out.set 0 (by omega) (.int .i64 (W : Nat))).set 1 (by omega) (.map (some (B + 1 + 1))))
      have z0 := HRZ.cell (i := 0) (by omega)
      have z1 := HRZ.cell (i := 1) (by omega)
      simp only [Nat.zero_ne_one, if_true, if_false] at z0 z1
      refine bodyPost_ret (v := .agg #[.int .i64 (W : Nat), .map (some (B + 1 + 1))]) (by simp [results, Try.results55, go_sem, z0, z1]) rfl ?_
      have hb := HB.out
      refine ⟨B + 1 + 1, W, rfl, HS'.out.own.block ?_, HG'.out, by omega, (HL.out.setCell (by simp; omega) _).setCell (by simp; omega) _⟩
      rw [Below.heap_setCell _ _ _ _ (by simp), Below.heap_setCell _ _ _ _ (by simp)]
end Go.Proofs.Ytijbngdafgmpaaa
