/-
  spec.BagText.
-/
import Derived.Test.YtelikebpddhncaaTxt
namespace Go.Proofs.Ytelikebpddhncaa
open Go.RowKit

theorem l01Var_let (x : Int) (w : World) (h0 : 0 ≤ x) (h1 : x ≤ 1000000000) :
    Calls Try.prog 92 #[.int .i64 x] w fun e w' => ∃ t : ByteArray, e = .returned (.string t) ∧ Hid (t.data.toList = vb x) ∧ Hid (Below w.heap.size w w') := by
  obtain ⟨n, rfl⟩ := Int.eq_ofNat_of_zero_le h0
  refine (sp.l01Var_any n w (by omega)).mono ?_
  rintro e w' ⟨rfl, hb⟩
  exact ⟨_, rfl, by simp [vb, Hid], hb⟩

theorem RowIn.cellAt {lo hi i : Nat} {w : World} {a : Option Addr} {l : List Int} (h : RowIn lo hi w a l) (hi' : i < l.length) : ∃ b o, a = some ⟨b, o, none⟩ ∧ b < hi ∧ w.cell? ⟨b, o + i, none⟩ = some (.int .i64 (l.getD i 0)) := by
  rcases h with rfl | ⟨b, o, e, _, h2, h3⟩
  · simp at hi'
  · exact ⟨b, o, e, h2, h3 i hi'⟩
theorem cat_list (s t : ByteArray) : (s ++ t).data.toList = s.data.toList ++ t.data.toList := by simp

set_option maxHeartbeats 4000000 in
set_option maxRecDepth 100000 in
theorem specText_any (lo hi : Nat) (a : Option Addr) (n cap : Nat) (l : List It) (w : World) (ha : BagIn lo hi w a l) (hh : hi ≤ w.heap.size) (hn : l.length = n) (hm : n ≤ 1048576) (hq : ∀ i, i < n → (at' l i).1.length ≤ 1048576) :
    Calls Try.prog 61 #[.agg #[.slice a n cap]] w fun e w' => ∃ (t : ByteArray) (ok : Bool), e = .returned (.tuple #[.string t, .bool ok]) ∧ Hid (ok = okBag l ∧ t = txtOf l) ∧ Hid (Below w.heap.size w w') := by
  have HN : Hid (l.length = n) := hn
  have HA : Hid (BagIn lo hi w a l) := ha
  have HH : Hid (hi ≤ w.heap.size) := hh
  have HQ : Hid (∀ i, i < n → (at' l i).1.length ≤ 1048576) := hq
  obtain ⟨s, HS⟩ : ∃ s : Bool, Hid (s = okBag l) := ⟨_, rfl⟩
  clear ha hh hn hq
  go_enter Try.func61, Try.ntmps61
  go_wp2_with fail
  refine (specOk_any lo hi a n cap l s _ (HA.out.below (below1 w _) HH.out) (by have := HH.out; simp; omega) HN.out hm HQ.out HS.out).mono ?_
  rintro e w1 ⟨rfl, hb1⟩
  have hk1 := (blk_one w w.heap.size rfl (.slice a n cap) 26).of_block (hb1.block w.heap.size (by simp))
  have HK1 : Hid (Blk w1 w.heap.size 1 (fun _ => .slice a n cap)) := hk1
  have HB1 : Hid (Below w.heap.size w w1) := (below1 w _).trans (hb1.mono (by simp))
  clear hk1 hb1
  rcases Bool.eq_false_or_eq_true s with hs | hs
  · subst hs
    have HO : Hid (okBag l = true) := HS.out.symm
    have h3 : n ≤ 300 := by have := okBag_len HO.out; have := HN.out; omega
    have c1 := HK1.out.cell (i := 0) (by omega)
    go_wp2_with fail
    refine (l01Var_let (n : Int) w1 (by omega) (by omega)).mono ?_
    rintro e w2 ⟨t2, rfl, HT2, B2⟩
    have HK2 : Hid (Blk w2 w.heap.size 1 (fun _ => .slice a n cap)) := HK1.out.of_block (B2.out.block _ HK1.out.lt)
    have HB2 : Hid (Below w.heap.size w w2) := HB1.out.trans (B2.out.mono HB1.out.size)
    have HT2' : Hid (t2.data.toList = txtTo l 0) := by show _ = _; rw [HT2.out]; simp [txtTo, HN.out]
    clear B2 c1
    go_wp2
    go_loopw [5, 4] (fun i s wr => ∃ (k : Nat) (t : ByteArray), i = .int .i64 k ∧ s = .string t ∧ k ≤ n ∧ Hid (t.data.toList = txtTo l k) ∧ Hid (Below w.heap.size w wr) ∧ Hid (Blk wr w.heap.size 1 (fun _ => .slice a n cap))) (fun i _ _ => n - (intOf i).toNat)
    case atStart => exact ⟨0, t2, rfl, rfl, by omega, HT2', HB2, HK2⟩
    case round =>
      obtain ⟨k, t, rfl, rfl, hk, HTX, HL, HK⟩ := hrel
      have ck := HK.out.cell (i := 0) (by omega)
      by_cases hlt : k < n
      · have hlt1 : (k : Int) < (n : Int) := by omega
        have HKO : Hid (okItem (at' l k).1 (at' l k).2 = true) := ok_item HO.out (by rw [HN.out]; exact hlt)
        have HBW : Hid (BagIn lo hi wr a l) := HA.out.below HL.out HH.out
        obtain ⟨b, o, rfl, _, hbh, ra, rc, hc1, _, hc2⟩ := HBW.out.item (k := k) (by rw [HN.out]; exact hlt)
        obtain ⟨x, HX⟩ : ∃ t : Int, Hid (t = (at' l k).2) := ⟨_, rfl⟩
        obtain ⟨q, HQ1⟩ : ∃ q : Nat, Hid (q = (at' l k).1.length) := ⟨_, rfl⟩
        change wr.cell? _ = some (.slice ra (at' l k).1.length rc) at hc1
        change wr.cell? _ = some (.int .i64 (at' l k).2) at hc2
        rw [← HQ1.out] at hc1
        rw [← HX.out] at hc2
        have hq4 : q ≤ 4 := by rw [HQ1.out]; exact (okItem_row HKO.out).1
        have htt := okItem_times HKO.out
        rw [← HX.out] at htt
        obtain ⟨ht0, ht1⟩ := htt
        have hbw : b < wr.heap.size := lt_of_cell hc1
        have HC1 : Hid (wr.cell? ⟨b, o + k * 2, none⟩ = some (.slice ra q rc)) := hc1
        have HC2 : Hid (wr.cell? ⟨b, o + k * 2 + 1, none⟩ = some (.int .i64 x)) := hc2
        have HSZ : Hid (hi ≤ wr.heap.size) := Nat.le_trans HH.out HL.out.size
        have HROW : Hid (RowIn lo hi wr ra (at' l k).1) := by
          obtain ⟨b2, o2, e2, _, _, ra2, rc2, p1, p2, _⟩ := HBW.out.item (k := k) (by rw [HN.out]; exact hlt)
          simp only [Option.some.injEq, Addr.mk.injEq, and_true] at e2
          obtain ⟨rfl, rfl⟩ := e2
          change wr.cell? _ = some (.slice ra2 (at' l k).1.length rc2) at p1
          rw [HC1.out] at p1
          simp only [Option.some.injEq, Value.slice.injEq] at p1
          obtain ⟨rfl, _, _⟩ := p1
          exact p2
        clear hbh hc2
        go_wp2_with fail
        refine (l01Var_let (q : Int) wr (by omega) (by omega)).mono ?_
        rintro e w3 ⟨t3, rfl, HT3, B3⟩
        have hts : t.size ≤ 18010 := by have := size_of_list HTX.out; have := txt_le HO.out k (by rw [HN.out]; exact hk); omega
        have hts3 : t3.size ≤ 10 := by have := size_of_list HT3.out; have := vb_le (q : Int); omega
        clear ck hc1
        go_wp2
        go_loopw [6, 4] (fun i s wi => ∃ (j : Nat) (u : ByteArray), i = .int .i64 j ∧ s = .string u ∧ j ≤ q ∧ Hid (u.data.toList = txtTo l k ++ vb q ++ vt ((at' l k).1.take j)) ∧ Hid (Below wr.heap.size wr wi)) (fun i _ _ => q - (intOf i).toNat)
        case atStart => exact ⟨0, t ++ t3, rfl, rfl, by omega, by show _ = _; rw [cat_list, HTX.out, HT3.out]; simp [vt], B3⟩
        case round =>
          obtain ⟨j, u, rfl, rfl, hj, HU, HLI⟩ := hrel
          have ci := (HK.out.of_block (HLI.out.block _ HK.out.lt)).cell (i := 0) (by omega)
          have hc1 := cell_below HC1.out HLI.out hbw
          have hus : u.size ≤ 18100 := by
            have h1 := size_of_list HU.out
            have h2 := txt_le HO.out k (by rw [HN.out]; exact hk)
            have h3 := vb_le (q : Int)
            have h4 := vt_le ((at' l k).1.take j)
            rw [List.length_take] at h4
            rw [List.length_append, List.length_append] at h1
            omega
          by_cases hjl : j < q
          · have hjl1 : (j : Int) < (q : Int) := by omega
            obtain ⟨rb, ro, rfl, hrh, hrc⟩ := HROW.out.cellAt (i := j) (by rw [← HQ1.out]; exact hjl)
            have hcr := cell_below hrc HLI.out (by have := HSZ.out; omega)
            obtain ⟨y, HY⟩ : ∃ y : Int, Hid (y = (at' l k).1.getD j 0) := ⟨_, rfl⟩
            rw [← HY.out] at hcr
            have hyy := (okItem_row HKO.out).2 j (by rw [← HQ1.out]; exact hjl)
            rw [← HY.out] at hyy
            obtain ⟨hy0, hy1⟩ := hyy
            clear hrc hrh
            go_wp2_with fail
            refine (l01Var_let y wr hy0 (by omega)).mono ?_
            rintro e w4 ⟨t4, rfl, HT4, B4⟩
            have hts4 : t4.size ≤ 10 := by have := size_of_list HT4.out; have := vb_le y; omega
            go_wp2
            go_roundw
            case rel =>
              refine ⟨j + 1, u ++ t4, by go_num, rfl, by omega, ?_, HLI.out.trans (B4.out.mono HLI.out.size)⟩
              show _ = _
              rw [cat_list, HU.out, HT4.out, take_snocI _ (by rw [← HQ1.out]; exact hjl), vt_snoc, ← HY.out]
              simp
            case measure => simp [intOf]; omega
          · have hd := cell_below HC2.out HLI.out hbw
            go_wp2_with fail
            refine (l01Var_let x wr (by omega) (by omega)).mono ?_
            rintro e w4 ⟨t4, rfl, HT4, B4⟩
            have hts4 : t4.size ≤ 10 := by have := size_of_list HT4.out; have := vb_le x; omega
            have HLI4 : Hid (Below _ _ w4) := HLI.out.trans (B4.out.mono HLI.out.size)
            clear B4
            go_wp2
            go_roundw
            case rel =>
              refine ⟨k + 1, u ++ t4, by go_num, rfl, by omega, ?_, HL.out.trans (HLI4.out.mono HL.out.size), HK.out.of_block (HLI4.out.block _ HK.out.lt)⟩
              show _ = _
              rw [cat_list, HU.out, HT4.out, txtTo_step (by rw [HN.out]; exact hlt)]
              unfold itemTxt
              rw [← HQ1.out, ← HX.out, List.take_of_length_le (by rw [← HQ1.out]; omega)]
              simp
            case measure => simp [intOf]; omega
      · obtain rfl : k = n := by omega
        go_wp2
        go_ret2
        refine ⟨t, true, rfl, ⟨HO.out.symm, ?_⟩, HL⟩
        unfold txtOf
        rw [if_pos HO.out, HN.out, ← HTX.out]
  · subst hs
    go_wp2
    go_ret2
    refine ⟨_, false, rfl, ⟨HS.out, ?_⟩, HB1.out⟩
    unfold txtOf
    rw [← HS.out]; rfl
end Go.Proofs.Ytelikebpddhncaa
