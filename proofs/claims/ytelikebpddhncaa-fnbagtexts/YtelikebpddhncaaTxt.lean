/-
  The text of a bag: impl.BagText and spec.BagText.
-/
import Derived.Test.YtelikebpddhncaaBld
import Derived.Test.YtelikebpddhncaaSize
import Derived.Test.YtelikebpddhncaaMarkB
namespace Go.Proofs.Ytelikebpddhncaa
open Go.RowKit

/-- the bytes of an item -/
def itemTxt (x : It) : List UInt8 := vb x.1.length ++ vt x.1 ++ vb x.2
/-- the bytes of a bag, as far as place k -/
def txtTo (l : List It) (k : Nat) : List UInt8 := vb l.length ++ (l.take k).flatMap itemTxt
/-- the text of a bag; none of one that is not right -/
def txtOf (l : List It) : ByteArray := ⟨(if okBag l = true then txtTo l l.length else []).toArray⟩

theorem txtTo_step {l : List It} {k : Nat} (h : k < l.length) : txtTo l (k + 1) = txtTo l k ++ itemTxt (at' l k) := by
  have e : l.take (k + 1) = l.take k ++ [at' l k] := by rw [List.take_add_one]; simp [at', List.getD, h]
  unfold txtTo
  rw [e, List.flatMap_append, ← List.append_assoc]
  simp
theorem okItem_row {r : List Int} {t : Int} (h : okItem r t = true) : r.length ≤ 4 ∧ ∀ i, i < r.length → 0 ≤ r.getD i 0 ∧ r.getD i 0 ≤ 99 := by
  unfold okItem okRow okNums at h
  simp only [Bool.and_eq_true, decide_eq_true_eq, List.all_eq_true] at h
  refine ⟨h.1.2, fun i hi => ?_⟩
  have := h.1.1 (r.getD i 0) (by simp [List.getD, hi])
  exact this
theorem ok_item {l : List It} (h : okBag l = true) {k : Nat} (hk : k < l.length) : okItem (at' l k).1 (at' l k).2 = true := okAt_item (okBag_at h hk)
theorem vb_le (x : Int) : (vb x).length ≤ 10 := varB_le 9 x.toNat
theorem item_le {x : It} (h : okItem x.1 x.2 = true) : (itemTxt x).length ≤ 60 := by
  have h1 := (okItem_row h).1
  have h2 := vt_le x.1
  have h3 := vb_le x.1.length
  have h4 := vb_le x.2
  simp only [itemTxt, List.length_append]
  omega
theorem txt_le {l : List It} (h : okBag l = true) (k : Nat) (hk : k ≤ l.length) : (txtTo l k).length ≤ 10 + 60 * k := by
  induction k with
  | zero => have := vb_le l.length; simp [txtTo]; omega
  | succ k ih =>
    rw [txtTo_step (by omega), List.length_append]
    have := ih (by omega)
    have := item_le (ok_item h (k := k) (by omega))
    omega

theorem row_one (w : World) (x : Int) (b : Nat) (hb : b = w.heap.size) (T : TypeId) : RowIn w.heap.size (w.heap.size + 1) (w.alloc (.cells #[.int .i64 x] T)) (some ⟨b, 0, none⟩) [x] := by
  subst hb
  refine .inr ⟨_, 0, rfl, Nat.le_refl _, Nat.lt_succ_self _, fun i hi => ?_⟩
  have hi' : i = 0 := by simpa using hi
  subst hi'
  exact (blk_one w _ rfl _ _).cell (i := 0) (by omega)

/-- one number, then its bytes into the builder -/
theorem nums_one (x : Int) (w : World) (h0 : 0 ≤ x) (h1 : x ≤ 1000000000) (T : TypeId) (b : Nat) (hb : b = w.heap.size) :
    Calls Try.prog 55 #[.slice (some ⟨b, 0, none⟩) 1 1] (w.alloc (.cells #[.int .i64 x] T)) fun e w' => ∃ t : ByteArray, e = .returned (.string t) ∧ Hid (t.data.toList = vb x) ∧ Hid (Below w.heap.size w w') :=
  (varTexts_any w.heap.size (w.heap.size + 1) (some ⟨b, 0, none⟩) 1 1 [x] _ (row_one w x b hb T) (by simp) rfl (by omega) (fun i hi => by
    have : i = 0 := by omega
    subst this
    exact ⟨h0, h1⟩)).mono fun _ _ ⟨t, e1, e2, e3⟩ => ⟨t, e1, by have := e2.out; simpa [vt, Hid] using this, (below1' w _).trans (e3.out.mono (by simp))⟩

theorem heap_new (w : World) (o : Obj) : (w.alloc o).heap[w.heap.size]? = some o := by
  show (w.heap.push o)[w.heap.size]? = some o
  simp
theorem builder_lt {B b : Nat} {bs : List Value} {w : World} (h : Lib.IsBuilder 70 5 B b bs w) : b < w.heap.size := by
  rcases h with h | h <;> exact h.lt
theorem size_of_list {t : ByteArray} {l : List UInt8} (h : t.data.toList = l) : t.size = l.length := by
  rw [← h, Array.length_toList]; rfl

set_option maxHeartbeats 4000000 in
set_option maxRecDepth 100000 in
theorem bagText_any (lo hi : Nat) (a : Option Addr) (n cap : Nat) (l : List It) (w : World) (ha : BagIn lo hi w a l) (hh : hi ≤ w.heap.size) (hn : l.length = n) (hm : n ≤ 1048576) (hq : ∀ i, i < n → (at' l i).1.length ≤ 1048576) :
    Calls Try.prog 16 #[.agg #[.slice a n cap]] w fun e w' => ∃ (t : ByteArray) (ok : Bool), e = .returned (.tuple #[.string t, .bool ok]) ∧ Hid (ok = okBag l ∧ t = txtOf l) ∧ Hid (Below w.heap.size w w') := by
  have HN : Hid (l.length = n) := hn
  have HA : Hid (BagIn lo hi w a l) := ha
  have HH : Hid (hi ≤ w.heap.size) := hh
  have HQ : Hid (∀ i, i < n → (at' l i).1.length ≤ 1048576) := hq
  obtain ⟨s, HS⟩ : ∃ s : Bool, Hid (s = okBag l) := ⟨_, rfl⟩
  clear ha hh hn hq
  go_enter Try.func16, Try.ntmps16
  go_wp2_with fail
  refine (bagOk_any lo hi a n cap l s _ (HA.out.below (below1 w _) HH.out) (by have := HH.out; simp; omega) HN.out hm HQ.out HS.out).mono ?_
  rintro e w1 ⟨rfl, hb1⟩
  have hk1 := (blk_one w w.heap.size rfl (.slice a n cap) 26).of_block (hb1.block w.heap.size (by simp))
  have HK1 : Hid (Blk w1 w.heap.size 1 (fun _ => .slice a n cap)) := hk1
  have HB1 : Hid (Below w.heap.size w w1) := (below1 w _).trans (hb1.mono (by simp))
  clear hk1 hb1
  rcases Bool.eq_false_or_eq_true s with hs | hs
  · subst hs
    have HO : Hid (okBag l = true) := HS.out.symm
    have h3 : n ≤ 300 := by have := okBag_len HO.out; have := HN.out; omega
    have HKB : Hid (Blk (w1.alloc (.cells #[.pointer none, .slice none 0 0] 70)) w.heap.size 1 (fun _ => .slice a n cap)) := HK1.out.alloc _
    have c1 := HKB.out.cell (i := 0) (by omega)
    go_wp2_with fail
    refine (nums_one (n : Int) _ (by omega) (by omega) _ _ (by simp)).mono ?_
    rintro e w2 ⟨t2, rfl, HT2, B2⟩
    have HI2 : Hid (Lib.IsBuilder 70 5 w1.heap.size w1.heap.size (Lib.byteCells []) w2) := builder_below (builder_new w1) B2.out
    have HB2 : Hid (Below w1.heap.size w1 w2) := (below1' w1 _).trans (B2.out.mono (by simp))
    clear B2 c1
    go_wp2_with fail
    refine (writeString_any w1.heap.size w1.heap.size [] t2 w2 HI2.out (by have := size_of_list HT2.out; have := vb_le (n : Int); simp; omega) HB2.out.size).mono ?_
    rintro e w3 ⟨k3, rfl, HI3, B3, _⟩
    have HB3 : Hid (Below w1.heap.size w1 w3) := HB2.out.trans B3.out
    have HI3' : Hid (Lib.IsBuilder 70 5 w1.heap.size w1.heap.size (Lib.byteCells (txtTo l 0)) w3) := by
      have h := HI3.out
      rw [List.nil_append, HT2.out] at h
      have e : txtTo l 0 = vb (n : Int) := by simp [txtTo, HN.out]
      rw [e]; exact h
    have c3 := (HK1.out.of_block (HB3.out.block _ HK1.out.lt)).cell (i := 0) (by omega)
    clear HI2 HB2 B3 HI3
    go_wp2
    go_loopw [20] (fun i wr => ∃ k : Nat, i = .int .i64 k ∧ k ≤ n ∧ Hid (Lib.IsBuilder 70 5 w1.heap.size w1.heap.size (Lib.byteCells (txtTo l k)) wr) ∧ Hid (Below w1.heap.size w1 wr)) (fun i _ => n - (intOf i).toNat)
    case atStart => exact ⟨0, rfl, by omega, HI3', HB3⟩
    case round =>
      obtain ⟨k, rfl, hk, HI, HL⟩ := hrel
      have HTL : Hid ((txtTo l k).length ≤ 18010) := by have := txt_le HO.out k (by rw [HN.out]; exact hk); show _ ≤ _; omega
      by_cases hlt : k < n
      · have hlt1 : (k : Int) < (n : Int) := by omega
        have HKO : Hid (okItem (at' l k).1 (at' l k).2 = true) := ok_item HO.out (by rw [HN.out]; exact hlt)
        have HWR : Hid (Below w.heap.size w wr) := HB1.out.trans (HL.out.mono HB1.out.size)
        obtain ⟨b, o, rfl, _, hbh, ra, rc, hc1, hrow, hc2⟩ := (HA.out.below HWR.out HH.out).item (k := k) (by rw [HN.out]; exact hlt)
        have HROW : Hid (RowIn lo hi wr ra (at' l k).1) := hrow
        obtain ⟨t, HT⟩ : ∃ t : Int, Hid (t = (at' l k).2) := ⟨_, rfl⟩
        obtain ⟨q, HQ1⟩ : ∃ q : Nat, Hid (q = (at' l k).1.length) := ⟨_, rfl⟩
        change wr.cell? _ = some (.slice ra (at' l k).1.length rc) at hc1
        change wr.cell? _ = some (.int .i64 (at' l k).2) at hc2
        rw [← HQ1.out] at hc1
        rw [← HT.out] at hc2
        have hq4 : q ≤ 4 := by rw [HQ1.out]; exact (okItem_row HKO.out).1
        have htt := okItem_times HKO.out
        rw [← HT.out] at htt
        obtain ⟨ht0, ht1⟩ := htt
        have HHW : Hid (hi ≤ wr.heap.size) := Nat.le_trans HH.out HWR.out.size
        clear hbh hrow
        have HI0 : Hid (Lib.IsBuilder 70 5 w1.heap.size w1.heap.size (Lib.byteCells (txtTo l k)) (wr.alloc (.cells #[.slice ra q rc, .int .i64 t] 77))) := builder_below HI.out (below1' wr _)
        have HK6 : Hid ((wr.alloc (.cells #[.slice ra q rc, .int .i64 t] 77)).heap[wr.heap.size]? = some (.cells #[.slice ra q rc, .int .i64 t] 77 (0, 0))) := heap_new wr _
        go_wp2_with fail
        refine (nums_one (q : Int) _ (by omega) (by omega) _ _ (by simp)).mono ?_
        rintro e w4 ⟨t4, rfl, HT4, B4⟩
        have HI4 : Hid (Lib.IsBuilder 70 5 w1.heap.size w1.heap.size (Lib.byteCells (txtTo l k)) w4) := builder_below HI0.out B4.out
        have HK64 : Hid (w4.heap[wr.heap.size]? = some (.cells #[.slice ra q rc, .int .i64 t] 77 (0, 0))) := (B4.out.block _ (by simp)).trans HK6.out
        have HB4 : Hid (Below wr.heap.size wr w4) := (below1' wr _).trans (B4.out.mono (by simp))
        have HL4 : Hid (Below w1.heap.size w1 w4) := HL.out.trans (HB4.out.mono HL.out.size)
        have HS4 : Hid (t4.size ≤ 10) := by have := size_of_list HT4.out; have := vb_le (q : Int); show _ ≤ _; omega
        have HNE : Hid (wr.heap.size ≠ w1.heap.size) := by
          have := builder_lt HI.out
          show _ ≠ _
          omega
        have HHB : Hid (hi ≤ w1.heap.size) := Nat.le_trans HH.out HB1.out.size
        have HR4 : Hid (RowIn lo hi w4 ra (at' l k).1) := HROW.out.below HB4.out HHW.out
        clear B4 HK6 HI0 hc1 hc2
        go_wp2_with fail
        refine (writeString_any w1.heap.size w1.heap.size (txtTo l k) t4 w4 HI4.out (by have := HTL.out; have := HS4.out; omega) HL4.out.size).mono ?_
        rintro e w5 ⟨k5, rfl, HI5, B5, C5⟩
        have HL5 : Hid (Below w1.heap.size w1 w5) := HL4.out.trans B5.out
        have HK5 : Hid (w5.heap[wr.heap.size]? = some (.cells #[.slice ra q rc, .int .i64 t] 77 (0, 0))) := (C5.out _ _ _ _ HNE.out HK64.out (by decide)).trans HK64.out
        have HR5 : Hid (RowIn lo hi w5 ra (at' l k).1) := HR4.out.below B5.out HHB.out
        have c5 : w5.cell? ⟨wr.heap.size, 0, none⟩ = some (.slice ra q rc) := by rw [Lib.cell_of_heap HK5.out]; rfl
        clear B5 C5 HI4 HK64 HR4 HB4 HL4
        go_wp2_with fail
        refine (varTexts_any lo hi ra q rc (at' l k).1 w5 HR5.out (Nat.le_trans HHB.out HL5.out.size) HQ1.out.symm (by omega) (fun i hi => by have := (okItem_row HKO.out).2 i (by rw [← HQ1.out]; exact hi); omega)).mono ?_
        rintro e w6 ⟨t6, rfl, HT6, B6⟩
        have HI6 : Hid (Lib.IsBuilder 70 5 w1.heap.size w1.heap.size (Lib.byteCells (txtTo l k ++ t4.data.toList)) w6) := builder_below HI5.out B6.out
        have HK6 : Hid (w6.heap[wr.heap.size]? = some (.cells #[.slice ra q rc, .int .i64 t] 77 (0, 0))) := (B6.out.block _ (Array.getElem?_eq_some_iff.1 HK5.out).1).trans HK5.out
        have HL6 : Hid (Below w1.heap.size w1 w6) := HL5.out.trans (B6.out.mono HL5.out.size)
        have HS6 : Hid (t6.size ≤ 40) := by have := size_of_list HT6.out; have := vt_le (at' l k).1; have := HQ1.out; show _ ≤ _; omega
        clear c5 B6 HI5 HK5 HL5
        go_wp2_with fail
        refine (writeString_any w1.heap.size w1.heap.size (txtTo l k ++ t4.data.toList) t6 w6 HI6.out (by have := HTL.out; have := HS4.out; have := HS6.out; have h : t4.data.toList.length = t4.size := (size_of_list rfl).symm; rw [List.length_append]; omega) HL6.out.size).mono ?_
        rintro e w7 ⟨k7, rfl, HI7, B7, C7⟩
        have HL7 : Hid (Below w1.heap.size w1 w7) := HL6.out.trans B7.out
        have HK7 : Hid (w7.heap[wr.heap.size]? = some (.cells #[.slice ra q rc, .int .i64 t] 77 (0, 0))) := (C7.out _ _ _ _ HNE.out HK6.out (by decide)).trans HK6.out
        have c7 : w7.cell? ⟨wr.heap.size, 1, none⟩ = some (.int .i64 t) := by rw [Lib.cell_of_heap HK7.out]; rfl
        clear B7 C7 HI6 HK6 HL6 HR5
        go_wp2_with fail
        refine (nums_one t w7 (by omega) (by omega) _ _ (by simp)).mono ?_
        rintro e w8 ⟨t8, rfl, HT8, B8⟩
        have HI8 : Hid (Lib.IsBuilder 70 5 w1.heap.size w1.heap.size (Lib.byteCells ((txtTo l k ++ t4.data.toList) ++ t6.data.toList)) w8) := builder_below HI7.out B8.out
        have HL8 : Hid (Below w1.heap.size w1 w8) := HL7.out.trans (B8.out.mono HL7.out.size)
        have HS8 : Hid (t8.size ≤ 10) := by have := size_of_list HT8.out; have := vb_le t; show _ ≤ _; omega
        clear c7 B8 HI7 HK7 HL7
        go_wp2_with fail
        refine (writeString_any w1.heap.size w1.heap.size ((txtTo l k ++ t4.data.toList) ++ t6.data.toList) t8 w8 HI8.out (by have := HTL.out; have := HS4.out; have := HS6.out; have := HS8.out; have h : t4.data.toList.length = t4.size := (size_of_list rfl).symm; have h' : t6.data.toList.length = t6.size := (size_of_list rfl).symm; rw [List.length_append, List.length_append]; omega) HL8.out.size).mono ?_
        rintro e w9 ⟨k9, rfl, HI9, B9, _⟩
        go_wp2
        go_roundw
        case rel =>
          refine ⟨k + 1, by go_num, by omega, ?_, HL8.out.trans B9.out⟩
          have e : txtTo l (k + 1) = ((txtTo l k ++ t4.data.toList) ++ t6.data.toList) ++ t8.data.toList := by
            rw [txtTo_step (by rw [HN.out]; exact hlt), HT4.out, HT6.out, HT8.out]
            unfold itemTxt
            rw [← HQ1.out, ← HT.out]
            simp
          rw [e]; exact HI9.out
        case measure => simp [intOf]; omega
      · obtain rfl : k = n := by omega
        go_wp2_with fail
        refine (Try.Builder_String_any w1.heap.size w1.heap.size (txtTo l k) wr HI.out HL.out.size).mono ?_
        rintro e w4 ⟨rfl, hb4⟩
        go_wp2
        go_ret2
        refine ⟨_, true, rfl, ⟨HO.out.symm, ?_⟩, HB1.out.trans ((HL.out.trans hb4).mono HB1.out.size)⟩
        unfold txtOf
        rw [if_pos HO.out, HN.out]
  · subst hs
    go_wp2
    go_ret2
    refine ⟨_, false, rfl, ⟨HS.out, ?_⟩, HB1.out⟩
    unfold txtOf
    rw [← HS.out]; rfl
end Go.Proofs.Ytelikebpddhncaa
