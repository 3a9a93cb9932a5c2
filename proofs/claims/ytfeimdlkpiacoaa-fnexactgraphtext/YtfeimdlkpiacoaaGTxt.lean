/-
  The text of a graph: (*strings.Builder).WriteByte, impl.GraphText.
-/
import Derived.Deep.DeepCutAuto
import Derived.Test.YtfeimdlkpiacoaaTxt
import Derived.Test.YtfeimdlkpiacoaaGOk
import Derived.Deep.AppendLies
namespace Go.Proofs.Ytfeimdlkpiacoaa
open Go.RowKit

theorem cell_one_new' (w : World) (x : Value) (T : TypeId) : ∀ j u, [x][j]? = some u → (w.alloc (.cells #[x] T)).cell? ((⟨w.heap.size, 0, none⟩ : Addr).add j) = some u := by
  intro j u hu
  cases j with
  | zero =>
    simp at hu; subst hu
    rw [add_none]
    exact (blk_one w _ rfl x T).cell (i := 0) (by omega)
  | succ j => simp at hu

set_option maxHeartbeats 1000000 in
set_option maxRecDepth 100000 in
theorem writeByte_any (B b : Nat) (bs : List UInt8) (c : UInt8) (w : World) (h : Lib.IsBuilder 68 5 B b (Lib.byteCells bs) w) (hlen : bs.length + 1 ≤ 140737488355328) (hBw : B ≤ w.heap.size) :
    Calls Try.prog 51 #[.pointer (some ⟨b, 0, none⟩), .int .u8 (c.toNat : Int)] w fun e w' => e = .returned .nilIface ∧ Hid (Lib.IsBuilder 68 5 B b (Lib.byteCells (bs ++ [c])) w') ∧ Hid (Below B w w') ∧ Hid (∀ (d : Nat) cs T fr, d ≠ b → w.heap[d]? = some (.cells cs T fr) → T ≠ 5 → w'.heap[d]? = w.heap[d]?) := by
  obtain ⟨i0, hi, hz0, hz1, hz2⟩ := info_parts Try.info5'
  have hbl : (Lib.byteCells bs).length = bs.length := Lib.byteCells_length bs
  go_enter Try.func51, Try.ntmps51
  go_wp2_with (go_at_call 69; refine (copyCheck_any B b (Lib.byteCells bs) _ h).mono ?_)
  rintro e w1 ⟨rfl, h1, hb1, hkc⟩
  obtain ⟨hB, v, hbk, hown, hne⟩ := h1
  have HKC : Hid (∀ c, c ≠ b → w1.heap[c]? = w.heap[c]?) := hkc
  clear hkc
  have hlt : b < w1.heap.size := (Array.getElem?_eq_some_iff.1 hbk).1
  have c0 : w1.cell? ⟨b, 0, none⟩ = some (.pointer (some ⟨b, 0, none⟩)) := by rw [Lib.cell_of_heap hbk]; rfl
  have c1 : w1.cell? ⟨b, 1, none⟩ = some v := by rw [Lib.cell_of_heap hbk]; rfl
  obtain ⟨wa, HWA⟩ : ∃ wa, Hid (wa = w1.alloc (.cells #[.int .u8 (c.toNat : Int)] 5)) := ⟨_, rfl⟩
  have hown1 : (w1.alloc (.cells #[.int .u8 (c.toNat : Int)] 5)).ownsRow B 5 1 v (Lib.byteCells bs).length (Lib.byteCells bs) := hown.alloc _
  have hBw1 : B ≤ w1.heap.size := by have := hb1.size; omega
  go_wp2_with (at_builtin; refine wpList_append_lies _ rfl (.tmp 11) (.tmp 13) 65 rfl B 5 i0 (.int .u8 0) 1 1 Try.underlying65 hi hz0 hz1 hz2 rfl (by decide) _ _ (Lib.byteCells bs) rfl hown1 ⟨w1.heap.size, 0, none⟩ 1 1 [.int .u8 (c.toNat : Int)] rfl rfl (cell_one_new' _ _ _) (by simp [Value.oneCell']) (by decide) (by rw [hbl]; unfold maxLen; omega) (by rw [hbl]; omega) (by simp; omega) _ rfl ?_)
  intro g cap w2 hown' hgrow hloc _
  have hba : (w1.alloc (.cells #[.int .u8 (c.toNat : Int)] 5)).heap[b]? = some (.cells #[.pointer (some ⟨b, 0, none⟩), v] 68 (0, 0)) := by rw [Below.heap_alloc _ _ _ hlt]; exact hbk
  have hb2 : w2.heap[b]? = some (.cells #[.pointer (some ⟨b, 0, none⟩), v] 68 (0, 0)) := by
    rw [hgrow.block b (by simp; omega) (fun e => hne e.symm)]
    exact hba
  have d0 : w2.cell? ⟨b, 0, none⟩ = some (.pointer (some ⟨b, 0, none⟩)) := by rw [Lib.cell_of_heap hb2]; rfl
  have d1 : w2.cell? ⟨b, 1, none⟩ = some v := by rw [Lib.cell_of_heap hb2]; rfl
  have f1 : w2.frozen? ⟨b, 1, none⟩ = false := Lib.frozen_of_heap hb2 1
  clear HWA hown1
  go_wp2
  go_ret
  refine ⟨rfl, .inr ?_, ?_, ?_⟩
  · have e : Lib.byteCells (bs ++ [c]) = Lib.byteCells bs ++ [.int .u8 (c.toNat : Int)] := by simp [Lib.byteCells]
    rw [e]
    exact Lib.BuilderAt.put (T := 68) (e := 5) hB hb2 (bs' := Lib.byteCells bs ++ [.int .u8 (c.toNat : Int)]) (by simpa [hbl] using hown') (by decide)
  · exact ((hb1.alloc hBw1 _).grown hgrow (by simp; omega) (fun k hk => (hown.lt k hk).1)).setCell (p := ⟨b, 1, none⟩) hB _
  · intro d cs T fr hcb hc hT
    have hc1 : w1.heap[d]? = some (.cells cs T fr) := by rw [HKC.out d hcb]; exact hc
    have hdl : d < w1.heap.size := (Array.getElem?_eq_some_iff.1 hc1).1
    rw [Below.heap_setCell w2 ⟨b, 1, none⟩ _ d hcb, hgrow.block d (by simp; omega) ?_, Below.heap_alloc _ _ _ hdl, HKC.out d hcb]
    intro e
    rcases hown.2 with ⟨hv, _⟩ | ⟨g, cap', cur, hv, _, hg, _⟩
    · rw [hv] at e; simp [Value.ownBlock] at e
    · rw [hv] at e
      simp [Value.ownBlock] at e
      subst e
      rw [hc1] at hg
      simp at hg
      exact hT hg.2.1

/-- the bytes of an edge -/
def edgeTxt (x : Ed) : List UInt8 := vb x.1 ++ [UInt8.ofNat x.2.1.toNat] ++ vb x.2.2
/-- the bytes of a graph, as far as place k -/
def gtxtTo (s : Int) (l : List Ed) (k : Nat) : List UInt8 := (vb s ++ vb l.length) ++ (l.take k).flatMap edgeTxt
/-- the text of a graph; none of one that is not right -/
def gtxtOf (s : Int) (l : List Ed) : ByteArray := ⟨(if okG s l = true then gtxtTo s l l.length else []).toArray⟩
theorem take_snocE (l : List Ed) {k : Nat} (h : k < l.length) : l.take (k + 1) = l.take k ++ [eat l k] := by
  rw [List.take_add_one]; simp [eat, List.getD, h]
theorem gtxtTo_step {s : Int} {l : List Ed} {k : Nat} (h : k < l.length) : gtxtTo s l (k + 1) = gtxtTo s l k ++ edgeTxt (eat l k) := by
  unfold gtxtTo
  rw [take_snocE l h, List.flatMap_append, ← List.append_assoc]
  simp
theorem edgeTxt_le (x : Ed) : (edgeTxt x).length ≤ 21 := by
  have h3 := vb_le x.1
  have h4 := vb_le x.2.2
  simp only [edgeTxt, List.length_append, List.length_cons, List.length_nil]
  omega
theorem gtxt_le (s : Int) (l : List Ed) (k : Nat) (hk : k ≤ l.length) : (gtxtTo s l k).length ≤ 20 + 21 * k := by
  induction k with
  | zero => have := vb_le s; have := vb_le l.length; simp [gtxtTo]; omega
  | succ k ih =>
    rw [gtxtTo_step (by omega), List.length_append]
    have := ih (by omega)
    have := edgeTxt_le (eat l k)
    omega
theorem okG_edge {s : Int} {l : List Ed} (h : okG s l = true) {k : Nat} (hk : k < l.length) : (0 ≤ (eat l k).1 ∧ (eat l k).1 < s) ∧ (0 ≤ (eat l k).2.2 ∧ (eat l k).2.2 < s) ∧ 97 ≤ (eat l k).2.1 ∧ (eat l k).2.1 ≤ 100 := by
  have := (okG_iff.1 h).2.2.1 (eat l k) (by rw [eat_get hk]; exact List.getElem_mem hk)
  unfold okE inV at this
  simp only [Bool.and_eq_true, decide_eq_true_eq] at this
  omega

theorem row_two (w : World) (x y : Int) (b : Nat) (hb : b = w.heap.size) (T : TypeId) : RowIn w.heap.size (w.heap.size + 1) (w.alloc (.cells #[.int .i64 x, .int .i64 y] T)) (some ⟨b, 0, none⟩) [x, y] := by
  subst hb
  refine .inr ⟨_, 0, rfl, Nat.le_refl _, Nat.lt_succ_self _, fun i hi => ?_⟩
  have hi' : i < 2 := by simpa using hi
  have hk := (blk_two w _ rfl (.int .i64 x) (.int .i64 y) T).cell (i := i) hi'
  rw [Nat.zero_add, hk]
  rcases (show i = 0 ∨ i = 1 by omega) with rfl | rfl <;> rfl
/-- two numbers, their bytes -/
theorem nums_two (x y : Int) (w : World) (h0 : 0 ≤ x) (h1 : x ≤ 1000000000) (g0 : 0 ≤ y) (g1 : y ≤ 1000000000) (T : TypeId) (b : Nat) (hb : b = w.heap.size) :
    Calls Try.prog 50 #[.slice (some ⟨b, 0, none⟩) 2 2] (w.alloc (.cells #[.int .i64 x, .int .i64 y] T)) fun e w' => ∃ t : ByteArray, e = .returned (.string t) ∧ Hid (t.data.toList = vb x ++ vb y) ∧ Hid (Below w.heap.size w w') :=
  (varTexts_any w.heap.size (w.heap.size + 1) (some ⟨b, 0, none⟩) 2 2 [x, y] _ (row_two w x y b hb T) (by simp) rfl (by omega) (fun i hi => by
    rcases (show i = 0 ∨ i = 1 by omega) with rfl | rfl
    · exact ⟨h0, h1⟩
    · exact ⟨g0, g1⟩)).mono fun _ _ ⟨t, e1, e2, e3⟩ => ⟨t, e1, by have := e2.out; simpa [vt, Hid] using this, (below1' w _).trans (e3.out.mono (by simp))⟩

set_option maxHeartbeats 4000000 in
set_option maxRecDepth 100000 in
theorem graphText_any (lo hi : Nat) (s : Int) (a : Option Addr) (n cap : Nat) (l : List Ed) (w : World) (ha : EdgesIn lo hi w a l) (hh : hi ≤ w.heap.size) (hn : l.length = n) (hm : n ≤ 1048576) :
    Calls Try.prog 27 #[gv s a n cap] w fun e w' => ∃ (t : ByteArray) (ok : Bool), e = .returned (.tuple #[.string t, .bool ok]) ∧ Hid (ok = okG s l ∧ t = gtxtOf s l) ∧ Hid (Below w.heap.size w w') := by
  have HN : Hid (l.length = n) := hn
  have HA : Hid (EdgesIn lo hi w a l) := ha
  have HH : Hid (hi ≤ w.heap.size) := hh
  obtain ⟨r, HS⟩ : ∃ r : Bool, Hid (r = okG s l) := ⟨_, rfl⟩
  clear ha hh hn
  go_enter Try.func27, Try.ntmps27
  go_wp2_with fail
  refine (graphOk_any lo hi s a n cap l r _ (HA.out.below (below1 w _) HH.out) (by have := HH.out; simp; omega) HN.out hm HS.out).mono ?_
  rintro e w1 ⟨rfl, hb1⟩
  have HK1 : Hid (Blk w1 w.heap.size 2 (fun i => if i = 0 then .int .i64 s else .slice a n cap)) := (blk_two w w.heap.size rfl (.int .i64 s) (.slice a n cap) 29).of_block (hb1.out.block w.heap.size (by simp))
  have HB1 : Hid (Below w.heap.size w w1) := (below1 w _).trans (hb1.out.mono (by simp))
  clear hb1
  rcases Bool.eq_false_or_eq_true r with hs | hs
  · subst hs
    have HO : Hid (okG s l = true) := HS.out.symm
    obtain ⟨hs1, hs2, hs3⟩ := okG_size HO.out
    rw [HN.out] at hs3
    have c0 : (w1.alloc (.cells #[.pointer none, .slice none 0 0] 68)).cell? ⟨w.heap.size, 0, none⟩ = some (.int .i64 s) := (HK1.out.alloc _).cell (i := 0) (by omega)
    have c1 : (w1.alloc (.cells #[.pointer none, .slice none 0 0] 68)).cell? ⟨w.heap.size, 1, none⟩ = some (.slice a n cap) := (HK1.out.alloc _).cell (i := 1) (by omega)
    go_wp2_with fail
    refine (nums_two s (n : Int) _ (by omega) (by omega) (by omega) (by omega) _ _ (by simp)).mono ?_
    rintro e w2 ⟨t2, rfl, HT2, B2⟩
    have HI2 : Hid (Lib.IsBuilder 68 5 w1.heap.size w1.heap.size (Lib.byteCells []) w2) := builder_below (builder_new w1) B2.out
    have HB2 : Hid (Below w1.heap.size w1 w2) := (below1' w1 _).trans (B2.out.mono (by simp))
    clear B2 c0 c1
    go_wp2_with fail
    refine (writeString_any w1.heap.size w1.heap.size [] t2 w2 HI2.out (by have := size_of_list HT2.out; have := vb_le (n : Int); have := vb_le s; rw [List.length_append] at *; simp; omega) HB2.out.size).mono ?_
    rintro e w3 ⟨k3, rfl, HI3, B3, _⟩
    have HB3 : Hid (Below w1.heap.size w1 w3) := HB2.out.trans B3.out
    have HI3' : Hid (Lib.IsBuilder 68 5 w1.heap.size w1.heap.size (Lib.byteCells (gtxtTo s l 0)) w3) := by
      have h := HI3.out
      rw [List.nil_append, HT2.out] at h
      have e : gtxtTo s l 0 = vb s ++ vb (n : Int) := by simp [gtxtTo, HN.out]
      rw [e]; exact h
    have c3 : w3.cell? ⟨w.heap.size, 1, none⟩ = some (.slice a n cap) := (HK1.out.of_block (HB3.out.block _ HK1.out.lt)).cell (i := 1) (by omega)
    clear HI2 HB2 B3 HI3
    go_wp2
    go_loopw [22] (fun i wr => ∃ k : Nat, i = .int .i64 k ∧ k ≤ n ∧ Hid (Lib.IsBuilder 68 5 w1.heap.size w1.heap.size (Lib.byteCells (gtxtTo s l k)) wr) ∧ Hid (Below w1.heap.size w1 wr)) (fun i _ => n - (intOf i).toNat)
    case atStart => exact ⟨0, rfl, by omega, HI3', HB3⟩
    case round =>
      obtain ⟨k, rfl, hk, HI, HL⟩ := hrel
      have HTL : Hid ((gtxtTo s l k).length ≤ 1000) := by have := gtxt_le s l k (by rw [HN.out]; exact hk); show _ ≤ _; omega
      by_cases hlt : k < n
      · have hlt1 : (k : Int) < (n : Int) := by omega
        obtain ⟨⟨hv0, hv1⟩, ⟨hv2, hv3⟩, hv4, hv5⟩ := okG_edge HO.out (k := k) (by rw [HN.out]; exact hlt)
        have HWR : Hid (Below w.heap.size w wr) := HB1.out.trans (HL.out.mono HB1.out.size)
        obtain ⟨b, o, rfl, _, _, hx⟩ := (HA.out.below HWR.out HH.out).edge (k := k) (by rw [HN.out]; exact hlt)
        obtain ⟨x, HXX⟩ : ∃ x : Ed, Hid (x = eat l k) := ⟨_, rfl⟩
        rw [← HXX.out] at hx hv0 hv1 hv2 hv3 hv4 hv5
        obtain ⟨x0, x1, x2⟩ := x
        obtain ⟨p0, p1, p2⟩ := hx
        dsimp only at p0 p1 p2 hv0 hv1 hv2 hv3 hv4 hv5
        obtain ⟨c, hc⟩ : ∃ c : UInt8, x1 = (c.toNat : Int) := ⟨UInt8.ofNat x1.toNat, by simp; omega⟩
        have HC : Hid (UInt8.ofNat x1.toNat = c) := by show _ = _; rw [hc]; simp
        subst hc
        have HI0 : Hid (Lib.IsBuilder 68 5 w1.heap.size w1.heap.size (Lib.byteCells (gtxtTo s l k)) (wr.alloc (.cells #[.int .i64 x0, .int .u8 (c.toNat : Int), .int .i64 x2] 37))) := builder_below HI.out (below1' wr _)
        have HK6 : Hid ((wr.alloc (.cells #[.int .i64 x0, .int .u8 (c.toNat : Int), .int .i64 x2] 37)).heap[wr.heap.size]? = some (.cells #[.int .i64 x0, .int .u8 (c.toNat : Int), .int .i64 x2] 37 (0, 0))) := heap_new wr _
        go_wp2_with fail
        refine (nums_one x0 _ (by omega) (by omega) _ _ (by simp)).mono ?_
        rintro e w4 ⟨t4, rfl, HT4, B4⟩
        have HI4 : Hid (Lib.IsBuilder 68 5 w1.heap.size w1.heap.size (Lib.byteCells (gtxtTo s l k)) w4) := builder_below HI0.out B4.out
        have HK64 : Hid (w4.heap[wr.heap.size]? = some (.cells #[.int .i64 x0, .int .u8 (c.toNat : Int), .int .i64 x2] 37 (0, 0))) := (B4.out.block _ (by simp)).trans HK6.out
        have HB4 : Hid (Below wr.heap.size wr w4) := (below1' wr _).trans (B4.out.mono (by simp))
        have HL4 : Hid (Below w1.heap.size w1 w4) := HL.out.trans (HB4.out.mono HL.out.size)
        have HS4 : Hid (t4.size ≤ 10) := by have := size_of_list HT4.out; have := vb_le x0; show _ ≤ _; omega
        have HNE : Hid (wr.heap.size ≠ w1.heap.size) := by
          have := builder_lt HI.out
          show _ ≠ _
          omega
        clear B4 HK6 HI0 p0 p1 p2
        go_wp2_with fail
        refine (writeString_any w1.heap.size w1.heap.size (gtxtTo s l k) t4 w4 HI4.out (by have := HTL.out; have := HS4.out; omega) HL4.out.size).mono ?_
        rintro e w5 ⟨k5, rfl, HI5, B5, C5⟩
        have HL5 : Hid (Below w1.heap.size w1 w5) := HL4.out.trans B5.out
        have HK5 : Hid (w5.heap[wr.heap.size]? = some (.cells #[.int .i64 x0, .int .u8 (c.toNat : Int), .int .i64 x2] 37 (0, 0))) := (C5.out _ _ _ _ HNE.out HK64.out (by decide)).trans HK64.out
        have c5 : w5.cell? ⟨wr.heap.size, 1, none⟩ = some (.int .u8 (c.toNat : Int)) := by rw [Lib.cell_of_heap HK5.out]; rfl
        clear B5 C5 HI4 HK64 HB4 HL4
        go_wp2_with fail
        refine (writeByte_any w1.heap.size w1.heap.size (gtxtTo s l k ++ t4.data.toList) c w5 HI5.out (by have := HTL.out; have := HS4.out; have h : t4.data.toList.length = t4.size := (size_of_list rfl).symm; rw [List.length_append]; omega) HL5.out.size).mono ?_
        rintro e w7 ⟨rfl, HI7, B7, C7⟩
        have HL7 : Hid (Below w1.heap.size w1 w7) := HL5.out.trans B7.out
        have HK7 : Hid (w7.heap[wr.heap.size]? = some (.cells #[.int .i64 x0, .int .u8 (c.toNat : Int), .int .i64 x2] 37 (0, 0))) := (C7.out _ _ _ _ HNE.out HK5.out (by decide)).trans HK5.out
        have c7 : w7.cell? ⟨wr.heap.size, 2, none⟩ = some (.int .i64 x2) := by rw [Lib.cell_of_heap HK7.out]; rfl
        clear c5 B7 C7 HI5 HK5 HL5
        go_wp2_with fail
        refine (nums_one x2 w7 (by omega) (by omega) _ _ (by simp)).mono ?_
        rintro e w8 ⟨t8, rfl, HT8, B8⟩
        have HI8 : Hid (Lib.IsBuilder 68 5 w1.heap.size w1.heap.size (Lib.byteCells ((gtxtTo s l k ++ t4.data.toList) ++ [c])) w8) := builder_below HI7.out B8.out
        have HL8 : Hid (Below w1.heap.size w1 w8) := HL7.out.trans (B8.out.mono HL7.out.size)
        have HS8 : Hid (t8.size ≤ 10) := by have := size_of_list HT8.out; have := vb_le x2; show _ ≤ _; omega
        clear c7 B8 HI7 HK7 HL7
        go_wp2_with fail
        refine (writeString_any w1.heap.size w1.heap.size ((gtxtTo s l k ++ t4.data.toList) ++ [c]) t8 w8 HI8.out (by have := HTL.out; have := HS4.out; have := HS8.out; have h : t4.data.toList.length = t4.size := (size_of_list rfl).symm; rw [List.length_append, List.length_append, List.length_cons, List.length_nil]; omega) HL8.out.size).mono ?_
        rintro e w9 ⟨k9, rfl, HI9, B9, _⟩
        go_wp2
        go_roundw
        case rel =>
          refine ⟨k + 1, by go_num, by omega, ?_, HL8.out.trans B9.out⟩
          have e : gtxtTo s l (k + 1) = ((gtxtTo s l k ++ t4.data.toList) ++ [c]) ++ t8.data.toList := by
            rw [gtxtTo_step (by rw [HN.out]; exact hlt), HT4.out, HT8.out, ← HXX.out]
            unfold edgeTxt
            rw [HC.out]
            simp
          rw [e]; exact HI9.out
        case measure => simp [intOf]; omega
      · obtain rfl : k = n := by omega
        go_wp2_with fail
        refine (Try.Builder_String_any w1.heap.size w1.heap.size (gtxtTo s l k) wr HI.out HL.out.size).mono ?_
        rintro e w4 ⟨rfl, hb4⟩
        go_wp2
        go_ret2
        refine ⟨_, true, rfl, ⟨HO.out.symm, ?_⟩, HB1.out.trans ((HL.out.trans hb4).mono HB1.out.size)⟩
        unfold gtxtOf
        rw [if_pos HO.out, HN.out]
  · subst hs
    go_wp2
    go_ret2
    refine ⟨_, false, rfl, ⟨HS.out, ?_⟩, HB1.out⟩
    unfold gtxtOf
    rw [← HS.out]; rfl
end Go.Proofs.Ytfeimdlkpiacoaa
