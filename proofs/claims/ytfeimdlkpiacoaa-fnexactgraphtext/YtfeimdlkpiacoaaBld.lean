/-
  strings.Builder at this translation: copyCheck, WriteString, String; varTexts.
-/
import Derived.Test.YtfeimdlkpiacoaaShelfB
import Derived.Test.YtfeimdlkpiacoaaSVar
import Derived.Test.YtfeimdlkpiacoaaItemC
import Derived.Shelf.Strings.Builder1
namespace Go.Proofs.Ytfeimdlkpiacoaa
open Go.RowKit

theorem Try.size68 : (Try.prog.info? 68).map (·.size) = some 2 := by kernel_rfl
theorem Try.lies68 : liesAt Try.prog Try.prog.depth 68 (2 / Try.prog.cellsOf 68) 0 68 1 = true := by kernel_rfl
theorem Try.info5' : (Try.prog.info? 5).map (fun i => (i.zero, i.size, i.bytes)) = some (some (.int .u8 0), 1, 1) := by kernel_rfl

set_option maxHeartbeats 1000000 in
set_option maxRecDepth 100000 in
theorem copyCheck_used (b : Nat) (w : World) (h0 : w.cell? ⟨b, 0, none⟩ = some (.pointer (some ⟨b, 0, none⟩))) :
    Calls Try.prog 69 #[.pointer (some ⟨b, 0, none⟩)] w fun e w' => e = .returned (.tuple #[]) ∧ w' = w := by
  obtain ⟨j, hj, _⟩ := Option.map_eq_some_iff.1 Try.size68
  go_enter Try.func69, Try.ntmps69
  go_wp2
  rw [Lib.run_neq_ptr_same w _ Try.underlying66 hj]
  go_wp2
  go_end0
  exact ⟨rfl, rfl⟩

set_option maxHeartbeats 1000000 in
set_option maxRecDepth 100000 in
theorem copyCheck_fresh (b : Nat) (w : World) (h0 : w.cell? ⟨b, 0, none⟩ = some (.pointer none)) (hsh : w.shape? b = some (68, 2)) (hfz : w.frozen? ⟨b, 0, none⟩ = false) :
    Calls Try.prog 69 #[.pointer (some ⟨b, 0, none⟩)] w fun e w' => e = .returned (.tuple #[]) ∧ w' = w.setCell ⟨b, 0, none⟩ (.pointer (some ⟨b, 0, none⟩)) := by
  obtain ⟨j, hj, hjs⟩ := Option.map_eq_some_iff.1 Try.size68
  go_enter Try.func69, Try.ntmps69
  go_wp2
  rw [Lib.run_to_unsafe w ⟨b, 0, none⟩ Try.underlying66 Try.underlying119 hj (by rw [hjs]; decide) hsh (Nat.zero_lt_succ 1)]
  simp only [Result.andThen]
  rw [Oper.upon_value]
  go_wp2
  rw [run_callFunc_extern Try.func94 (by kernel_rfl) (by kernel_rfl) (by kernel_rfl) (e := Extern.AbiNoEscape.same) (by kernel_rfl)]
  rw [Lib.run_noEscape]
  simp only [Result.andThen]
  rw [Oper.upon_value]
  go_wp2
  rw [Lib.run_from_unsafe w ⟨b, 0, none⟩ Try.underlying119 Try.underlying66 hj hsh Try.lies68]
  simp only [Result.andThen]
  rw [Oper.upon_value]
  go_wp2
  go_end0
  exact ⟨rfl, rfl⟩

theorem copyCheck_any (B b : Nat) (bs : List Value) (w : World) (h : Lib.IsBuilder 68 5 B b bs w) :
    Calls Try.prog 69 #[.pointer (some ⟨b, 0, none⟩)] w fun e w' => e = .returned (.tuple #[]) ∧ (Lib.BuilderAt 68 5 B b (.pointer (some ⟨b, 0, none⟩)) bs w' ∧ Below B w w' ∧ ∀ c, c ≠ b → w'.heap[c]? = w.heap[c]?) := by
  rcases h with h | h
  · refine (copyCheck_fresh b w h.cell0 h.shape h.frozen0).mono ?_
    rintro e w' ⟨rfl, rfl⟩
    exact ⟨rfl, h.used _, (Below.refl B w).setCell (p := ⟨b, 0, none⟩) h.1 _, fun c hc => Below.heap_setCell w ⟨b, 0, none⟩ _ c hc⟩
  · refine (copyCheck_used b w h.cell0).mono ?_
    rintro e w' ⟨rfl, rfl⟩
    exact ⟨rfl, h, Below.refl B _, fun _ _ => rfl⟩

set_option maxHeartbeats 1000000 in
set_option maxRecDepth 100000 in
theorem writeString_any (B b : Nat) (bs : List UInt8) (s : ByteArray) (w : World) (h : Lib.IsBuilder 68 5 B b (Lib.byteCells bs) w) (hlen : bs.length + s.size ≤ 140737488355328) (hBw : B ≤ w.heap.size) :
    Calls Try.prog 49 #[.pointer (some ⟨b, 0, none⟩), .string s] w fun e w' => ∃ k : Int, e = .returned (.tuple #[.int .i64 k, .nilIface]) ∧ Hid (Lib.IsBuilder 68 5 B b (Lib.byteCells (bs ++ s.data.toList)) w') ∧ Hid (Below B w w') ∧ Hid (∀ (c : Nat) cs T fr, c ≠ b → w.heap[c]? = some (.cells cs T fr) → T ≠ 5 → w'.heap[c]? = w.heap[c]?) := by
  obtain ⟨i0, hi, hz0, hz1, hz2⟩ := info_parts Try.info5'
  have hbl : (Lib.byteCells bs).length = bs.length := Lib.byteCells_length bs
  go_enter Try.func49, Try.ntmps49
  go_wp2_with (go_at_call 69; refine (copyCheck_any B b (Lib.byteCells bs) _ h).mono ?_)
  rintro e w1 ⟨rfl, h1, hb1, hkc⟩
  obtain ⟨hB, v, hbk, hown, hne⟩ := h1
  have HKC : Hid (∀ c, c ≠ b → w1.heap[c]? = w.heap[c]?) := hkc
  clear hkc
  have c0 : w1.cell? ⟨b, 0, none⟩ = some (.pointer (some ⟨b, 0, none⟩)) := by rw [Lib.cell_of_heap hbk]; rfl
  have c1 : w1.cell? ⟨b, 1, none⟩ = some v := by rw [Lib.cell_of_heap hbk]; rfl
  go_wp2_with (at_builtin; refine Lib.wpList_append_own_string _ rfl _ _ 65 9 rfl B 5 i0 Try.underlying65 Try.underlying9 hi hz0 hz1 hz2 _ _ _ rfl hown s rfl ?c3 ?c4 ?c5 ?_)
  case c3 => unfold maxLen; omega
  case c4 => omega
  case c5 => have := hb1.size; omega
  intro v' w2 hown' hgrow _
  have hlt : b < w1.heap.size := (Array.getElem?_eq_some_iff.1 hbk).1
  have hb2 : w2.heap[b]? = some (.cells #[.pointer (some ⟨b, 0, none⟩), v] 68 (0, 0)) := by
    rw [hgrow.block b hlt (fun e => hne e.symm)]
    exact hbk
  have d0 : w2.cell? ⟨b, 0, none⟩ = some (.pointer (some ⟨b, 0, none⟩)) := by rw [Lib.cell_of_heap hb2]; rfl
  have d1 : w2.cell? ⟨b, 1, none⟩ = some v := by rw [Lib.cell_of_heap hb2]; rfl
  have f1 : w2.frozen? ⟨b, 1, none⟩ = false := Lib.frozen_of_heap hb2 1
  obtain ⟨ao, n', cap, rfl⟩ : ∃ ao n' cap, v' = .slice ao n' cap := by
    rcases hown'.2 with ⟨hv, _⟩ | ⟨g, cap, cur, hv, _⟩
    · exact ⟨_, _, _, hv⟩
    · exact ⟨_, _, _, hv⟩
  go_wp2
  go_ret2
  refine ⟨_, rfl, .inr ?_, ?_, ?_⟩
  · have e : Lib.byteCells (bs ++ s.data.toList) = Lib.byteCells bs ++ Lib.strCells s := by simp [Lib.byteCells, Lib.strCells]
    rw [e]
    exact Lib.BuilderAt.put (T := 68) (e := 5) hB hb2 (bs' := Lib.byteCells bs ++ Lib.strCells s) (by simpa [Lib.strCells_length, hbl] using hown') (by decide)
  · exact (hb1.grown hgrow (by have := hb1.size; omega) (fun k hk => (hown.lt k hk).1)).setCell (p := ⟨b, 1, none⟩) hB _
  · intro c cs T fr hcb hc hT
    have hc1 : w1.heap[c]? = some (.cells cs T fr) := by rw [HKC.out c hcb]; exact hc
    rw [Below.heap_setCell w2 ⟨b, 1, none⟩ _ c hcb, hgrow.block c (Array.getElem?_eq_some_iff.1 hc1).1 ?_, HKC.out c hcb]
    intro e
    rcases hown.2 with ⟨hv, _⟩ | ⟨g, cap', cur, hv, _, hg, _⟩
    · rw [hv] at e; simp [Value.ownBlock] at e
    · rw [hv] at e
      simp [Value.ownBlock] at e
      subst e
      rw [hc1] at hg
      simp at hg
      exact hT hg.2.1

/-- the bytes of a number -/
def vb (x : Int) : List UInt8 := sp.varB 9 x.toNat
/-- the bytes of numbers, one behind the other -/
def vt (l : List Int) : List UInt8 := l.flatMap vb
theorem varB_le (f n : Nat) : (sp.varB f n).length ≤ f + 1 := by
  induction f generalizing n with
  | zero => simp [sp.varB]
  | succ f ih =>
    by_cases h : 127 < n
    · rw [sp.varB_big _ _ h]; have := ih (n / 128); simp; omega
    · rw [sp.varB_small _ _ (by omega)]; simp
theorem vt_le (l : List Int) : (vt l).length ≤ 10 * l.length := by
  induction l with
  | nil => simp [vt]
  | cons x xs ih =>
    have h1 : vt (x :: xs) = vb x ++ vt xs := by simp [vt]
    have h2 : (vb x).length ≤ 10 := varB_le 9 x.toNat
    rw [h1, List.length_append, List.length_cons]
    omega
theorem vt_snoc (l : List Int) (x : Int) : vt (l ++ [x]) = vt l ++ vb x := by simp [vt]
theorem take_snocI (l : List Int) {k : Nat} (h : k < l.length) : l.take (k + 1) = l.take k ++ [l.getD k 0] := by
  rw [List.take_add_one]; simp [List.getD, h]

theorem varText_int (x : Int) (w : World) (h0 : 0 ≤ x) (h1 : x ≤ 1000000000) :
    Calls Try.prog 70 #[.int .i64 x] w fun e w' => ∃ t : ByteArray, e = .returned (.tuple #[.string t, .bool true]) ∧ Hid (t.data.toList = vb x) ∧ Hid (Below w.heap.size w w') := by
  obtain ⟨n, rfl⟩ := Int.eq_ofNat_of_zero_le h0
  refine (sp.VarText_yes n w (by omega)).mono ?_
  rintro e w' ⟨rfl, hb⟩
  exact ⟨_, rfl, by simp [vb, Hid], hb⟩

theorem builder_new (w : World) : Lib.IsBuilder 68 5 w.heap.size w.heap.size (Lib.byteCells []) (w.alloc (.cells #[.pointer none, .slice none 0 0] 68)) := by
  refine .inl ⟨Nat.le_refl _, .slice none 0 0, ?_, World.ownsRow_nil _ _ _ _, by simp [Value.ownBlock]⟩
  show (w.heap.push _)[w.heap.size]? = _
  simp
theorem builder_below {B b : Nat} {bs : List Value} {w w' : World} (h : Lib.IsBuilder 68 5 B b bs w) (hb : Below w.heap.size w w') : Lib.IsBuilder 68 5 B b bs w' := by
  have go : ∀ {p : Value}, Lib.BuilderAt 68 5 B b p bs w → Lib.BuilderAt 68 5 B b p bs w' := by
    rintro p ⟨h1, v, h2, h3, h4⟩
    refine ⟨h1, v, by rw [hb.block b (Array.getElem?_eq_some_iff.1 h2).1]; exact h2, ⟨h3.1, ?_⟩, h4⟩
    rcases h3.2 with hn | ⟨g, cap, cur, e, hg, hh, r⟩
    · exact .inl hn
    · exact .inr ⟨g, cap, cur, e, hg, by rw [hb.block g (Array.getElem?_eq_some_iff.1 hh).1]; exact hh, r⟩
  exact h.imp go go

set_option maxHeartbeats 1000000 in
set_option maxRecDepth 100000 in
theorem varTexts_any (lo hi : Nat) (a : Option Addr) (n cap : Nat) (l : List Int) (w : World) (ha : RowIn lo hi w a l) (hh : hi ≤ w.heap.size) (hn : l.length = n) (hm : n ≤ 1048576) (hq : ∀ i, i < n → 0 ≤ l.getD i 0 ∧ l.getD i 0 ≤ 1000000000) :
    Calls Try.prog 50 #[.slice a n cap] w fun e w' => ∃ t : ByteArray, e = .returned (.string t) ∧ Hid (t.data.toList = vt l) ∧ Hid (Below w.heap.size w w') := by
  have HN : Hid (l.length = n) := hn
  have HA : Hid (RowIn lo hi w a l) := ha
  have HH : Hid (hi ≤ w.heap.size) := hh
  have HQ : Hid (∀ i, i < n → 0 ≤ l.getD i 0 ∧ l.getD i 0 ≤ 1000000000) := hq
  clear ha hh hn hq
  go_enter Try.func50, Try.ntmps50
  go_wp2
  go_loopw [11] (fun i wr => ∃ k : Nat, i = .int .i64 k ∧ k ≤ n ∧ Hid (Lib.IsBuilder 68 5 w.heap.size w.heap.size (Lib.byteCells (vt (l.take k))) wr) ∧ Hid (Below w.heap.size w wr)) (fun i _ => n - (intOf i).toNat)
  case atStart => exact ⟨0, rfl, by omega, builder_new w, (Below.refl _ _).alloc (Nat.le_refl _) _⟩
  case round =>
    obtain ⟨k, rfl, hk, HI, HL⟩ := hrel
    by_cases hlt : k < n
    · have hlt1 : (k : Int) < (n : Int) := by omega
      obtain ⟨b, o, rfl, _, hbh, hc⟩ : ∃ b o, a = some ⟨b, o, none⟩ ∧ lo ≤ b ∧ b < hi ∧ ∀ i, i < l.length → w.cell? ⟨b, o + i, none⟩ = some (.int .i64 (l.getD i 0)) := by
        rcases HA.out with rfl | h
        · exact absurd HN.out (by simp; omega)
        · exact h
      have hca := cell_below (hc k (by rw [HN.out]; exact hlt)) HL.out (by have := HH.out; omega)
      obtain ⟨x, hx⟩ : ∃ x, x = l.getD k 0 := ⟨_, rfl⟩
      rw [← hx] at hca
      have HX : Hid (x = l.getD k 0) := hx
      have hxq := HQ.out k hlt
      rw [← hx] at hxq
      obtain ⟨hx0, hx1⟩ := hxq
      clear hc hbh hx
      go_wp2_with fail
      refine (varText_int x wr hx0 hx1).mono ?_
      rintro e w1 ⟨t, rfl, HT, B1⟩
      have HI1 : Hid (Lib.IsBuilder 68 5 w.heap.size w.heap.size (Lib.byteCells (vt (l.take k))) w1) := builder_below HI.out B1.out
      have HB1 : Hid (Below w.heap.size w w1) := HL.out.trans (B1.out.mono HL.out.size)
      have HLN : Hid ((vt (l.take k)).length + t.size ≤ 140737488355328) := by
        have h1 := vt_le (l.take k)
        have h2 : t.size ≤ 10 := by
          have := congrArg List.length HT.out
          simp only [Array.length_toList] at this
          have h3 : (vb x).length ≤ 10 := varB_le 9 x.toNat
          have h4 : t.size = t.data.size := rfl
          omega
        rw [List.length_take] at h1
        show _ ≤ _
        omega
      clear B1 hca
      go_wp2_with fail
      refine (writeString_any w.heap.size w.heap.size (vt (l.take k)) t w1 HI1.out HLN.out HB1.out.size).mono ?_
      rintro e w2 ⟨kk, rfl, HI2, B2, _⟩
      go_wp2
      go_roundw
      case rel =>
        refine ⟨k + 1, by go_num, by omega, ?_, HB1.out.trans B2.out⟩
        rw [take_snocI l (by rw [HN.out]; exact hlt), vt_snoc, ← HX.out, ← HT.out]
        exact HI2.out
      case measure => simp [intOf]; omega
    · have HI1 : Hid (Lib.IsBuilder 68 5 w.heap.size w.heap.size (Lib.byteCells (vt l)) wr) := by
        have h := HI.out
        rw [List.take_of_length_le (by rw [HN.out]; omega)] at h
        exact h
      go_wp2_with fail
      refine (Try.Builder_String_any w.heap.size w.heap.size (vt l) wr HI1.out HL.out.size).mono ?_
      rintro e w1 ⟨rfl, hb1⟩
      go_wp2
      go_ret
      exact ⟨_, rfl, by simp [Hid], HL.out.trans hb1⟩
end Go.Proofs.Ytfeimdlkpiacoaa
