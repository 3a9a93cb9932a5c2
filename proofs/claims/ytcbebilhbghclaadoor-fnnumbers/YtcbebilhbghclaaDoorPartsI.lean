/-
  impl.PartsOf.
-/
import Derived.Test.YtcbebilhbghclaaDoorPartsS
namespace Go.Proofs.YtcbebilhbghclaaDoor
open Go.RowKit

/-- each byte is one that a line may have -/
def AllOk (s : ByteArray) : Prop := ∀ c ∈ s.data.toList, okB c

theorem shown_more (s : ByteArray) (i : Nat) (hlt : i < s.size) (h : ∀ c ∈ s.data.toList.take i, okB c) (hc : okB s[i]) : ∀ c ∈ s.data.toList.take (i + 1), okB c := by
  have hl : i < s.data.toList.length := by have : s.data.size = s.size := rfl; simp; omega
  rw [List.take_succ_eq_append_getElem hl]
  intro c hc'
  rcases List.mem_append.1 hc' with hc' | hc'
  · exact h c hc'
  · simp at hc'; subst hc'; exact hc

set_option maxHeartbeats 1000000 in
set_option maxRecDepth 100000 in
theorem shown_any (s : ByteArray) (w : World) (hs : s.size ≤ 600) :
    Calls Tryd.prog 35 #[.string s] w fun e w' => w = w' ∧ ((AllOk s ∧ e = .returned (.bool true)) ∨ (¬ isLine s ∧ e = .returned (.bool false))) := by
  go_enter Tryd.func35, Tryd.ntmps35
  go_wp2
  go_loop [3] (fun p => ∃ k : Nat, p = .int .i64 k ∧ k ≤ s.size ∧ ∀ c ∈ s.data.toList.take k, okB c) (fun p => s.size - (intOf p).toNat)
  case atStart => exact ⟨0, rfl, by omega, by simp⟩
  case round =>
    obtain ⟨k, rfl, hle, hall⟩ := hrel
    have HA : Hid (∀ c ∈ s.data.toList.take k, okB c) := hall
    clear hall
    by_cases hlt : k < s.size
    · have hlt1 : (k : Int) < (s.size : Int) := by omega
      have hc : (s[k].toNat : Int) < 256 := by have := s[k].toNat_lt; omega
      by_cases h1 : (s[k].toNat : Int) < 32
      · have HN : Hid (¬ isLine s) := not_line s k hlt (by unfold okB; omega)
        go_wp2
        go_ret
        exact ⟨rfl, .inr ⟨HN.out, rfl⟩⟩
      · by_cases h2 : (126 : Int) < (s[k].toNat : Int)
        · have HN : Hid (¬ isLine s) := not_line s k hlt (by unfold okB; omega)
          go_wp2
          go_ret
          exact ⟨rfl, .inr ⟨HN.out, rfl⟩⟩
        · have HC : Hid (okB s[k]) := ⟨by omega, by omega⟩
          go_wp2
          go_round
          case rel => exact ⟨k + 1, by go_num, by omega, shown_more s k hlt HA.out HC.out⟩
          case measure => simp [intOf]; omega
    · have HD : Hid (AllOk s) := by
        have := HA.out
        rw [List.take_of_length_le (by have : s.data.size = s.size := rfl; simp; omega)] at this
        exact this
      go_wp2
      go_ret
      exact ⟨rfl, .inl ⟨HD.out, rfl⟩⟩

set_option maxHeartbeats 400000 in
theorem newText_any (s : ByteArray) (w : World) (hs : s.size ≤ 281474976710656) :
    Calls Tryd.prog 33 #[.string s] w fun e w' => e = .returned (.string s) ∧ Below w.heap.size w w' := by
  go_enter Tryd.func33, Tryd.ntmps33
  go_wp2_with (first | (go_at_call 45; refine (Tryd.stringslite_Clone _ _ hs).mono ?_; rintro e w1 ⟨rfl, hb1⟩) | go_in)
  go_ret
  exact ⟨rfl, hb1⟩

theorem fields_few (s : ByteArray) (hs : s.size ≤ 600) : (Lib.fields s.data.toList).length ≤ 601 := by
  have h : ∀ (l cur : List UInt8), (Lib.fieldsGo cur l).length ≤ l.length + 1 := by
    intro l
    induction l with
    | nil => intro cur; cases cur <;> simp [Lib.fieldsGo]
    | cons b l ih =>
      intro cur
      unfold Lib.fieldsGo
      split
      · split
        · have := ih []; simp; omega
        · have := ih []; simp; omega
      · have := ih (cur ++ [b]); simp; omega
  have := h s.data.toList []
  have e : s.data.size = s.size := rfl
  simp at this
  unfold Lib.fields
  omega
/-- the world behind strings.Fields -/
theorem fields_own (s : ByteArray) (w : World) (h : (partsL s).length ≤ maxLen) : (w.alloc (.cells ((Lib.fields s.data.toList).map fun l => Value.string ⟨l.toArray⟩).toArray 9)).ownsRow w.heap.size 9 1 (.slice (some ⟨w.heap.size, 0, none⟩) (partsL s).length (partsL s).length) (partsL s).length ((partsL s).map tv) := by
  have e : ((Lib.fields s.data.toList).map fun l => Value.string ⟨l.toArray⟩) = (partsL s).map tv := by simp [partsL, tv, tx]
  rw [e]
  have := World.ownsRow_lit (base := w.heap.size) (e := 9) (size := 1) w ((partsL s).map tv).toArray (partsL s).length (Nat.le_refl _) h (by simp)
  simpa using this
theorem field_len : ∀ (l cur : List UInt8), ∀ x ∈ Lib.fieldsGo cur l, x.length ≤ cur.length + l.length
  | [], cur => by
    intro x hx
    cases cur with
    | nil => simp [Lib.fieldsGo] at hx
    | cons a b => simp [Lib.fieldsGo] at hx; subst hx; simp
  | b :: l, cur => by
    intro x hx
    unfold Lib.fieldsGo at hx
    split at hx
    · split at hx
      · have := field_len l [] x hx; simp at this ⊢; omega
      · rcases List.mem_cons.1 hx with rfl | hx
        · simp
        · have := field_len l [] x hx; simp at this ⊢; omega
    · have := field_len l (cur ++ [b]) x hx; simp at this ⊢; omega
theorem part_size (s : ByteArray) (t : ByteArray) (k : Nat) (h : (partsL s)[k]? = some t) : t.size ≤ s.size := by
  have hm := List.mem_of_getElem? h
  unfold partsL at hm
  obtain ⟨x, hx, rfl⟩ := List.mem_map.1 hm
  have := field_len s.data.toList [] x hx
  have e : s.data.size = s.size := rfl
  have e2 : (tx x).size = x.length := by simp [tx, ByteArray.size]
  simp at this
  omega
theorem set_same {l : List ByteArray} {k : Nat} {t : ByteArray} (h : l[k]? = some t) : (l.map tv).set k (tv t) = l.map tv := by
  rw [← List.map_set]
  congr 1
  apply List.ext_getElem?
  intro i
  rw [List.getElem?_set]
  split
  · rename_i e; subst e
    split
    · exact h.symm
    · rename_i hl; rw [List.getElem?_eq_none (by omega)] at h; cases h
  · rfl

set_option maxHeartbeats 1000000 in
set_option maxRecDepth 100000 in
theorem Parts_any (s : ByteArray) (w : World) (hs : s.size ≤ 600) (ht : Lib.TabIs Tryd.prog w "strings.asciiSpace" .u8 Lib.asciiSpaceTab) :
    Calls Tryd.prog 21 #[.string s] w fun e w' => PartsPost s w e w' := by
  have HT : Hid (Lib.TabIs Tryd.prog w "strings.asciiSpace" .u8 Lib.asciiSpaceTab) := ht
  clear ht
  go_enter Tryd.func21, Tryd.ntmps21
  go_wp2_with fail
  refine (shown_any s _ hs).mono ?_
  rintro e w1 ⟨rfl, ⟨hall, rfl⟩ | ⟨hn, rfl⟩⟩
  · have HA : Hid (AllOk s) := hall
    have HL : Hid (isLine s ↔ (partsL s).length ≤ 10) := ⟨fun h => by have := h.few; simpa [partsL] using this, fun h => ⟨hs, HA.out, by simpa [partsL] using h⟩⟩
    clear hall
    go_wp2_with fail
    refine (Tryd.strings_Fields_laid s _ (by omega) (fun j b hj => by have := HA.out b (List.mem_of_getElem? hj); unfold okB at this; omega) HT.out).mono ?_
    rintro e w1 ⟨rfl, hw1⟩
    have hlen : (Lib.fields s.data.toList).length = (partsL s).length := by simp [partsL]
    have hfew : (partsL s).length ≤ 601 := by rw [← hlen]; exact fields_few s hs
    have hown0 := fields_own s w (by unfold maxLen; omega)
    rw [← hw1] at hown0
    have HB0 : Hid (Below w.heap.size w w1) := by rw [hw1]; exact (Below.refl _ _).alloc (Nat.le_refl _) _
    have HO0 : Hid (w1.ownsRow w.heap.size 9 1 (.slice (some ⟨w.heap.size, 0, none⟩) (partsL s).length (partsL s).length) (partsL s).length ((partsL s).map tv)) := hown0
    rw [hlen]
    clear hw1 hlen hown0
    obtain ⟨N, hN⟩ : ∃ N, N = (partsL s).length := ⟨_, rfl⟩
    rw [← hN] at HL hfew HO0 ⊢
    have HN : Hid (N = (partsL s).length) := hN
    clear hN
    by_cases h10 : (10 : Int) < (N : Int)
    · go_wp2
      go_ret2
      exact ⟨.inr ⟨fun h => by have := HL.out.1 h; omega, _, rfl, World.ownsRow_nil _ _ _ _⟩, HB0.out⟩
    · go_wp2
      go_loopw [22] (fun i wr => ∃ k : Nat, i = .int .i64 k ∧ k ≤ N ∧ wr.ownsRow w.heap.size 9 1 (.slice (some ⟨w.heap.size, 0, none⟩) N N) N ((partsL s).map tv) ∧ Below w.heap.size w wr) (fun i _ => N - (intOf i).toNat)
      case atStart => exact ⟨0, rfl, by omega, HO0.out, HB0.out⟩
      case round =>
        obtain ⟨k, rfl, hk, hown, hbel⟩ := hrel
        by_cases hlt : k < N
        · have hlt1 : (k : Int) < (N : Int) := by omega
          obtain ⟨t, ht, hcell⟩ := own_cells hown k hlt
          have HO : Hid (wr.ownsRow w.heap.size 9 1 (.slice (some ⟨w.heap.size, 0, none⟩) N N) N ((partsL s).map tv)) := hown
          have HB : Hid (Below w.heap.size w wr) := hbel
          have HS : Hid (t.size ≤ s.size) := part_size s t k ht
          have HT2 : Hid ((partsL s)[k]? = some t) := ht
          clear hown hbel ht
          go_wp2_with fail
          refine (newText_any _ _ (by have := HS.out; omega)).mono ?_
          rintro e w2 ⟨rfl, hb2⟩
          have hown2 := own_below HO.out hb2
          obtain ⟨t2, _, hcell2⟩ := own_cells hown2 k hlt
          have hfr := hown2.frozenAt k
          have HO2 : Hid (w2.ownsRow w.heap.size 9 1 (.slice (some ⟨w.heap.size, 0, none⟩) N N) N ((partsL s).map tv)) := hown2
          have HB2 : Hid (Below wr.heap.size wr w2) := hb2
          clear hown2 hb2
          go_wp2
          go_roundw
          case rel => exact ⟨k + 1, by go_num, by omega, by have := (HO2.out.stored k (tv t)).1; rw [set_same HT2.out] at this; exact this, (HB.out.trans (HB2.out.mono HB.out.size)).setCell (Nat.le_refl _) _⟩
          case measure => simp [intOf]; omega
        · go_wp2
          go_ret2
          exact ⟨.inl ⟨HL.out.2 (by omega), _, rfl, by rw [← HN.out]; exact hown⟩, hbel⟩
  · have HN : Hid (¬ isLine s) := hn
    clear hn
    go_wp2
    go_ret2
    exact ⟨.inr ⟨HN.out, _, rfl, World.ownsRow_nil _ _ _ _⟩, Below.refl _ _⟩
end Go.Proofs.YtcbebilhbghclaaDoor
