/-
  Long texts that are drawn: l01Long; DrawHex.
-/
import Derived.Test.YtcbebilhbghclaaDoorDrawD
namespace Go.Proofs.YtcbebilhbghclaaDoor
open Go.RowKit

/-- at the head of each round of l01Long -/
structure LAt (w : World) (m : Nat) (wr : World) : Prop where
  own : ∃ l : List UInt8, l.length = m ∧ wr.ownsRow w.heap.size 5 1 (.slice (some ⟨w.heap.size, 0, none⟩) m m) m (l.map bv)
  bel : Below w.heap.size w wr
theorem own_byte {w : World} {B g cap n : Nat} {l : List UInt8} (h : w.ownsRow B 5 1 (.slice (some ⟨g, 0, none⟩) n cap) n (l.map bv)) (k : Nat) (hk : k < n) : ∃ c : UInt8, w.cell? ⟨g, k, none⟩ = some (.int .u8 (c.toNat : Int)) := by
  have hl : l.length = n := by have := h.1; simpa using this
  refine ⟨l[k], ?_⟩
  have := h.cellAt k (by omega)
  rw [this]
  simp [bv, hl, hk]
theorem LAt.put {w wr : World} {m : Nat} (h : LAt w m wr) (k : Nat) (c : UInt8) : LAt w m (wr.setCell ⟨w.heap.size, k, none⟩ (bv c)) := by
  obtain ⟨l, hl, ho⟩ := h.own
  refine ⟨⟨l.set k c, by simpa using hl, ?_⟩, h.bel.setCell (Nat.le_refl _) _⟩
  have := (ho.stored k (bv c)).1
  rw [← List.map_set] at this
  exact this
theorem zeros (m : Nat) : (madeCells (Value.int .u8 0).cells (m * 1)).toList = (List.replicate m (0 : UInt8)).map bv := by
  rw [Nat.mul_one]
  show (madeCells #[Value.int .u8 0] m).toList = _
  rw [toList_madeCells_one]
  simp [bv]

set_option maxHeartbeats 1000000 in
set_option maxRecDepth 100000 in
theorem long_any (w : World) (m : Nat) (hm : m ≤ 1000000) :
    Calls Tryd.prog 30 #[.int .i64 (m : Int), .int .u8 200] w fun e w' => ∃ t : ByteArray, e = .returned (.string t) ∧ t.size = m ∧ Below w.heap.size w w' := by
  obtain ⟨i0, hi, hz0, hz1, hz2⟩ := info_parts Tryd.info5
  go_enter Tryd.func30, Tryd.ntmps30
  go_wp2_with (at_make; refine wpList_make_full _ rfl _ _ 22 rfl w.heap.size 5 i0 (.int .u8 0) 1 Tryd.underlying22 hi hz0 hz1 .i64 .i64 (m : Int) (m : Int) m rfl rfl rfl rfl (by rw [hz2]; omega) (by unfold maxLen; omega) (Nat.le_refl _) ?_; intro w0 hown0 hgrow0)
  have hA0 : LAt w m w0 := ⟨⟨List.replicate m 0, by simp, by rw [zeros] at hown0; exact hown0⟩, (Below.refl _ _).grown hgrow0 (Nat.le_refl _) (by simp)⟩
  have HA0 : Hid (LAt w m w0) := hA0
  clear hA0 hown0 hgrow0
  go_loopw [6] (fun i wr => ∃ j : Nat, i = .int .i64 j ∧ j ≤ m ∧ LAt w m wr) (fun i _ => m - (intOf i).toNat)
  case atStart => exact ⟨0, rfl, by omega, HA0.out⟩
  case round =>
    obtain ⟨j, rfl, hle, hL⟩ := hrel
    have HL : Hid (LAt w m wr) := hL
    by_cases hlt : j < m
    · have hlt1 : (j : Int) < (m : Int) := by omega
      obtain ⟨l, _, ho⟩ := hL.own
      obtain ⟨c, hcell⟩ := own_byte ho j hlt
      have hfr := ho.frozenAt j
      clear hL ho
      go_wp2
      go_roundw
      case rel => exact ⟨j + 1, by go_num, by omega, HL.out.put j 200⟩
      case measure => simp [intOf]; omega
    · obtain ⟨l, hl, ho⟩ := hL.own
      have hstr := run_string_any ho
      have HE : Hid (l.length = m) := hl
      clear hL ho hl
      go_wp2
      go_ret
      exact ⟨_, rfl, by simp [ByteArray.size]; exact HE.out, HL.out.bel⟩

theorem long_int (w : World) (m : Int) (h0 : 0 ≤ m) (hm : m ≤ 1000000) :
    Calls Tryd.prog 30 #[.int .i64 m, .int .u8 200] w fun e w' => ∃ t : ByteArray, e = .returned (.string t) ∧ t.size ≤ 1000000 ∧ Below w.heap.size w w' := by
  obtain ⟨k, rfl⟩ := Int.eq_ofNat_of_zero_le h0
  refine (long_any w k (by omega)).mono ?_
  rintro e w' ⟨t, he, ht, hb⟩
  exact ⟨t, he, by omega, hb⟩
theorem text_int (w : World) (p n cap : Nat) (ao : Option Addr) (m : Int) (h0 : 0 ≤ m) (hm : m ≤ 5000) (hc : Cur p ao n cap w) :
    Calls Tryd.prog 32 #[.pointer (some ⟨p, 0, none⟩), .int .i64 m] w fun e w' => ∃ t : ByteArray, e = .returned (.string t) ∧ t.size ≤ 1000000 ∧ KeptBut p w w' := by
  obtain ⟨k, rfl⟩ := Int.eq_ofNat_of_zero_le h0
  refine (text_cur w p n cap ao k (by omega) hc).mono ?_
  rintro e w' ⟨t, he, ht, _, hk⟩
  exact ⟨t, he, by omega, hk⟩

set_option maxHeartbeats 1000000 in
set_option maxRecDepth 100000 in
theorem drawHex_any (w : World) (ao : Option Addr) (n cap : Nat) (hn : n ≤ 1048576) (hc : CodeIn w ao n) :
    Calls Tryd.prog 13 #[.slice ao n cap] w fun e w' => ∃ t : ByteArray, e = .returned (.string t) ∧ t.size ≤ 1000000 ∧ Below w.heap.size w w' := by
  have HC : Hid (CodeIn w ao n) := hc
  clear hc
  go_enter Tryd.func13, Tryd.ntmps13
  go_wp2_with fail
  refine (new_any _ ao n cap hn HC.out).mono ?_
  rintro e w1 ⟨rfl, hc1, hb1⟩
  have HC1 : Hid (Cur w.heap.size ao n cap w1) := hc1
  have HB1 : Hid (Below w.heap.size w w1) := hb1
  clear hc1 hb1
  go_wp2_with fail
  refine (once_cur _ _ n cap ao 60 (by omega) (by omega) HC1.out).mono ?_
  rintro e w2 ⟨b, rfl, hc2, hk2⟩
  have HC2 : Hid (Cur w.heap.size ao n cap w2) := hc2
  have HB2 : Hid (Below w.heap.size w w2) := HB1.out.trans (hk2.to_below (Nat.le_refl _) HB1.out.size)
  clear hc2 hk2
  cases b with
  | true =>
    go_wp2_with fail
    refine (below_cur _ _ n cap ao 2 (by omega) (by omega) HC2.out).mono ?_
    rintro e w3 ⟨x, rfl, hx0, hx1, hc3, hk3⟩
    have HB3 : Hid (Below w.heap.size w w3) := HB2.out.trans (hk3.to_below (Nat.le_refl _) HB2.out.size)
    clear hc3 hk3
    go_wp2_with fail
    refine (long_int _ _ (by omega) (by omega)).mono ?_
    rintro e w4 ⟨t, rfl, ht, hb4⟩
    have HB4 : Hid (Below w.heap.size w w4) := HB3.out.trans (hb4.mono HB3.out.size)
    clear hb4
    go_wp2
    go_ret
    exact ⟨_, rfl, ht, HB4.out⟩
  | false =>
    go_wp2_with fail
    refine (below_cur _ _ n cap ao 30 (by omega) (by omega) HC2.out).mono ?_
    rintro e w3 ⟨x, rfl, hx0, hx1, hc3, hk3⟩
    have HC3 : Hid (Cur w.heap.size ao n cap w3) := hc3
    have HB3 : Hid (Below w.heap.size w w3) := HB2.out.trans (hk3.to_below (Nat.le_refl _) HB2.out.size)
    clear hc3 hk3
    go_wp2_with fail
    refine (text_int _ _ n cap ao _ (by omega) (by omega) HC3.out).mono ?_
    rintro e w4 ⟨t, rfl, ht, hk4⟩
    have HB4 : Hid (Below w.heap.size w w4) := HB3.out.trans (hk4.to_below (Nat.le_refl _) HB3.out.size)
    clear hk4
    go_wp2
    go_ret
    exact ⟨_, rfl, ht, HB4.out⟩
end Go.Proofs.YtcbebilhbghclaaDoor
