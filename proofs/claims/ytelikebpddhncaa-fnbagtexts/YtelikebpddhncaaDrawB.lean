/-
  Numbers that are drawn: l01Below, l01Once, l01PickInt, l01New.
-/
import Derived.Test.YtelikebpddhncaaDraw
namespace Go.Proofs.Ytelikebpddhncaa
open Go.RowKit

/-- a cursor stands in block p -/
def Cur (p : Nat) (ao : Option Addr) (n cap : Nat) (w : World) : Prop := ∃ i h, CurAt w p ao n cap i h
theorem KeptBut.trans {g : Nat} {a b c : World} (h : KeptBut g a b) (k : KeptBut g b c) : KeptBut g a c :=
  ⟨k.os.trans h.os, k.tape.trans h.tape, k.output.trans h.output, Nat.le_trans h.size k.size, fun j hj hg => (k.block j (Nat.lt_of_lt_of_le hj h.size) hg).trans (h.block j hj hg)⟩
theorem byte_cur (w : World) (p n cap : Nat) (ao : Option Addr) (hc : Cur p ao n cap w) :
    Calls Try.prog 72 #[.pointer (some ⟨p, 0, none⟩)] w fun e w' => ∃ x : Int, e = .returned (.int .i64 x) ∧ 0 ≤ x ∧ x ≤ 255 ∧ Cur p ao n cap w' ∧ KeptBut p w w' := by
  obtain ⟨i, h, hc⟩ := hc
  exact byte_any w p n cap i ao h hc

set_option maxHeartbeats 1000000 in
set_option maxRecDepth 100000 in
theorem below_cur (w : World) (p n cap : Nat) (ao : Option Addr) (m : Int) (h0 : 0 < m) (h1 : m ≤ 1000000000) (hc : Cur p ao n cap w) :
    Calls Try.prog 60 #[.pointer (some ⟨p, 0, none⟩), .int .i64 m] w fun e w' => ∃ x : Int, e = .returned (.int .i64 x) ∧ 0 ≤ x ∧ x < m ∧ Cur p ao n cap w' ∧ KeptBut p w w' := by
  have HC : Hid (Cur p ao n cap w) := hc
  have hm0 : ¬ m ≤ 0 := by omega
  have hmz : (m == 0) = false := by simp; omega
  clear hc
  by_cases hs : m ≤ 256
  · go_enter Try.func60, Try.ntmps60
    go_wp2_with fail
    refine (byte_cur _ p n cap ao HC.out).mono ?_
    rintro e w1 ⟨x, rfl, hx0, hx1, hc1, hk1⟩
    have HC1 : Hid (Cur p ao n cap w1) := hc1
    have HK1 : Hid (KeptBut p w w1) := hk1
    clear hc1 hk1
    go_wp2
    go_ret
    exact ⟨_, rfl, Int.emod_nonneg _ (by omega), Int.emod_lt_of_pos _ h0, HC1.out, HK1.out⟩
  · go_enter Try.func60, Try.ntmps60
    go_wp2_with fail
    refine (byte_cur _ p n cap ao HC.out).mono ?_
    rintro e w1 ⟨x, rfl, hx0, hx1, hc1, hk1⟩
    have HC1 : Hid (Cur p ao n cap w1) := hc1
    have HK1 : Hid (KeptBut p w w1) := hk1
    clear hc1 hk1
    go_wp2_with fail
    refine (byte_cur _ p n cap ao HC1.out).mono ?_
    rintro e w2 ⟨y, rfl, hy0, hy1, hc2, hk2⟩
    have HC2 : Hid (Cur p ao n cap w2) := hc2
    have HK2 : Hid (KeptBut p w w2) := HK1.out.trans hk2
    clear hc2 hk2
    go_wp2_with fail
    refine (byte_cur _ p n cap ao HC2.out).mono ?_
    rintro e w3 ⟨z, rfl, hz0, hz1, hc3, hk3⟩
    have HC3 : Hid (Cur p ao n cap w3) := hc3
    have HK3 : Hid (KeptBut p w w3) := HK2.out.trans hk3
    clear hc3 hk3
    go_wp2_with fail
    refine (byte_cur _ p n cap ao HC3.out).mono ?_
    rintro e w4 ⟨u, rfl, hu0, hu1, hc4, hk4⟩
    have HC4 : Hid (Cur p ao n cap w4) := hc4
    have HK4 : Hid (KeptBut p w w4) := HK3.out.trans hk4
    clear hc4 hk4
    go_wp2
    go_ret
    exact ⟨_, rfl, Int.emod_nonneg _ (by omega), Int.emod_lt_of_pos _ h0, HC4.out, HK4.out⟩

set_option maxHeartbeats 400000 in
set_option maxRecDepth 100000 in
theorem pickInt_cur (w : World) (p n cap : Nat) (ao : Option Addr) (g m c : Nat) (h0 : 0 < m) (h1 : m ≤ 1000000) (hgp : g ≠ p) (hgw : g < w.heap.size)
    (hl : ∀ k, k < m → ∃ z : Int, -9223372036854775808 ≤ z ∧ z ≤ 9223372036854775807 ∧ w.cell? ⟨g, k, none⟩ = some (.int .i64 z)) (hc : Cur p ao n cap w) :
    Calls Try.prog 98 #[.pointer (some ⟨p, 0, none⟩), .slice (some ⟨g, 0, none⟩) m c] w fun e w' => ∃ x : Int, e = .returned (.int .i64 x) ∧ -9223372036854775808 ≤ x ∧ x ≤ 9223372036854775807 ∧ Cur p ao n cap w' ∧ KeptBut p w w' := by
  have HC : Hid (Cur p ao n cap w) := hc
  have HL : Hid (∀ k, k < m → ∃ z : Int, -9223372036854775808 ≤ z ∧ z ≤ 9223372036854775807 ∧ w.cell? ⟨g, k, none⟩ = some (.int .i64 z)) := hl
  clear hc hl
  go_enter Try.func98, Try.ntmps98
  go_wp2_with fail
  refine (below_cur _ p n cap ao _ (by omega) (by omega) HC.out).mono ?_
  rintro e w1 ⟨x, rfl, hx0, hx1, hc1, hk1⟩
  obtain ⟨k, rfl⟩ := Int.eq_ofNat_of_zero_le hx0
  obtain ⟨z, hz0, hz1, hz⟩ := HL.out k (by omega)
  have hcell : w1.cell? ⟨g, k, none⟩ = some (.int .i64 z) := (World.cell?_of_block (a := ⟨g, k, none⟩) (hk1.block g hgw hgp)).trans hz
  have HC1 : Hid (Cur p ao n cap w1) := hc1
  have HK1 : Hid (KeptBut p w w1) := hk1
  clear hc1 hk1 hz
  go_wp2
  go_ret
  exact ⟨_, rfl, hz0, hz1, HC1.out, HK1.out⟩

/-- the bytes that came in -/
def CodeIn (w : World) (ao : Option Addr) (n : Nat) : Prop :=
  n = 0 ∨ ∃ b off, ao = some ⟨b, off, none⟩ ∧ b < w.heap.size ∧ ∀ k, k < n → ∃ z : Int, 0 ≤ z ∧ z ≤ 255 ∧ w.cell? ⟨b, off + k, none⟩ = some (.int .u8 z)
theorem CodeIn.below {w w' : World} {ao : Option Addr} {n : Nat} (h : CodeIn w ao n) (hb : Below w.heap.size w w') : CodeIn w' ao n := by
  rcases h with h | ⟨b, off, e, hs, hz⟩
  · exact .inl h
  · refine .inr ⟨b, off, e, Nat.lt_of_lt_of_le hs hb.size, fun k hk => ?_⟩
    obtain ⟨z, h0, h1, hc⟩ := hz k hk
    exact ⟨z, h0, h1, (hb.cell hs).trans hc⟩
theorem cur_new (w : World) (ao : Option Addr) (n cap : Nat) (h : Int) (hn : n ≤ 1048576) (hc : CodeIn w ao n) (q : Nat) :
    Cur w.heap.size ao n cap ((w.drewN q).alloc (.cells #[.slice ao n cap, .int .i64 0, .int .i64 h] 117)) := by
  refine ⟨0, h, heap_alloc_new (w.drewN q) _, by omega, hn, ?_⟩
  have hb : Below w.heap.size w ((w.drewN q).alloc (.cells #[.slice ao n cap, .int .i64 0, .int .i64 h] 117)) := (below_drewN (Below.refl _ w) q).alloc (Nat.le_refl _) _
  rcases hc with h | ⟨b, off, e, hs, hz⟩
  · exact .inl h
  · refine .inr ⟨b, off, e, by omega, Nat.lt_of_lt_of_le hs hb.size, fun k hk => ?_⟩
    obtain ⟨z, h0, h1, hcc⟩ := hz k hk
    exact ⟨z, h0, h1, (hb.cell hs).trans hcc⟩

set_option maxHeartbeats 1000000 in
set_option maxRecDepth 100000 in
theorem new_any (w : World) (ao : Option Addr) (n cap : Nat) (hn : n ≤ 1048576) (hc : CodeIn w ao n) :
    Calls Try.prog 59 #[.slice ao n cap] w fun e w' => e = .returned (.pointer (some ⟨w.heap.size, 0, none⟩)) ∧ Cur w.heap.size ao n cap w' ∧ Below w.heap.size w w' := by
  have HC : Hid (CodeIn w ao n) := hc
  have hand := andM
  clear hc
  go_enter Try.func59, Try.ntmps59
  go_wp2
  go_loop [3, 4] (fun h i => ∃ (x : Int) (k : Nat), h = .int .i64 x ∧ i = .int .i64 k ∧ k ≤ n) (fun _ i => n - (intOf i).toNat)
  case atStart => exact ⟨_, 0, rfl, rfl, by omega⟩
  case round =>
    obtain ⟨x, k, rfl, rfl, hk⟩ := hrel
    by_cases hlt : k < n ∧ k < 4000
    · obtain ⟨hl1, hl2⟩ := hlt
      have hlt1 : (k : Int) < (n : Int) := by omega
      have hlt2 : (k : Int) < 4000 := by omega
      rcases HC.out with h0 | ⟨b, off, rfl, hbs, hz⟩
      · omega
      · obtain ⟨z, hz0, hz1, hcell⟩ := hz k hl1
        clear hz
        go_wp2
        go_round
        case rel => exact ⟨_, k + 1, rfl, by go_num, by omega⟩
        case measure => simp [intOf]; omega
    · by_cases hl1 : k < n
      · have hl2 : ¬ (k : Int) < 4000 := by omega
        clear hand
        go_wp2
        go_ret
        exact ⟨rfl, cur_new w ao n cap x hn HC.out 0, (Below.refl _ _).alloc (Nat.le_refl _) _⟩
      · clear hand
        go_wp2
        go_ret
        exact ⟨rfl, cur_new w ao n cap x hn HC.out 0, (Below.refl _ _).alloc (Nat.le_refl _) _⟩
end Go.Proofs.Ytelikebpddhncaa
