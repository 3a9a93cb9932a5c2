/-
  The model's cursor over the bytes of a draw: what a step of it does to memory, and within which bounds it answers.
-/
import Derived.Test.YtelikebpddhncaaCur
import Derived.Laws.Bits128
namespace Go.Proofs.Ytelikebpddhncaa
open Go.RowKit

theorem and255 (n : Int) : bits .and .i64 n 255 = n % 256 := by
  have key : (BitVec.ofInt 64 n &&& BitVec.ofInt 64 255).toNat = (n % 256).toNat := by
    rw [BitVec.toNat_and, show (BitVec.ofInt 64 255).toNat = 2 ^ 8 - 1 by decide, Nat.and_two_pow_sub_one_eq_mod, BitVec.toNat_ofInt]
    omega
  show IntKind.i64.wrap ((BitVec.ofInt 64 n &&& BitVec.ofInt 64 255).toNat : Nat) = n % 256
  rw [key, IntKind.wrap_i64]
  omega
theorem andM (n : Int) : bits .and .i64 n 1073741823 = n % 1073741824 := by
  have key : (BitVec.ofInt 64 n &&& BitVec.ofInt 64 1073741823).toNat = (n % 1073741824).toNat := by
    rw [BitVec.toNat_and, show (BitVec.ofInt 64 1073741823).toNat = 2 ^ 30 - 1 by decide, Nat.and_two_pow_sub_one_eq_mod, BitVec.toNat_ofInt]
    omega
  show IntKind.i64.wrap ((BitVec.ofInt 64 n &&& BitVec.ofInt 64 1073741823).toNat : Nat) = n % 1073741824
  rw [key, IntKind.wrap_i64]
  omega

/-- the bytes of a draw, n of them: nothing, or cells of a block that is not p -/
def CodeAt (w : World) (p : Nat) (ao : Option Addr) (n : Nat) : Prop :=
  n = 0 ∨ ∃ b off, ao = some ⟨b, off, none⟩ ∧ b ≠ p ∧ b < w.heap.size ∧ ∀ k, k < n → ∃ z : Int, 0 ≤ z ∧ z ≤ 255 ∧ w.cell? ⟨b, off + k, none⟩ = some (.int .u8 z)

/-- the cursor in block p -/
structure CurAt (w : World) (p : Nat) (ao : Option Addr) (n cap i : Nat) (h : Int) : Prop where
  blk : w.heap[p]? = some (.cells #[.slice ao n cap, .int .i64 (i : Int), .int .i64 h] 117 (0, 0))
  le : i ≤ n
  small : n ≤ 1048576
  code : CodeAt w p ao n

theorem CurAt.lt {w : World} {p n cap i : Nat} {ao : Option Addr} {h : Int} (c : CurAt w p ao n cap i h) : p < w.heap.size := by
  have hb := c.blk
  rcases Nat.lt_or_ge p w.heap.size with h1 | h1
  · exact h1
  · rw [Array.getElem?_eq_none h1] at hb; cases hb

theorem CodeAt.keep {w w' : World} {p n : Nat} {ao : Option Addr} (h : CodeAt w p ao n) (hk : KeptBut p w w') : CodeAt w' p ao n := by
  rcases h with h | ⟨b, off, e, hb, hs, hz⟩
  · exact .inl h
  · refine .inr ⟨b, off, e, hb, Nat.lt_of_lt_of_le hs hk.size, fun k hk' => ?_⟩
    obtain ⟨z, h0, h1, hc⟩ := hz k hk'
    exact ⟨z, h0, h1, (World.cell?_of_block (a := ⟨b, off + k, none⟩) (hk.block b hs hb)).trans hc⟩
theorem KeptBut.drews {g : Nat} {w w1 : World} (h : KeptBut g w w1) (q : Nat) : KeptBut g w (w1.drewN q) := ⟨h.os, h.tape, h.output, h.size, h.block⟩
theorem CurAt.drews {w : World} {p n cap i : Nat} {ao : Option Addr} {h : Int} (c : CurAt w p ao n cap i h) (q : Nat) : CurAt (w.drewN q) p ao n cap i h := ⟨c.blk, c.le, c.small, c.code⟩
theorem CurAt.put2 {w : World} {p n cap i : Nat} {ao : Option Addr} {h : Int} (c : CurAt w p ao n cap i h) (x : Int) : CurAt (w.setCell ⟨p, 2, none⟩ (.int .i64 x)) p ao n cap i x :=
  ⟨heap_setCell_same w p 2 _ 117 _ c.blk, c.le, c.small, c.code.keep ((KeptBut.refl p w).setCell _)⟩
theorem CurAt.put1 {w : World} {p n cap i : Nat} {ao : Option Addr} {h : Int} (c : CurAt w p ao n cap i h) (hlt : i < n) : CurAt (w.setCell ⟨p, 1, none⟩ (.int .i64 ((i : Int) + 1))) p ao n cap (i + 1) h :=
  ⟨heap_setCell_same w p 1 _ 117 _ c.blk, by omega, c.small, c.code.keep ((KeptBut.refl p w).setCell _)⟩

set_option maxHeartbeats 1000000 in
set_option maxRecDepth 100000 in
theorem byte_any (w : World) (p n cap i : Nat) (ao : Option Addr) (h : Int) (hc : CurAt w p ao n cap i h) :
    Calls Try.prog 72 #[.pointer (some ⟨p, 0, none⟩)] w fun e w' => ∃ x : Int, e = .returned (.int .i64 x) ∧ 0 ≤ x ∧ x ≤ 255 ∧ (∃ i' h', CurAt w' p ao n cap i' h') ∧ KeptBut p w w' := by
  have c0 : w.cell? ⟨p, 0, none⟩ = some (.slice ao n cap) := by rw [cell_of_row w p 0 _ 117 (0, 0) hc.blk]; rfl
  have c1 : w.cell? ⟨p, 1, none⟩ = some (.int .i64 (i : Int)) := by rw [cell_of_row w p 1 _ 117 (0, 0) hc.blk]; rfl
  have c2 : w.cell? ⟨p, 2, none⟩ = some (.int .i64 h) := by rw [cell_of_row w p 2 _ 117 (0, 0) hc.blk]; rfl
  have f1 : w.frozen? ⟨p, 1, none⟩ = false := frozen_of_row w p 1 _ 117 hc.blk
  have f2 : w.frozen? ⟨p, 2, none⟩ = false := frozen_of_row w p 2 _ 117 hc.blk
  have HC : Hid (CurAt w p ao n cap i h) := hc
  have hle := hc.le
  have hsm := hc.small
  have hand := and255
  clear hc
  by_cases hlt : i < n
  · have hlt1 : (i : Int) < (n : Int) := by omega
    rcases HC.out.code with h0 | ⟨b, off, rfl, hbp, hbs, hz⟩
    · omega
    · obtain ⟨z, hz0, hz1, hcell⟩ := hz i hlt
      clear hz
      go_enter Try.func72, Try.ntmps72
      go_wp2
      go_quiet (fail)
      go_wp2
      go_quiet (fail)
      go_wp2
      go_quiet (fail)
      go_wp2
      go_ret
      exact ⟨_, rfl, by omega, by omega, ⟨_, _, ((HC.out.put2 _).drews _).put1 hlt⟩, (((KeptBut.refl p w).setCell _).drews _).setCell _⟩
  · have hlt1 : ¬ (i : Int) < (n : Int) := by omega
    go_enter Try.func72, Try.ntmps72
    go_wp2
    go_quiet (fail)
    go_wp2
    go_quiet (fail)
    go_wp2
    go_ret
    exact ⟨_, rfl, by omega, by omega, ⟨_, _, ((HC.out.put2 _).drews _).drews _⟩, (((KeptBut.refl p w).setCell _).drews _).drews _⟩
end Go.Proofs.Ytelikebpddhncaa
