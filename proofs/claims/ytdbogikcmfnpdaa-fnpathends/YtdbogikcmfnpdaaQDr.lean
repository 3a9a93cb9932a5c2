/-
  A drawn graph: spec.l04Graph, spec.DrawGraph.
-/
import Derived.Test.YtdbogikcmfnpdaaCur
import Derived.Laws.Bits128
import Derived.ProofKit
import Derived.OpenShut
import Derived.ChangeOld
import Derived.Test.YtdbogikcmfnpdaaApp
import Derived.Test.YtdbogikcmfnpdaaGRdI
import Derived.Test.YtdbogikcmfnpdaaEdC
import Derived.Test.YtdbogikcmfnpdaaGPut
import Derived.Deep.DeepCutAuto
import Derived.Test.YtdbogikcmfnpdaaGCln
import Derived.Test.YtdbogikcmfnpdaaGOk
import Derived.Deep.RegionHeld3
/-
  The model's cursor over the bytes of a draw: what a step of it does to memory, and within which bounds it answers.
-/
namespace Go.Proofs.Ytdbogikcmfnpdaa
open Go.RowKit

theorem and255 (n : Int) : bits .and .i64 n 255 = n % 256 := by
  have key : (BitVec.ofInt 64 n &&& BitVec.ofInt 64 255).toNat = (n % 256).toNat := by
    rw [BitVec.toNat_and, show (BitVec.ofInt 64 255).toNat = 2 ^ 8 - 1 by decide, Nat.and_two_pow_sub_one_eq_mod, BitVec.toNat_ofInt]
    omega
  show IntKind.i64.wrap ((BitVec.ofInt 64 n &&& BitVec.ofInt 64 255).toNat : Nat) = n % 256
  rw [key, IntKind.wrap_i64]
  omega
theorem andM (n : Int) : bits .and .i64 n 1073741823 = n % 1073741824 := by
  have key : (BitVec.ofInt 64 n &&& BitVec.ofInt 64 1073741823).toNat = (n % 1073741824).toNat := by
    rw [BitVec.toNat_and, show (BitVec.ofInt 64 1073741823).toNat = 2 ^ 30 - 1 by decide, Nat.and_two_pow_sub_one_eq_mod, BitVec.toNat_ofInt]
    omega
  show IntKind.i64.wrap ((BitVec.ofInt 64 n &&& BitVec.ofInt 64 1073741823).toNat : Nat) = n % 1073741824
  rw [key, IntKind.wrap_i64]
  omega

/-- the bytes of a draw, n of them: nothing, or cells of a block that is not p -/
def CodeAt (w : World) (p : Nat) (ao : Option Addr) (n : Nat) : Prop :=
  n = 0 ∨ ∃ b off, ao = some ⟨b, off, none⟩ ∧ b ≠ p ∧ b < w.heap.size ∧ ∀ k, k < n → ∃ z : Int, 0 ≤ z ∧ z ≤ 255 ∧ w.cell? ⟨b, off + k, none⟩ = some (.int .u8 z)

/-- the cursor in block p -/
structure CurAt (w : World) (p : Nat) (ao : Option Addr) (n cap i : Nat) (h : Int) : Prop where
  blk : w.heap[p]? = some (.cells #[.slice ao n cap, .int .i64 (i : Int), .int .i64 h] 102 (0, 0))
  le : i ≤ n
  small : n ≤ 1048576
  code : CodeAt w p ao n

theorem CurAt.lt {w : World} {p n cap i : Nat} {ao : Option Addr} {h : Int} (c : CurAt w p ao n cap i h) : p < w.heap.size := by
  have hb := c.blk
  rcases Nat.lt_or_ge p w.heap.size with h1 | h1
  · exact h1
  · rw [Array.getElem?_eq_none h1] at hb; cases hb

theorem CodeAt.keep {w w' : World} {p n : Nat} {ao : Option Addr} (h : CodeAt w p ao n) (hk : KeptBut p w w') : CodeAt w' p ao n := by
  rcases h with h | ⟨b, off, e, hb, hs, hz⟩
  · exact .inl h
  · refine .inr ⟨b, off, e, hb, Nat.lt_of_lt_of_le hs hk.size, fun k hk' => ?_⟩
    obtain ⟨z, h0, h1, hc⟩ := hz k hk'
    exact ⟨z, h0, h1, (World.cell?_of_block (a := ⟨b, off + k, none⟩) (hk.block b hs hb)).trans hc⟩
theorem KeptBut.drews {g : Nat} {w w1 : World} (h : KeptBut g w w1) (q : Nat) : KeptBut g w (w1.drewN q) := ⟨h.os, h.tape, h.output, h.size, h.block⟩
theorem CurAt.drews {w : World} {p n cap i : Nat} {ao : Option Addr} {h : Int} (c : CurAt w p ao n cap i h) (q : Nat) : CurAt (w.drewN q) p ao n cap i h := ⟨c.blk, c.le, c.small, c.code⟩
theorem CurAt.put2 {w : World} {p n cap i : Nat} {ao : Option Addr} {h : Int} (c : CurAt w p ao n cap i h) (x : Int) : CurAt (w.setCell ⟨p, 2, none⟩ (.int .i64 x)) p ao n cap i x :=
  ⟨heap_setCell_same w p 2 _ 102 _ c.blk, c.le, c.small, c.code.keep ((KeptBut.refl p w).setCell _)⟩
theorem CurAt.put1 {w : World} {p n cap i : Nat} {ao : Option Addr} {h : Int} (c : CurAt w p ao n cap i h) (hlt : i < n) : CurAt (w.setCell ⟨p, 1, none⟩ (.int .i64 ((i : Int) + 1))) p ao n cap (i + 1) h :=
  ⟨heap_setCell_same w p 1 _ 102 _ c.blk, by omega, c.small, c.code.keep ((KeptBut.refl p w).setCell _)⟩

set_option maxHeartbeats 1000000 in
set_option maxRecDepth 100000 in
theorem byte_any (w : World) (p n cap i : Nat) (ao : Option Addr) (h : Int) (hc : CurAt w p ao n cap i h) :
    Calls Try.prog 37 #[.pointer (some ⟨p, 0, none⟩)] w fun e w' => ∃ x : Int, e = .returned (.int .i64 x) ∧ 0 ≤ x ∧ x ≤ 255 ∧ (∃ i' h', CurAt w' p ao n cap i' h') ∧ KeptBut p w w' := by
  have c0 : w.cell? ⟨p, 0, none⟩ = some (.slice ao n cap) := by rw [cell_of_row w p 0 _ 102 (0, 0) hc.blk]; rfl
  have c1 : w.cell? ⟨p, 1, none⟩ = some (.int .i64 (i : Int)) := by rw [cell_of_row w p 1 _ 102 (0, 0) hc.blk]; rfl
  have c2 : w.cell? ⟨p, 2, none⟩ = some (.int .i64 h) := by rw [cell_of_row w p 2 _ 102 (0, 0) hc.blk]; rfl
  have f1 : w.frozen? ⟨p, 1, none⟩ = false := frozen_of_row w p 1 _ 102 hc.blk
  have f2 : w.frozen? ⟨p, 2, none⟩ = false := frozen_of_row w p 2 _ 102 hc.blk
  have HC : Hid (CurAt w p ao n cap i h) := hc
  have hle := hc.le
  have hsm := hc.small
  have hand := and255
  clear hc
  by_cases hlt : i < n
  · have hlt1 : (i : Int) < (n : Int) := by omega
    rcases HC.out.code with h0 | ⟨b, off, rfl, hbp, hbs, hz⟩
    · omega
    · obtain ⟨z, hz0, hz1, hcell⟩ := hz i hlt
      clear hz
      go_enter Try.func37, Try.ntmps37
      go_wp2
      go_quiet (fail)
      go_wp2
      go_quiet (fail)
      go_wp2
      go_quiet (fail)
      go_wp2
      go_ret
      exact ⟨_, rfl, by omega, by omega, ⟨_, _, ((HC.out.put2 _).drews _).put1 hlt⟩, (((KeptBut.refl p w).setCell _).drews _).setCell _⟩
  · have hlt1 : ¬ (i : Int) < (n : Int) := by omega
    go_enter Try.func37, Try.ntmps37
    go_wp2
    go_quiet (fail)
    go_wp2
    go_quiet (fail)
    go_wp2
    go_ret
    exact ⟨_, rfl, by omega, by omega, ⟨_, _, ((HC.out.put2 _).drews _).drews _⟩, (((KeptBut.refl p w).setCell _).drews _).drews _⟩
end Go.Proofs.Ytdbogikcmfnpdaa

/-
  Numbers that are drawn: l01Below, l01Once, l01PickInt, l01New.
-/
namespace Go.Proofs.Ytdbogikcmfnpdaa
open Go.RowKit

/-- a cursor stands in block p -/
def Cur (p : Nat) (ao : Option Addr) (n cap : Nat) (w : World) : Prop := ∃ i h, CurAt w p ao n cap i h
theorem KeptBut.trans {g : Nat} {a b c : World} (h : KeptBut g a b) (k : KeptBut g b c) : KeptBut g a c :=
  ⟨k.os.trans h.os, k.tape.trans h.tape, k.output.trans h.output, Nat.le_trans h.size k.size, fun j hj hg => (k.block j (Nat.lt_of_lt_of_le hj h.size) hg).trans (h.block j hj hg)⟩
theorem byte_cur (w : World) (p n cap : Nat) (ao : Option Addr) (hc : Cur p ao n cap w) :
    Calls Try.prog 37 #[.pointer (some ⟨p, 0, none⟩)] w fun e w' => ∃ x : Int, e = .returned (.int .i64 x) ∧ 0 ≤ x ∧ x ≤ 255 ∧ Cur p ao n cap w' ∧ KeptBut p w w' := by
  obtain ⟨i, h, hc⟩ := hc
  exact byte_any w p n cap i ao h hc

set_option maxHeartbeats 1000000 in
set_option maxRecDepth 100000 in
theorem below_cur (w : World) (p n cap : Nat) (ao : Option Addr) (m : Int) (h0 : 0 < m) (h1 : m ≤ 1000000000) (hc : Cur p ao n cap w) :
    Calls Try.prog 38 #[.pointer (some ⟨p, 0, none⟩), .int .i64 m] w fun e w' => ∃ x : Int, e = .returned (.int .i64 x) ∧ 0 ≤ x ∧ x < m ∧ Cur p ao n cap w' ∧ KeptBut p w w' := by
  have HC : Hid (Cur p ao n cap w) := hc
  have hm0 : ¬ m ≤ 0 := by omega
  have hmz : (m == 0) = false := by simp; omega
  clear hc
  by_cases hs : m ≤ 256
  · go_enter Try.func38, Try.ntmps38
    go_wp2_with fail
    refine (byte_cur _ p n cap ao HC.out).mono ?_
    rintro e w1 ⟨x, rfl, hx0, hx1, hc1, hk1⟩
    have HC1 : Hid (Cur p ao n cap w1) := hc1
    have HK1 : Hid (KeptBut p w w1) := hk1
    clear hc1 hk1
    go_wp2
    go_ret
    exact ⟨_, rfl, Int.emod_nonneg _ (by omega), Int.emod_lt_of_pos _ h0, HC1.out, HK1.out⟩
  · go_enter Try.func38, Try.ntmps38
    go_wp2_with fail
    refine (byte_cur _ p n cap ao HC.out).mono ?_
    rintro e w1 ⟨x, rfl, hx0, hx1, hc1, hk1⟩
    have HC1 : Hid (Cur p ao n cap w1) := hc1
    have HK1 : Hid (KeptBut p w w1) := hk1
    clear hc1 hk1
    go_wp2_with fail
    refine (byte_cur _ p n cap ao HC1.out).mono ?_
    rintro e w2 ⟨y, rfl, hy0, hy1, hc2, hk2⟩
    have HC2 : Hid (Cur p ao n cap w2) := hc2
    have HK2 : Hid (KeptBut p w w2) := HK1.out.trans hk2
    clear hc2 hk2
    go_wp2_with fail
    refine (byte_cur _ p n cap ao HC2.out).mono ?_
    rintro e w3 ⟨z, rfl, hz0, hz1, hc3, hk3⟩
    have HC3 : Hid (Cur p ao n cap w3) := hc3
    have HK3 : Hid (KeptBut p w w3) := HK2.out.trans hk3
    clear hc3 hk3
    go_wp2_with fail
    refine (byte_cur _ p n cap ao HC3.out).mono ?_
    rintro e w4 ⟨u, rfl, hu0, hu1, hc4, hk4⟩
    have HC4 : Hid (Cur p ao n cap w4) := hc4
    have HK4 : Hid (KeptBut p w w4) := HK3.out.trans hk4
    clear hc4 hk4
    go_wp2
    go_ret
    exact ⟨_, rfl, Int.emod_nonneg _ (by omega), Int.emod_lt_of_pos _ h0, HC4.out, HK4.out⟩

/-- the bytes that came in -/
def CodeIn (w : World) (ao : Option Addr) (n : Nat) : Prop :=
  n = 0 ∨ ∃ b off, ao = some ⟨b, off, none⟩ ∧ b < w.heap.size ∧ ∀ k, k < n → ∃ z : Int, 0 ≤ z ∧ z ≤ 255 ∧ w.cell? ⟨b, off + k, none⟩ = some (.int .u8 z)
theorem CodeIn.below {w w' : World} {ao : Option Addr} {n : Nat} (h : CodeIn w ao n) (hb : Below w.heap.size w w') : CodeIn w' ao n := by
  rcases h with h | ⟨b, off, e, hs, hz⟩
  · exact .inl h
  · refine .inr ⟨b, off, e, Nat.lt_of_lt_of_le hs hb.size, fun k hk => ?_⟩
    obtain ⟨z, h0, h1, hc⟩ := hz k hk
    exact ⟨z, h0, h1, (hb.cell hs).trans hc⟩
theorem cur_new (w : World) (ao : Option Addr) (n cap : Nat) (h : Int) (hn : n ≤ 1048576) (hc : CodeIn w ao n) (q : Nat) :
    Cur w.heap.size ao n cap ((w.drewN q).alloc (.cells #[.slice ao n cap, .int .i64 0, .int .i64 h] 102)) := by
  refine ⟨0, h, heap_alloc_new (w.drewN q) _, by omega, hn, ?_⟩
  have hb : Below w.heap.size w ((w.drewN q).alloc (.cells #[.slice ao n cap, .int .i64 0, .int .i64 h] 102)) := (below_drewN (Below.refl _ w) q).alloc (Nat.le_refl _) _
  rcases hc with h | ⟨b, off, e, hs, hz⟩
  · exact .inl h
  · refine .inr ⟨b, off, e, by omega, Nat.lt_of_lt_of_le hs hb.size, fun k hk => ?_⟩
    obtain ⟨z, h0, h1, hcc⟩ := hz k hk
    exact ⟨z, h0, h1, (hb.cell hs).trans hcc⟩

set_option maxHeartbeats 1000000 in
set_option maxRecDepth 100000 in
theorem new_any (w : World) (ao : Option Addr) (n cap : Nat) (hn : n ≤ 1048576) (hc : CodeIn w ao n) :
    Calls Try.prog 35 #[.slice ao n cap] w fun e w' => e = .returned (.pointer (some ⟨w.heap.size, 0, none⟩)) ∧ Cur w.heap.size ao n cap w' ∧ Below w.heap.size w w' := by
  have HC : Hid (CodeIn w ao n) := hc
  have hand := andM
  clear hc
  go_enter Try.func35, Try.ntmps35
  go_wp2
  go_loop [3, 4] (fun h i => ∃ (x : Int) (k : Nat), h = .int .i64 x ∧ i = .int .i64 k ∧ k ≤ n) (fun _ i => n - (intOf i).toNat)
  case atStart => exact ⟨_, 0, rfl, rfl, by omega⟩
  case round =>
    obtain ⟨x, k, rfl, rfl, hk⟩ := hrel
    by_cases hlt : k < n ∧ k < 4000
    · obtain ⟨hl1, hl2⟩ := hlt
      have hlt1 : (k : Int) < (n : Int) := by omega
      have hlt2 : (k : Int) < 4000 := by omega
      rcases HC.out with h0 | ⟨b, off, rfl, hbs, hz⟩
      · omega
      · obtain ⟨z, hz0, hz1, hcell⟩ := hz k hl1
        clear hz
        go_wp2
        go_round
        case rel => exact ⟨_, k + 1, rfl, by go_num, by omega⟩
        case measure => simp [intOf]; omega
    · by_cases hl1 : k < n
      · have hl2 : ¬ (k : Int) < 4000 := by omega
        clear hand
        go_wp2
        go_ret
        exact ⟨rfl, cur_new w ao n cap x hn HC.out 0, (Below.refl _ _).alloc (Nat.le_refl _) _⟩
      · clear hand
        go_wp2
        go_ret
        exact ⟨rfl, cur_new w ao n cap x hn HC.out 0, (Below.refl _ _).alloc (Nat.le_refl _) _⟩
end Go.Proofs.Ytdbogikcmfnpdaa

/-
  The laws' bound on what came in: laws.big; the bytes that came in, out of their reading.
-/
namespace Go.Proofs.Ytdbogikcmfnpdaa
open Go.ChangeShapes Go.WideShapes Go.ChangeAt Go.RowKit

set_option maxHeartbeats 400000 in
set_option maxRecDepth 100000 in
theorem big_no (ao : Option Addr) (n cap : Nat) (w : World) (hn : n ≤ 1048576) :
    Calls Try.prog 7 #[.slice ao n cap] w fun e w' => e = .returned (.bool false) ∧ w = w' := by
  have hd : decide ((1048576 : Int) < (n : Int)) = false := by simp; omega
  go_enter Try.func7, Try.ntmps7
  go_wp2
  go_ret
  exact ⟨rfl, rfl⟩
set_option maxHeartbeats 400000 in
set_option maxRecDepth 100000 in
theorem big_yes (ao : Option Addr) (n cap : Nat) (w : World) (hn : (1048576 : Int) < (n : Int)) :
    Calls Try.prog 7 #[.slice ao n cap] w fun e w' => e = .returned (.bool true) ∧ w = w' := by
  have hd : decide ((1048576 : Int) < (n : Int)) = true := by simp; omega
  go_enter Try.func7, Try.ntmps7
  go_wp2
  go_ret
  exact ⟨rfl, rfl⟩

/-- the bytes that came in, out of their reading -/
theorem code_in {H : Type} {enc : TypeId × Value → H} {W : World} {ao : Option Addr} {n cap : Nat} {d : DataW H} {ps : List MemPlace}
    (h : DataW.Trod enc Try.prog W 0 (fun _ => true) true 22 (.slice ao n cap) d ps) : CodeIn W ao n := by
  obtain ⟨fuel, hf⟩ := h
  rcases open_ints Try.underlying22 Try.underlying5 (by kernel_rfl) hf with ⟨hcs, _⟩ | ⟨x, l, c, zs, hcs, _, hl, hm, hz, _, hcell, hwz⟩
  · simp [Value.cells] at hcs
    obtain ⟨rfl, rfl, rfl⟩ := hcs
    exact .inl rfl
  · simp [Value.cells] at hcs
    obtain ⟨rfl, rfl, rfl⟩ := hcs
    by_cases h0 : n = 0
    · exact .inl h0
    · refine .inr ?_
      obtain ⟨b, off, spot⟩ := x
      have hzl : zs.length = cap := by simpa using hz
      have c0 := hcell 0 (by omega)
      have hspot : spot = none := by simpa [Addr.add] using World.cell?_spot c0
      subst hspot
      have hadd : ∀ k, (⟨b, off, none⟩ : Addr).add k = ⟨b, off + k, none⟩ := fun k => by unfold Addr.add; split <;> simp_all
      have hb : b < W.heap.size := by
        rw [hadd 0] at c0
        unfold World.cell? at c0
        rcases Nat.lt_or_ge b W.heap.size with h1 | h1
        · exact h1
        · simp [Array.getElem?_eq_none h1] at c0
      refine ⟨b, off, rfl, hb, fun k hk => ?_⟩
      have ck := hcell k (by omega)
      rw [hadd k] at ck
      have hw := hwz (zs.getD k 0) (by
        have hkz : k < zs.length := by omega
        have e : zs.getD k 0 = zs[k] := by simp [List.getD, hkz]
        rw [e]; exact List.getElem_mem hkz)
      have hx : 0 ≤ zs.getD k 0 ∧ zs.getD k 0 ≤ 255 := by simpa [Lit.wf, IntKind.min, IntKind.max, IntKind.signed, IntKind.bits] using hw
      exact ⟨_, hx.1, hx.2, ck⟩
end Go.Proofs.Ytdbogikcmfnpdaa

/-
  Two drawn rows (spec.DrawRowLess), and FnRowsLess.
-/
namespace Go.Proofs.Ytdbogikcmfnpdaa
open Go.RowKit

/-- the cursor, whose bytes lie ahead of it -/
def CurL (p : Nat) (ao : Option Addr) (n cap : Nat) (w : World) : Prop := Cur p ao n cap w ∧ (n = 0 ∨ ∃ b off, ao = some ⟨b, off, none⟩ ∧ b < p)
theorem CurL.below {p n cap B : Nat} {ao : Option Addr} {w w' : World} (h : CurL p ao n cap w) (hb : Below B w w') (hB : p < B) : CurL p ao n cap w' := by
  obtain ⟨⟨i, x, hc⟩, hl⟩ := h
  refine ⟨⟨i, x, (hb.block p hB).trans hc.blk, hc.le, hc.small, ?_⟩, hl⟩
  rcases hc.code with h0 | ⟨b, off, e, h1, h2, h3⟩
  · exact .inl h0
  · rcases hl with h0 | ⟨b', off', e', h4⟩
    · exact .inl h0
    · rw [e] at e'
      simp only [Option.some.injEq, Addr.mk.injEq] at e'
      obtain ⟨rfl, rfl, _⟩ := e'
      exact .inr ⟨b, off, e, h1, Nat.lt_of_lt_of_le h2 hb.size, fun k hk => by
        obtain ⟨z, z0, z1, z2⟩ := h3 k hk
        exact ⟨z, z0, z1, cell_below z2 hb (by omega)⟩⟩
theorem CurL.draw {p n cap : Nat} {ao : Option Addr} {w : World} (h : CurL p ao n cap w) (m : Int) (h0 : 0 < m) (h1 : m ≤ 1000000000) :
    Calls Try.prog 38 #[.pointer (some ⟨p, 0, none⟩), .int .i64 m] w fun e w' => ∃ x : Int, e = .returned (.int .i64 x) ∧ 0 ≤ x ∧ x < m ∧ Hid (CurL p ao n cap w') ∧ Hid (KeptBut p w w') :=
  (below_cur w p n cap ao m h0 h1 h.1).mono fun _ _ ⟨x, e, x0, x1, hc, hk⟩ => ⟨x, e, x0, x1, ⟨hc, h.2⟩, hk⟩
theorem cur_start {w : World} {ao : Option Addr} {n : Nat} (h : CodeIn w ao n) : n = 0 ∨ ∃ b off, ao = some ⟨b, off, none⟩ ∧ b < w.heap.size := by
  rcases h with h | ⟨b, off, e, h1, _⟩
  · exact .inl h
  · exact .inr ⟨b, off, e, h1⟩
theorem KeptBut.owns {g B e s n : Nat} {w w1 : World} {v : Value} {xs : List Value} (h : KeptBut g w w1) (ho : w.ownsRow B e s v n xs) (hB : g < B) : w1.ownsRow B e s v n xs := by
  refine ⟨ho.1, ?_⟩
  rcases ho.2 with hn | ⟨g', cap, cur, rfl, hg, hh, r⟩
  · exact .inl hn
  · exact .inr ⟨g', cap, cur, rfl, hg, by rw [h.block g' (Array.getElem?_eq_some_iff.1 hh).1 (by omega)]; exact hh, r⟩
theorem KeptBut.rowOwn {g lo hi : Nat} {w w1 : World} {a : Option Addr} {l : List Int} (h : KeptBut g w w1) (ho : RowOwn lo hi w a l) (hB : g < lo) : RowOwn lo hi w1 a l := by
  rcases ho with h0 | ⟨b, e, h1, h2, h3⟩
  · exact .inl h0
  · exact .inr ⟨b, e, h1, h2, h3.of_block (h.block b h3.lt (by omega))⟩
theorem RowIn.keptBut {g lo hi : Nat} {w w1 : World} {a : Option Addr} {l : List Int} (h : RowIn lo hi w a l) (hk : KeptBut g w w1) (hB : g < lo) (hh : hi ≤ w.heap.size) : RowIn lo hi w1 a l := by
  rcases h with h0 | ⟨b, o, e, h1, h2, h3⟩
  · exact .inl h0
  · exact .inr ⟨b, o, e, h1, h2, fun i hi => by rw [← h3 i hi]; unfold World.cell?; rw [hk.block b (by omega) (by omega)]⟩

theorem row_snoc {w : World} {B n : Nat} {v : Value} {l : List Int} {x : Int} (h : w.ownsRow B 3 1 v n (rowCells l ++ [.int .i64 x])) : w.ownsRow B 3 1 v n (rowCells (l ++ [x])) := by simpa [rowCells] using h

end Go.Proofs.Ytdbogikcmfnpdaa

/-
  Twelve drawn numbers: spec.DrawPlaces.
-/
namespace Go.Proofs.Ytdbogikcmfnpdaa
open Go.RowKit

set_option maxHeartbeats 1000000 in
set_option maxRecDepth 100000 in
theorem drawPlaces_any (ao : Option Addr) (n cap : Nat) (w : World) (hn : n ≤ 1048576) (hc : CodeIn w ao n) :
    Calls Try.prog 10 #[.slice ao n cap] w fun e w' => ∃ (g cg : Nat) (z0 z1 z2 : Int), e = .returned (.slice (some ⟨g, 0, none⟩) 12 cg) ∧ Hid ((0 ≤ z0 ∧ z0 < 10000) ∧ (0 ≤ z1 ∧ z1 < 10000) ∧ (0 ≤ z2 ∧ z2 < 10000)) ∧ Hid (w'.cell? ⟨g, 0, none⟩ = some (.int .i64 z0) ∧ w'.cell? ⟨g, 1, none⟩ = some (.int .i64 z1) ∧ w'.cell? ⟨g, 2, none⟩ = some (.int .i64 z2)) ∧ Hid (Below w.heap.size w w') := by
  obtain ⟨i0, hi0, hz0, hz1, hz2⟩ := info_parts Try.info3
  have HC : Hid (CodeIn w ao n) := hc
  clear hc
  go_enter Try.func10, Try.ntmps10
  go_wp2_with fail
  refine (new_any w ao n cap hn HC.out).mono ?_
  rintro e w1 ⟨rfl, hc1, hb1⟩
  obtain ⟨p, HP⟩ : ∃ p, Hid (p = w.heap.size) := ⟨_, rfl⟩
  rw [← HP.out] at hc1
  have HB1 : Hid (Below p w w1) := by rw [HP.out]; exact hb1
  have HC1 : Hid (Cur p ao n cap w1) := hc1
  rw [← HP.out]
  clear hc1 hb1
  go_wp2_with fail
  refine (byte_cur w1 p n cap ao HC1.out).mono ?_
  rintro e w2 ⟨x, rfl, _, _, hc2, hk2⟩
  have HC2 : Hid (CurL p ao n cap w2) := ⟨hc2, by rw [HP.out]; exact cur_start HC.out⟩
  have HPW : Hid (p < w2.heap.size) := by obtain ⟨i, h, hcc⟩ := hc2; exact hcc.lt
  have HB2 : Hid (Below p w w2) := HB1.out.trans (hk2.to_below (Nat.le_refl _) (by have := HB1.out.size; rw [HP.out]; exact this))
  clear hc2 hk2
  go_wp2
  go_loopw [4, 5] (fun v i wr => ∃ (j : Nat) (r : List Int), i = .int .i64 j ∧ j ≤ 12 ∧ Hid (wr.ownsRow w2.heap.size 3 1 v j (rowCells r)) ∧ Hid (r.length = j ∧ ∀ y ∈ r, 0 ≤ y ∧ y < 10000) ∧ Hid (CurL p ao n cap wr) ∧ Hid (Below p w wr) ∧ Hid (w2.heap.size ≤ wr.heap.size)) (fun _ i _ => 12 - (intOf i).toNat)
  case atStart => exact ⟨0, [], rfl, by omega, World.ownsRow_made w2 #[] 0 (Nat.le_refl _) (Nat.zero_le _) rfl, ⟨rfl, fun y hy => by simp at hy⟩, HC2.out.below ((Below.refl w2.heap.size w2).alloc (Nat.le_refl _) _) HPW.out, HB2.out.alloc (Nat.le_of_lt HPW.out) _, by show _ ≤ _; simp⟩
  case round =>
    obtain ⟨j, r, rfl, hj, HOW, HRL, HCU, HBL, HSZ⟩ := hrel
    by_cases hlt : j < 12
    · have hlt1 : (j : Int) < 12 := by omega
      go_wp2_with fail
      refine (HCU.out.draw 10000 (by omega) (by omega)).mono ?_
      rintro e w3 ⟨y, rfl, hy0, hy1, HC3, HK3⟩
      have HOW3 : Hid (w3.ownsRow w2.heap.size 3 1 _ j (rowCells r)) := HK3.out.owns HOW.out HPW.out
      have HB3 : Hid (Below p w w3) := HBL.out.trans (HK3.out.to_below (Nat.le_refl _) (by have := HPW.out; have := HSZ.out; omega))
      have HS3 : Hid (w2.heap.size ≤ w3.heap.size) := Nat.le_trans HSZ.out HK3.out.size
      have hown3 := HOW3.out
      clear HK3 HOW HCU HBL HSZ
      go_wp2_with (at_builtin; refine wpList_append_lies _ rfl (.tmp 15) (.tmp 18) 29 rfl w2.heap.size 3 i0 (.int .i64 0) 1 8 Try.underlying29 hi0 hz0 hz1 hz2 rfl (by decide) _ j (rowCells r) rfl (hown3.alloc _) ⟨w3.heap.size, 0, none⟩ 1 1 [.int .i64 y] rfl rfl (cell_one_new _ _ _) (by simp [Value.oneCell']) (by decide) (by unfold maxLen; omega) (by omega) (by have := HS3.out; simp; omega) _ rfl ?_; intro g5 cap5 w5 hown5 hgrow5 hloc5 _)
      go_roundw
      case rel =>
        have hs3 := HS3.out
        have hb5 : Below w2.heap.size w3 w5 := (((Below.refl _ _).alloc hs3 _)).grown hgrow5 (by simp; omega) (fun q hq => (HOW3.out.lt q hq).1)
        refine ⟨j + 1, r ++ [y], by go_num, by omega, row_snoc hown5, ⟨by rw [List.length_append, HRL.out.1]; rfl, fun z hz => ?_⟩, HC3.out.below hb5 HPW.out, HB3.out.trans (hb5.mono (Nat.le_of_lt HPW.out)), Nat.le_trans hs3 hb5.size⟩
        rcases List.mem_append.1 hz with hz | hz
        · exact HRL.out.2 z hz
        · have : z = y := by simpa using hz
          omega
      case measure => simp [intOf]; omega
    · obtain rfl : j = 12 := by omega
      obtain ⟨ra, rc, rfl, hro⟩ := rowOwn_of HOW.out HRL.out.1
      go_wp2
      go_ret
      have hl := HRL.out.1
      rcases hro with h | ⟨b, rfl, _, _, hb⟩
      · rw [h] at hl; simp at hl
      · have v : ∀ i, i < 12 → 0 ≤ r.getD i 0 ∧ r.getD i 0 < 10000 := fun i hi => by
          have e : r.getD i 0 = r[i] := by simp [List.getD, show i < r.length by omega]
          rw [e]; exact HRL.out.2 _ (List.getElem_mem _)
        refine ⟨b, rc, r.getD 0 0, r.getD 1 0, r.getD 2 0, rfl, ⟨v 0 (by omega), v 1 (by omega), v 2 (by omega)⟩, ⟨hb.cell (by omega), hb.cell (by omega), hb.cell (by omega)⟩, ?_⟩
        rw [← HP.out]; exact HBL.out
end Go.Proofs.Ytdbogikcmfnpdaa

/-
  A drawn edge: spec.l04Edge.
-/
namespace Go.Proofs.Ytdbogikcmfnpdaa
open Go.RowKit

theorem Blk.keptBut {w w' : World} {b n g : Nat} {f : Nat → Value} (h : Blk w b n f) (hk : KeptBut g w w') (hne : b ≠ g) : Blk w' b n f := h.of_block (hk.block b h.lt hne)
theorem EdgesIn.keptBut {lo hi g : Nat} {w w' : World} {a : Option Addr} {l : List Ed} (h : EdgesIn lo hi w a l) (hk : KeptBut g w w') (hg : g < lo) (hh : hi ≤ w.heap.size) : EdgesIn lo hi w' a l :=
  h.kept hk.toP hh (fun k h1 _ e => by omega)
theorem CurL.lt {p n cap : Nat} {ao : Option Addr} {w : World} (h : CurL p ao n cap w) : p < w.heap.size := by
  obtain ⟨⟨i, x, hc⟩, _⟩ := h; exact hc.lt
theorem KeptBut.setOut {g b j : Nat} {w w1 : World} (h : KeptBut g w w1) (hb : w.heap.size ≤ b) (u : Value) : KeptBut g w (w1.setCell ⟨b, j, none⟩ u) := by
  have h2 : Below b w1 (w1.setCell ⟨b, j, none⟩ u) := (Below.refl b w1).setCell (Nat.le_refl _) u
  exact ⟨h2.os.trans h.os, h2.tape.trans h.tape, h2.output.trans h.output, Nat.le_trans h.size h2.size, fun k hk hg => (h2.block k (by omega)).trans (h.block k hk hg)⟩

/-- an edge with ends below m and a label of a to c -/
def edIn (m : Int) (x : Ed) : Prop := (0 ≤ x.1 ∧ x.1 < m) ∧ (97 ≤ x.2.1 ∧ x.2.1 ≤ 99) ∧ (0 ≤ x.2.2 ∧ x.2.2 < m)

set_option maxHeartbeats 1000000 in
set_option maxRecDepth 100000 in
theorem l04Edge_any (w : World) (p n cap : Nat) (ao : Option Addr) (m : Int) (h0 : 0 < m) (h1 : m ≤ 1000000) (hc : CurL p ao n cap w) :
    Calls Try.prog 58 #[.pointer (some ⟨p, 0, none⟩), .int .i64 m] w fun e w' => ∃ x : Ed, e = .returned (ev x) ∧ Hid (edIn m x) ∧ Hid (CurL p ao n cap w') ∧ Hid (KeptBut p w w') := by
  have HP : Hid (p < w.heap.size) := hc.lt
  obtain ⟨B, HB⟩ : ∃ B, Hid (B = w.heap.size) := ⟨_, rfl⟩
  have HC : Hid (CurL p ao n cap w) := hc
  clear hc
  go_enter Try.func58, Try.ntmps58
  go_wp2_with fail
  rw [← HB.out]
  generalize hW : World.alloc _ _ = W
  have HC1 : Hid (CurL p ao n cap W) := by show CurL _ _ _ _ _; rw [← hW]; exact HC.out.below (below1 w _) HP.out
  have HK1 : Hid (KeptBut p w W) := by show KeptBut _ _ _; rw [← hW]; exact (KeptBut.refl p w).below (below1 w _)
  have HR1 : Hid (Blk W B 3 (fun i => if i = 0 then .int .i64 0 else if i = 1 then .int .u8 0 else .int .i64 0)) := by show Blk _ _ _ _; rw [← hW]; exact blk_three w B HB.out _ _ _ _
  have HNE : Hid (B ≠ p) := by show B ≠ p; have := HP.out; have := HB.out; omega
  clear hW
  refine (HC1.out.draw m h0 (by omega)).mono ?_
  rintro e w2 ⟨x0, rfl, x00, x01, HC2, HK2⟩
  have HR2 : Hid (Blk w2 B 3 _) := HR1.out.keptBut HK2.out HNE.out
  have HKK2 : Hid (KeptBut p w w2) := HK1.out.trans HK2.out
  clear HC1 HK1 HR1 HK2
  go_wp2_with fail
  refine (HC2.out.draw 3 (by omega) (by omega)).mono ?_
  rintro e w3 ⟨x1, rfl, x10, x11, HC3, HK3⟩
  have HR3 : Hid (Blk w3 B 3 _) := HR2.out.keptBut HK3.out HNE.out
  have HKK3 : Hid (KeptBut p w w3) := HKK2.out.trans HK3.out
  clear HC2 HKK2 HR2 HK3
  go_wp2_with fail
  refine (HC3.out.draw m h0 (by omega)).mono ?_
  rintro e w4 ⟨x2, rfl, x20, x21, HC4, HK4⟩
  have HR4 : Hid (Blk w4 B 3 _) := HR3.out.keptBut HK4.out HNE.out
  have HKK4 : Hid (KeptBut p w w4) := HKK3.out.trans HK4.out
  clear HC3 HKK3 HR3 HK4
  have r0 : w4.cell? ⟨B, 0, none⟩ = some (.int .i64 0) := HR4.out.cell (i := 0) (by omega)
  have r1 : w4.cell? ⟨B, 1, none⟩ = some (.int .u8 0) := HR4.out.cell (i := 1) (by omega)
  have r2 : w4.cell? ⟨B, 2, none⟩ = some (.int .i64 0) := HR4.out.cell (i := 2) (by omega)
  have f0 := HR4.out.frozen 0
  have f1 := HR4.out.frozen 1
  have f2 := HR4.out.frozen 2
  have hwr : IntKind.u8.wrap (97 + x1) = 97 + x1 := by rw [IntKind.wrap_u8]; omega
  go_wp2
  refine bodyPost_ret (v := .agg #[.int .i64 x0, .int .u8 (97 + x1), .int .i64 x2]) (by simp [results, Try.results58, go_sem, r0, r1, r2]) rfl ?_
  have hsz : w.heap.size ≤ B := by rw [HB.out]; exact Nat.le_refl _
  have hpb : p < B := by have := HP.out; omega
  refine ⟨(x0, 97 + x1, x2), rfl, ⟨⟨x00, x01⟩, ⟨by show (97 : Int) ≤ 97 + x1; omega, by show 97 + x1 ≤ (99 : Int); omega⟩, ⟨x20, x21⟩⟩, ?_, ?_⟩
  · exact HC4.out.below (((((Below.refl B w4).setCell (Nat.le_refl _) _).setCell (Nat.le_refl _) _).setCell (Nat.le_refl _) _)) hpb
  · exact ((HKK4.out.setOut hsz _).setOut hsz _).setOut hsz _
end Go.Proofs.Ytdbogikcmfnpdaa

/-
  spec.GraphOk.
-/
namespace Go.Proofs.Ytdbogikcmfnpdaa
open Go.RowKit

theorem okE_split (s : Int) (x : Ed) : okE s x = (inV s x.1 && inV s x.2.2 && decide (97 ≤ x.2.1) && decide (x.2.1 ≤ 100)) := rfl
theorem inV_in (s v : Int) : (decide (0 ≤ v) && decide (v ≤ s - 1)) = inV s v := by unfold inV; congr 1; rw [decide_eq_decide]; omega

set_option maxHeartbeats 8000000 in
set_option maxRecDepth 100000 in
theorem specGOk_any (lo hi : Nat) (s : Int) (a : Option Addr) (n cap : Nat) (l : List Ed) (r : Bool) (w : World) (ha : EdgesIn lo hi w a l) (hh : hi ≤ w.heap.size) (hn : l.length = n) (hm : n ≤ 1048576) (hr : r = okG s l) :
    Calls Try.prog 44 #[gv s a n cap] w fun e w' => e = .returned (.bool r) ∧ Hid (Below w.heap.size w w') := by
  have HN : Hid (l.length = n) := hn
  have HA : Hid (EdgesIn lo hi w a l) := ha
  have HH : Hid (hi ≤ w.heap.size) := hh
  have HR : Hid (r = okG s l) := hr
  clear ha hh hn hr
  obtain ⟨tk, HTK⟩ : ∃ tk : Bool, Hid (tk = (decide (1 ≤ s) && decide (s ≤ 12))) := ⟨_, rfl⟩
  have HIN : Hid (∀ w0, Calls Try.prog 46 #[.int .i64 s, .int .i64 1, .int .i64 12] w0 fun e w' => e = .returned (.bool tk) ∧ w0 = w') := fun w0 => by rw [HTK.out]; exact l01In_any s 1 12 w0
  rcases Bool.eq_false_or_eq_true tk with ht | ht
  · subst ht
    have h12 : 1 ≤ s ∧ s ≤ 12 := by have := HTK.out; simp at this; exact this
    have hws : IntKind.i64.wrap (s - 1) = s - 1 := by simp [IntKind.wrap, IntKind.bits, IntKind.signed]; omega
    by_cases h3 : n ≤ 40
    · have hd3 : decide ((40 : Int) < (n : Int)) = false := by simp; omega
      go_enter Try.func44, Try.ntmps44
      go_wp2_with (go_at_call 46; refine (HIN.out _).mono ?_; rintro e w1' ⟨rfl, rfl⟩)
      go_loopw [3] (fun i wr => ∃ k : Nat, i = .int .i64 k ∧ k ≤ n ∧ Hid (okGTo s l k = true) ∧ Hid (Below w.heap.size w wr) ∧ Hid (Blk wr w.heap.size 2 (fun i => if i = 0 then .int .i64 s else .slice a n cap))) (fun i _ => n - (intOf i).toNat)
      case atStart => exact ⟨0, rfl, by omega, rfl, below1 _ _, blk_two w _ rfl _ _ _⟩
      case round =>
        obtain ⟨k, rfl, hk, HE, HL, HX⟩ := hrel
        have gg0 : wr.cell? ⟨w.heap.size, 0, none⟩ = some (.int .i64 s) := HX.out.cell (i := 0) (by omega)
        have gg1 : wr.cell? ⟨w.heap.size, 1, none⟩ = some (.slice a n cap) := HX.out.cell (i := 1) (by omega)
        by_cases hlt : k < n
        · have hlt1 : (k : Int) < (n : Int) := by omega
          have hlt0 : 0 ≤ (k : Int) := by omega
          have HBW : Hid (EdgesIn lo hi wr a l) := HA.out.below HL.out HH.out
          obtain ⟨b, o, rfl, _, _, hx⟩ := HBW.out.edge (k := k) (by rw [HN.out]; exact hlt)
          obtain ⟨x, HXX⟩ : ∃ x : Ed, Hid (x = eat l k) := ⟨_, rfl⟩
          rw [← HXX.out] at hx
          have HXK : Hid (w.heap.size < wr.heap.size) := HX.out.lt
          obtain ⟨x0, x1, x2⟩ := x
          obtain ⟨u, HU⟩ : ∃ u : Bool, Hid (u = inV s x0) := ⟨_, rfl⟩
          obtain ⟨v, HV⟩ : ∃ u : Bool, Hid (u = inV s x2) := ⟨_, rfl⟩
          have HOE : Hid (okE s (eat l k) = (u && v && decide (97 ≤ x1) && decide (x1 ≤ 100))) := by show _ = _; rw [← HXX.out, okE_split, HU.out, HV.out]
          obtain ⟨p0, p1, p2⟩ := hx
          dsimp only at p0 p1 p2
          have HC0 : Hid (∀ w0, Calls Try.prog 46 #[.int .i64 x0, .int .i64 0, .int .i64 (s - 1)] w0 fun e w' => e = .returned (.bool u) ∧ w0 = w') := fun w0 => by rw [HU.out, ← inV_in]; exact l01In_any x0 0 (s - 1) w0
          have HC1 : Hid (∀ w0, Calls Try.prog 46 #[.int .i64 x2, .int .i64 0, .int .i64 (s - 1)] w0 fun e w' => e = .returned (.bool v) ∧ w0 = w') := fun w0 => by rw [HV.out, ← inV_in]; exact l01In_any x2 0 (s - 1) w0
          obtain ⟨W, HW⟩ : ∃ W, Hid (W = wr.alloc (.cells #[.int .i64 x0, .int .u8 x1, .int .i64 x2] 99)) := ⟨_, rfl⟩
          have HWB : Hid (Below wr.heap.size wr W) := by rw [HW.out]; exact below1 _ _
          obtain ⟨e0, e1, e2⟩ := box_cells wr (.int .i64 x0) (.int .u8 x1) (.int .i64 x2) 99 _ rfl
          rw [← HW.out] at e0 e1 e2
          have g0 : W.cell? ⟨w.heap.size, 0, none⟩ = some (.int .i64 s) := cell_below gg0 HWB.out HXK.out
          have g1 : W.cell? ⟨w.heap.size, 1, none⟩ = some (.slice (some ⟨b, o, none⟩) n cap) := cell_below gg1 HWB.out HXK.out
          have HLW : Hid (Below w.heap.size w W) := HL.out.trans (HWB.out.mono HL.out.size)
          have HXW : Hid (Blk W w.heap.size 2 (fun i => if i = 0 then .int .i64 s else .slice (some ⟨b, o, none⟩) n cap)) := HX.out.of_block (HWB.out.block _ HXK.out)
          go_wp2_with fail
          rw [← HW.out]
          clear p0 p1 p2 gg0 gg1
          rcases Bool.eq_false_or_eq_true u with hu | hu
          · subst hu
            rcases Bool.eq_false_or_eq_true v with hv | hv
            · subst hv
              by_cases h97 : 97 ≤ x1
              · have hd7 : decide (x1 < 97) = false := by simp; omega
                by_cases h100 : x1 ≤ 100
                · have hd8 : decide ((100 : Int) < x1) = false := by simp; omega
                  have HOT : Hid (okE s (eat l k) = true) := by show _ = _; rw [HOE.out]; simp [h97, h100]
                  by_cases hk0 : k = 0
                  · subst hk0
                    have HKS : Hid (∀ w', Below W.heap.size W w' → ((w'.cell? ⟨w.heap.size, 0, none⟩ = some (.int .i64 s) ∧ w'.cell? ⟨w.heap.size, 1, none⟩ = some (.slice (some ⟨b, o, none⟩) n cap)) ∧ (w'.cell? ⟨wr.heap.size, 0, none⟩ = some (.int .i64 x0) ∧ w'.cell? ⟨wr.heap.size, 1, none⟩ = some (.int .u8 x1) ∧ w'.cell? ⟨wr.heap.size, 2, none⟩ = some (.int .i64 x2)))) := fun w' h => ⟨⟨cell_below g0 h (lt_of_cell g0), cell_below g1 h (lt_of_cell g1)⟩, ⟨cell_below e0 h (lt_of_cell e0), cell_below e1 h (lt_of_cell e1), cell_below e2 h (lt_of_cell e2)⟩⟩
                    refine wp_region_held_drew (S := fun w' => (w'.cell? ⟨w.heap.size, 0, none⟩ = some (.int .i64 s) ∧ w'.cell? ⟨w.heap.size, 1, none⟩ = some (.slice (some ⟨b, o, none⟩) n cap)) ∧ (w'.cell? ⟨wr.heap.size, 0, none⟩ = some (.int .i64 x0) ∧ w'.cell? ⟨wr.heap.size, 1, none⟩ = some (.int .u8 x1) ∧ w'.cell? ⟨wr.heap.size, 2, none⟩ = some (.int .i64 x2))) (by kernel_rfl) (HKS.out _ ((Below.refl _ _).drew)) (fun hHeld => ?_)
                    refine wpAnyH_take (i := 0) (oi := { dst := some 27, op := Go.Op.fieldAddr 99 (Go.Operand.tmp 4) 0, type := 0, pos := "l04_graph.go:21", after := #[], guard := none }) (v := ?_) rfl (by kernel_rfl) (by kernel_rfl) (by kernel_rfl) (fun _ _ _ h => h) (Or.inl ⟨by kernel_rfl, ?_⟩) (by assumption) ?_
                    rotate_left
                    · intro w hSw; (try dsimp only at hSw); go_simp; try with_reducible rfl
                    simp only [Act.put, List.setIfInBounds_toArray, List.set_cons_zero, List.set_cons_succ]
                    refine wpAnyH_take (i := 1) (oi := { dst := some 28, op := Go.Op.load 3 (Go.Operand.tmp 27), type := 3, pos := "l04_graph.go:21", after := #[{ on := 0, ground := Go.Ground.data }], guard := none }) (v := ?_) rfl (by kernel_rfl) (by kernel_rfl) (by kernel_rfl) (fun _ _ _ h => h) (Or.inl ⟨by kernel_rfl, ?_⟩) (by assumption) ?_
                    rotate_left
                    · intro w hSw; (try dsimp only at hSw); go_simp; try with_reducible rfl
                    simp only [Act.put, List.setIfInBounds_toArray, List.set_cons_zero, List.set_cons_succ]
                    refine wpAnyH_take (i := 2) (oi := { dst := some 29, op := Go.Op.fieldAddr 26 (Go.Operand.tmp 1) 0, type := 0, pos := "l04_graph.go:21", after := #[], guard := none }) (v := ?_) rfl (by kernel_rfl) (by kernel_rfl) (by kernel_rfl) (fun _ _ _ h => h) (Or.inl ⟨by kernel_rfl, ?_⟩) (by assumption) ?_
                    rotate_left
                    · intro w hSw; (try dsimp only at hSw); go_simp; try with_reducible rfl
                    simp only [Act.put, List.setIfInBounds_toArray, List.set_cons_zero, List.set_cons_succ]
                    refine wpAnyH_take (i := 3) (oi := { dst := some 30, op := Go.Op.load 3 (Go.Operand.tmp 29), type := 3, pos := "l04_graph.go:21", after := #[{ on := 2, ground := Go.Ground.data }], guard := none }) (v := ?_) rfl (by kernel_rfl) (by kernel_rfl) (by kernel_rfl) (fun _ _ _ h => h) (Or.inl ⟨by kernel_rfl, ?_⟩) (by assumption) ?_
                    rotate_left
                    · intro w hSw; (try dsimp only at hSw); go_simp; try with_reducible rfl
                    simp only [Act.put, List.setIfInBounds_toArray, List.set_cons_zero, List.set_cons_succ]
                    refine wpAnyH_take (i := 4) (oi := { dst := some 31, op := Go.Op.binOp Go.BinOp.sub 3 (Go.Operand.tmp 30) (Go.Operand.const (Go.Value.int Go.IntKind.i64 1)) 3, type := 3, pos := "l04_graph.go:21", after := #[{ on := 3, ground := Go.Ground.data }], guard := none }) (v := ?_) rfl (by kernel_rfl) (by kernel_rfl) (by kernel_rfl) (fun _ _ _ h => h) (Or.inl ⟨by kernel_rfl, ?_⟩) (by assumption) ?_
                    rotate_left
                    · intro w hSw; (try dsimp only at hSw); go_simp; try with_reducible rfl
                    simp only [Act.put, List.setIfInBounds_toArray, List.set_cons_zero, List.set_cons_succ]
                    refine wpAnyH_ready (rs := [5]) (by kernel_rfl) (by simp) ?_
                    refine AllReadyH.cons (o := { dst := some 32, op := Go.Op.call { callee := Go.Callee.value (Go.Operand.func 46), args := #[Go.Operand.tmp 28, Go.Operand.const (Go.Value.int Go.IntKind.i64 0), Go.Operand.tmp 31], argTypes := #[3, 3, 3] }, type := 4, pos := "l04_graph.go:21", after := #[{ on := 1, ground := Go.Ground.data }, { on := 4, ground := Go.Ground.data }], guard := none }) rfl (fun K hK => ?_) ?_
                    · go_simp
                      go_wp2_with (go_at_call 46; refine (HC0.out _).mono ?_; rintro e w1 ⟨rfl, rfl⟩)
                      refine hK.out _ _ hHeld (fun hHeld => ?_)
                      clear hK K
                      try simp only [Act.put, List.setIfInBounds_toArray, List.set_cons_zero, List.set_cons_succ]
                      refine wpAnyH_take (i := 6) (oi := { dst := some 33, op := Go.Op.unOp Go.UnOp.not 4 (Go.Operand.tmp 32), type := 4, pos := "l04_graph.go:21", after := #[{ on := 5, ground := Go.Ground.data }], guard := none }) (v := ?_) rfl (by kernel_rfl) (by kernel_rfl) (by kernel_rfl) (fun _ _ _ h => h) (Or.inl ⟨by kernel_rfl, ?_⟩) (by assumption) ?_
                      rotate_left
                      · intro w hSw; (try dsimp only at hSw); go_simp; try with_reducible rfl
                      simp only [Act.put, List.setIfInBounds_toArray, List.set_cons_zero, List.set_cons_succ]
                      refine wpAnyH_take (i := 7) (oi := { dst := some 34, op := Go.Op.move (Go.Operand.tmp 33), type := 4, pos := "l04_graph.go:21", after := #[{ on := 6, ground := Go.Ground.data }, { on := 5, ground := Go.Ground.chain }], guard := none }) (v := ?_) rfl (by kernel_rfl) (by kernel_rfl) (by kernel_rfl) (fun _ _ _ h => h) (Or.inl ⟨by kernel_rfl, ?_⟩) (by assumption) ?_
                      rotate_left
                      · intro w hSw; (try dsimp only at hSw); go_simp; try with_reducible rfl
                      simp only [Act.put, List.setIfInBounds_toArray, List.set_cons_zero, List.set_cons_succ]
                      refine wpAnyH_take (i := 8) (oi := { dst := some 35, op := Go.Op.fieldAddr 99 (Go.Operand.tmp 4) 2, type := 0, pos := "l04_graph.go:21", after := #[{ on := 7, ground := Go.Ground.guard }], guard := some (7, false) }) (v := ?_) rfl (by kernel_rfl) (by kernel_rfl) (by kernel_rfl) (fun _ _ _ h => h) (Or.inl ⟨by kernel_rfl, ?_⟩) (by assumption) ?_
                      rotate_left
                      · intro w hSw; (try dsimp only at hSw); go_simp; try with_reducible rfl
                      simp only [Act.put, List.setIfInBounds_toArray, List.set_cons_zero, List.set_cons_succ]
                      refine wpAnyH_take (i := 9) (oi := { dst := some 36, op := Go.Op.load 3 (Go.Operand.tmp 35), type := 3, pos := "l04_graph.go:21", after := #[{ on := 8, ground := Go.Ground.data }, { on := 7, ground := Go.Ground.guard }], guard := some (7, false) }) (v := ?_) rfl (by kernel_rfl) (by kernel_rfl) (by kernel_rfl) (fun _ _ _ h => h) (Or.inl ⟨by kernel_rfl, ?_⟩) (by assumption) ?_
                      rotate_left
                      · intro w hSw; (try dsimp only at hSw); go_simp; try with_reducible rfl
                      simp only [Act.put, List.setIfInBounds_toArray, List.set_cons_zero, List.set_cons_succ]
                      refine wpAnyH_take (i := 10) (oi := { dst := some 37, op := Go.Op.fieldAddr 26 (Go.Operand.tmp 1) 0, type := 0, pos := "l04_graph.go:21", after := #[{ on := 7, ground := Go.Ground.guard }], guard := some (7, false) }) (v := ?_) rfl (by kernel_rfl) (by kernel_rfl) (by kernel_rfl) (fun _ _ _ h => h) (Or.inl ⟨by kernel_rfl, ?_⟩) (by assumption) ?_
                      rotate_left
                      · intro w hSw; (try dsimp only at hSw); go_simp; try with_reducible rfl
                      simp only [Act.put, List.setIfInBounds_toArray, List.set_cons_zero, List.set_cons_succ]
                      refine wpAnyH_take (i := 11) (oi := { dst := some 38, op := Go.Op.load 3 (Go.Operand.tmp 37), type := 3, pos := "l04_graph.go:21", after := #[{ on := 10, ground := Go.Ground.data }, { on := 7, ground := Go.Ground.guard }], guard := some (7, false) }) (v := ?_) rfl (by kernel_rfl) (by kernel_rfl) (by kernel_rfl) (fun _ _ _ h => h) (Or.inl ⟨by kernel_rfl, ?_⟩) (by assumption) ?_
                      rotate_left
                      · intro w hSw; (try dsimp only at hSw); go_simp; try with_reducible rfl
                      simp only [Act.put, List.setIfInBounds_toArray, List.set_cons_zero, List.set_cons_succ]
                      refine wpAnyH_take (i := 12) (oi := { dst := some 39, op := Go.Op.binOp Go.BinOp.sub 3 (Go.Operand.tmp 38) (Go.Operand.const (Go.Value.int Go.IntKind.i64 1)) 3, type := 3, pos := "l04_graph.go:21", after := #[{ on := 11, ground := Go.Ground.data }, { on := 7, ground := Go.Ground.guard }], guard := some (7, false) }) (v := ?_) rfl (by kernel_rfl) (by kernel_rfl) (by kernel_rfl) (fun _ _ _ h => h) (Or.inl ⟨by kernel_rfl, ?_⟩) (by assumption) ?_
                      rotate_left
                      · intro w hSw; (try dsimp only at hSw); go_simp; try with_reducible rfl
                      simp only [Act.put, List.setIfInBounds_toArray, List.set_cons_zero, List.set_cons_succ]
                      refine wpAnyH_ready (rs := [13]) (by kernel_rfl) (by simp) ?_
                      refine AllReadyH.cons (o := { dst := some 40, op := Go.Op.call { callee := Go.Callee.value (Go.Operand.func 46), args := #[Go.Operand.tmp 36, Go.Operand.const (Go.Value.int Go.IntKind.i64 0), Go.Operand.tmp 39], argTypes := #[3, 3, 3] }, type := 4, pos := "l04_graph.go:21", after := #[{ on := 9, ground := Go.Ground.data }, { on := 12, ground := Go.Ground.data }, { on := 7, ground := Go.Ground.chain }, { on := 7, ground := Go.Ground.guard }], guard := some (7, false) }) rfl (fun K hK => ?_) ?_
                      · go_simp
                        go_wp2_with (go_at_call 46; refine (HC1.out _).mono ?_; rintro e w1 ⟨rfl, rfl⟩)
                        refine hK.out _ _ hHeld (fun hHeld => ?_)
                        clear hK K
                        try simp only [Act.put, List.setIfInBounds_toArray, List.set_cons_zero, List.set_cons_succ]
                        refine wpAnyH_take (i := 14) (oi := { dst := some 41, op := Go.Op.unOp Go.UnOp.not 4 (Go.Operand.tmp 40), type := 4, pos := "l04_graph.go:21", after := #[{ on := 13, ground := Go.Ground.data }, { on := 7, ground := Go.Ground.guard }], guard := some (7, false) }) (v := ?_) rfl (by kernel_rfl) (by kernel_rfl) (by kernel_rfl) (fun _ _ _ h => h) (Or.inl ⟨by kernel_rfl, ?_⟩) (by assumption) ?_
                        rotate_left
                        · intro w hSw; (try dsimp only at hSw); go_simp; try with_reducible rfl
                        simp only [Act.put, List.setIfInBounds_toArray, List.set_cons_zero, List.set_cons_succ]
                        refine wpAnyH_take (i := 15) (oi := { dst := some 42, op := Go.Op.pick (Go.Operand.tmp 34) (Go.Operand.const (Go.Value.bool true)) (Go.Operand.tmp 41), type := 4, pos := "l04_graph.go:21", after := #[{ on := 7, ground := Go.Ground.data }, { on := 14, ground := Go.Ground.data }], guard := none }) (v := ?_) rfl (by kernel_rfl) (by kernel_rfl) (by kernel_rfl) (fun _ _ _ h => h) (Or.inl ⟨by kernel_rfl, ?_⟩) (by assumption) ?_
                        rotate_left
                        · intro w hSw; (try dsimp only at hSw); go_simp; try with_reducible rfl
                        simp only [Act.put, List.setIfInBounds_toArray, List.set_cons_zero, List.set_cons_succ]
                        refine wpAnyH_take (i := 16) (oi := { dst := some 43, op := Go.Op.move (Go.Operand.tmp 42), type := 4, pos := "l04_graph.go:21", after := #[{ on := 15, ground := Go.Ground.data }, { on := 13, ground := Go.Ground.chain }], guard := none }) (v := ?_) rfl (by kernel_rfl) (by kernel_rfl) (by kernel_rfl) (fun _ _ _ h => h) (Or.inl ⟨by kernel_rfl, ?_⟩) (by assumption) ?_
                        rotate_left
                        · intro w hSw; (try dsimp only at hSw); go_simp; try with_reducible rfl
                        simp only [Act.put, List.setIfInBounds_toArray, List.set_cons_zero, List.set_cons_succ]
                        refine wpAnyH_take (i := 17) (oi := { dst := some 44, op := Go.Op.fieldAddr 99 (Go.Operand.tmp 4) 1, type := 0, pos := "l04_graph.go:21", after := #[{ on := 16, ground := Go.Ground.guard }], guard := some (16, false) }) (v := ?_) rfl (by kernel_rfl) (by kernel_rfl) (by kernel_rfl) (fun _ _ _ h => h) (Or.inl ⟨by kernel_rfl, ?_⟩) (by assumption) ?_
                        rotate_left
                        · intro w hSw; (try dsimp only at hSw); go_simp; try with_reducible rfl
                        simp only [Act.put, List.setIfInBounds_toArray, List.set_cons_zero, List.set_cons_succ]
                        refine wpAnyH_take (i := 18) (oi := { dst := some 45, op := Go.Op.load 5 (Go.Operand.tmp 44), type := 5, pos := "l04_graph.go:21", after := #[{ on := 17, ground := Go.Ground.data }, { on := 16, ground := Go.Ground.guard }], guard := some (16, false) }) (v := ?_) rfl (by kernel_rfl) (by kernel_rfl) (by kernel_rfl) (fun _ _ _ h => h) (Or.inl ⟨by kernel_rfl, ?_⟩) (by assumption) ?_
                        rotate_left
                        · intro w hSw; (try dsimp only at hSw); go_simp; try with_reducible rfl
                        simp only [Act.put, List.setIfInBounds_toArray, List.set_cons_zero, List.set_cons_succ]
                        refine wpAnyH_take (i := 19) (oi := { dst := some 46, op := Go.Op.binOp Go.BinOp.lss 5 (Go.Operand.tmp 45) (Go.Operand.const (Go.Value.int Go.IntKind.u8 97)) 5, type := 4, pos := "l04_graph.go:21", after := #[{ on := 18, ground := Go.Ground.data }, { on := 16, ground := Go.Ground.guard }], guard := some (16, false) }) (v := ?_) rfl (by kernel_rfl) (by kernel_rfl) (by kernel_rfl) (fun _ _ _ h => h) (Or.inl ⟨by kernel_rfl, ?_⟩) (by assumption) ?_
                        rotate_left
                        · intro w hSw; (try dsimp only at hSw); go_simp; try with_reducible rfl
                        simp only [Act.put, List.setIfInBounds_toArray, List.set_cons_zero, List.set_cons_succ]
                        refine wpAnyH_take (i := 20) (oi := { dst := some 47, op := Go.Op.pick (Go.Operand.tmp 43) (Go.Operand.const (Go.Value.bool true)) (Go.Operand.tmp 46), type := 4, pos := "l04_graph.go:21", after := #[{ on := 16, ground := Go.Ground.data }, { on := 19, ground := Go.Ground.data }], guard := none }) (v := ?_) rfl (by kernel_rfl) (by kernel_rfl) (by kernel_rfl) (fun _ _ _ h => h) (Or.inl ⟨by kernel_rfl, ?_⟩) (by assumption) ?_
                        rotate_left
                        · intro w hSw; (try dsimp only at hSw); go_simp; try with_reducible rfl
                        simp only [Act.put, List.setIfInBounds_toArray, List.set_cons_zero, List.set_cons_succ]
                        refine wpAnyH_take (i := 21) (oi := { dst := some 48, op := Go.Op.move (Go.Operand.tmp 47), type := 4, pos := "l04_graph.go:21", after := #[{ on := 20, ground := Go.Ground.data }, { on := 16, ground := Go.Ground.chain }], guard := none }) (v := ?_) rfl (by kernel_rfl) (by kernel_rfl) (by kernel_rfl) (fun _ _ _ h => h) (Or.inl ⟨by kernel_rfl, ?_⟩) (by assumption) ?_
                        rotate_left
                        · intro w hSw; (try dsimp only at hSw); go_simp; try with_reducible rfl
                        simp only [Act.put, List.setIfInBounds_toArray, List.set_cons_zero, List.set_cons_succ]
                        refine wpAnyH_take (i := 22) (oi := { dst := some 49, op := Go.Op.fieldAddr 99 (Go.Operand.tmp 4) 1, type := 0, pos := "l04_graph.go:21", after := #[{ on := 21, ground := Go.Ground.guard }], guard := some (21, false) }) (v := ?_) rfl (by kernel_rfl) (by kernel_rfl) (by kernel_rfl) (fun _ _ _ h => h) (Or.inl ⟨by kernel_rfl, ?_⟩) (by assumption) ?_
                        rotate_left
                        · intro w hSw; (try dsimp only at hSw); go_simp; try with_reducible rfl
                        simp only [Act.put, List.setIfInBounds_toArray, List.set_cons_zero, List.set_cons_succ]
                        refine wpAnyH_take (i := 23) (oi := { dst := some 50, op := Go.Op.load 5 (Go.Operand.tmp 49), type := 5, pos := "l04_graph.go:21", after := #[{ on := 22, ground := Go.Ground.data }, { on := 21, ground := Go.Ground.guard }], guard := some (21, false) }) (v := ?_) rfl (by kernel_rfl) (by kernel_rfl) (by kernel_rfl) (fun _ _ _ h => h) (Or.inl ⟨by kernel_rfl, ?_⟩) (by assumption) ?_
                        rotate_left
                        · intro w hSw; (try dsimp only at hSw); go_simp; try with_reducible rfl
                        simp only [Act.put, List.setIfInBounds_toArray, List.set_cons_zero, List.set_cons_succ]
                        refine wpAnyH_take (i := 24) (oi := { dst := some 51, op := Go.Op.binOp Go.BinOp.gtr 5 (Go.Operand.tmp 50) (Go.Operand.const (Go.Value.int Go.IntKind.u8 100)) 5, type := 4, pos := "l04_graph.go:21", after := #[{ on := 23, ground := Go.Ground.data }, { on := 21, ground := Go.Ground.guard }], guard := some (21, false) }) (v := ?_) rfl (by kernel_rfl) (by kernel_rfl) (by kernel_rfl) (fun _ _ _ h => h) (Or.inl ⟨by kernel_rfl, ?_⟩) (by assumption) ?_
                        rotate_left
                        · intro w hSw; (try dsimp only at hSw); go_simp; try with_reducible rfl
                        simp only [Act.put, List.setIfInBounds_toArray, List.set_cons_zero, List.set_cons_succ]
                        refine wpAnyH_take (i := 25) (oi := { dst := some 52, op := Go.Op.pick (Go.Operand.tmp 48) (Go.Operand.const (Go.Value.bool true)) (Go.Operand.tmp 51), type := 4, pos := "l04_graph.go:21", after := #[{ on := 21, ground := Go.Ground.data }, { on := 24, ground := Go.Ground.data }], guard := none }) (v := ?_) rfl (by kernel_rfl) (by kernel_rfl) (by kernel_rfl) (fun _ _ _ h => h) (Or.inl ⟨by kernel_rfl, ?_⟩) (by assumption) ?_
                        rotate_left
                        · intro w hSw; (try dsimp only at hSw); go_simp; try with_reducible rfl
                        simp only [Act.put, List.setIfInBounds_toArray, List.set_cons_zero, List.set_cons_succ]
                        refine wpAnyH_take (i := 26) (oi := { dst := some 53, op := Go.Op.move (Go.Operand.tmp 52), type := 4, pos := "l04_graph.go:21", after := #[{ on := 25, ground := Go.Ground.data }, { on := 21, ground := Go.Ground.chain }], guard := none }) (v := ?_) rfl (by kernel_rfl) (by kernel_rfl) (by kernel_rfl) (fun _ _ _ h => h) (Or.inl ⟨by kernel_rfl, ?_⟩) (by assumption) ?_
                        rotate_left
                        · intro w hSw; (try dsimp only at hSw); go_simp; try with_reducible rfl
                        simp only [Act.put, List.setIfInBounds_toArray, List.set_cons_zero, List.set_cons_succ]
                        refine wpAnyH_take (i := 27) (oi := { dst := some 54, op := Go.Op.move (Go.Operand.tmp 3), type := 3, pos := "l04_graph.go:21", after := #[{ on := 26, ground := Go.Ground.guard }], guard := some (26, false) }) (v := ?_) rfl (by kernel_rfl) (by kernel_rfl) (by kernel_rfl) (fun _ _ _ h => h) (Or.inl ⟨by kernel_rfl, ?_⟩) (by assumption) ?_
                        rotate_left
                        · intro w hSw; (try dsimp only at hSw); go_simp; try with_reducible rfl
                        simp only [Act.put, List.setIfInBounds_toArray, List.set_cons_zero, List.set_cons_succ]
                        refine wpAnyH_take (i := 28) (oi := { dst := some 55, op := Go.Op.binOp Go.BinOp.gtr 3 (Go.Operand.tmp 54) (Go.Operand.const (Go.Value.int Go.IntKind.i64 0)) 3, type := 4, pos := "l04_graph.go:21", after := #[{ on := 27, ground := Go.Ground.data }, { on := 26, ground := Go.Ground.guard }], guard := some (26, false) }) (v := ?_) rfl (by kernel_rfl) (by kernel_rfl) (by kernel_rfl) (fun _ _ _ h => h) (Or.inl ⟨by kernel_rfl, ?_⟩) (by assumption) ?_
                        rotate_left
                        · intro w hSw; (try dsimp only at hSw); go_simp; try with_reducible rfl
                        simp only [Act.put, List.setIfInBounds_toArray, List.set_cons_zero, List.set_cons_succ]
                        refine wpAnyH_take (i := 29) (oi := { dst := some 56, op := Go.Op.move (Go.Operand.tmp 55), type := 4, pos := "l04_graph.go:21", after := #[{ on := 28, ground := Go.Ground.data }, { on := 26, ground := Go.Ground.chain }, { on := 26, ground := Go.Ground.guard }], guard := some (26, false) }) (v := ?_) rfl (by kernel_rfl) (by kernel_rfl) (by kernel_rfl) (fun _ _ _ h => h) (Or.inl ⟨by kernel_rfl, ?_⟩) (by assumption) ?_
                        rotate_left
                        · intro w hSw; (try dsimp only at hSw); go_simp; try with_reducible rfl
                        simp only [Act.put, List.setIfInBounds_toArray, List.set_cons_zero, List.set_cons_succ]
                        refine wpAnyH_take (i := 30) (oi := { dst := some 57, op := Go.Op.fieldAddr 26 (Go.Operand.tmp 1) 1, type := 0, pos := "l04_graph.go:21", after := #[{ on := 29, ground := Go.Ground.guard }], guard := some (29, true) }) (v := undef) rfl (by kernel_rfl) (by kernel_rfl) (by kernel_rfl) (fun _ _ _ h => h) (Or.inr ⟨by kernel_rfl, rfl⟩) (by assumption) ?_
                        simp only [Act.put, List.setIfInBounds_toArray, List.set_cons_zero, List.set_cons_succ]
                        refine wpAnyH_take (i := 31) (oi := { dst := some 58, op := Go.Op.load 24 (Go.Operand.tmp 57), type := 24, pos := "l04_graph.go:21", after := #[{ on := 30, ground := Go.Ground.data }, { on := 29, ground := Go.Ground.guard }], guard := some (29, true) }) (v := undef) rfl (by kernel_rfl) (by kernel_rfl) (by kernel_rfl) (fun _ _ _ h => h) (Or.inr ⟨by kernel_rfl, rfl⟩) (by assumption) ?_
                        simp only [Act.put, List.setIfInBounds_toArray, List.set_cons_zero, List.set_cons_succ]
                        refine wpAnyH_take (i := 32) (oi := { dst := some 59, op := Go.Op.move (Go.Operand.tmp 3), type := 3, pos := "l04_graph.go:21", after := #[{ on := 29, ground := Go.Ground.guard }], guard := some (29, true) }) (v := undef) rfl (by kernel_rfl) (by kernel_rfl) (by kernel_rfl) (fun _ _ _ h => h) (Or.inr ⟨by kernel_rfl, rfl⟩) (by assumption) ?_
                        simp only [Act.put, List.setIfInBounds_toArray, List.set_cons_zero, List.set_cons_succ]
                        refine wpAnyH_take (i := 33) (oi := { dst := some 60, op := Go.Op.binOp Go.BinOp.sub 3 (Go.Operand.tmp 59) (Go.Operand.const (Go.Value.int Go.IntKind.i64 1)) 3, type := 3, pos := "l04_graph.go:21", after := #[{ on := 32, ground := Go.Ground.data }, { on := 29, ground := Go.Ground.guard }], guard := some (29, true) }) (v := undef) rfl (by kernel_rfl) (by kernel_rfl) (by kernel_rfl) (fun _ _ _ h => h) (Or.inr ⟨by kernel_rfl, rfl⟩) (by assumption) ?_
                        simp only [Act.put, List.setIfInBounds_toArray, List.set_cons_zero, List.set_cons_succ]
                        refine wpAnyH_take (i := 34) (oi := { dst := some 61, op := Go.Op.indexAddr 24 (Go.Operand.tmp 58) (Go.Operand.tmp 60), type := 0, pos := "l04_graph.go:21", after := #[{ on := 31, ground := Go.Ground.data }, { on := 33, ground := Go.Ground.data }, { on := 29, ground := Go.Ground.guard }], guard := some (29, true) }) (v := undef) rfl (by kernel_rfl) (by kernel_rfl) (by kernel_rfl) (fun _ _ _ h => h) (Or.inr ⟨by kernel_rfl, rfl⟩) (by assumption) ?_
                        simp only [Act.put, List.setIfInBounds_toArray, List.set_cons_zero, List.set_cons_succ]
                        refine wpAnyH_take (i := 35) (oi := { dst := some 62, op := Go.Op.load 99 (Go.Operand.tmp 61), type := 99, pos := "l04_graph.go:21", after := #[{ on := 34, ground := Go.Ground.data }, { on := 29, ground := Go.Ground.guard }], guard := some (29, true) }) (v := undef) rfl (by kernel_rfl) (by kernel_rfl) (by kernel_rfl) (fun _ _ _ h => h) (Or.inr ⟨by kernel_rfl, rfl⟩) (by assumption) ?_
                        simp only [Act.put, List.setIfInBounds_toArray, List.set_cons_zero, List.set_cons_succ]
                        refine wpAnyH_take (i := 36) (oi := { dst := some 63, op := Go.Op.load 99 (Go.Operand.tmp 4), type := 99, pos := "l04_graph.go:21", after := #[{ on := 29, ground := Go.Ground.guard }], guard := some (29, true) }) (v := undef) rfl (by kernel_rfl) (by kernel_rfl) (by kernel_rfl) (fun _ _ _ h => h) (Or.inr ⟨by kernel_rfl, rfl⟩) (by assumption) ?_
                        simp only [Act.put, List.setIfInBounds_toArray, List.set_cons_zero, List.set_cons_succ]
                        refine wpAnyH_ready (rs := [37]) (by kernel_rfl) (by simp) ?_
                        refine AllReadyH.cons (o := { dst := some 64, op := Go.Op.call { callee := Go.Callee.value (Go.Operand.func 66), args := #[Go.Operand.tmp 62, Go.Operand.tmp 63], argTypes := #[99, 99] }, type := 4, pos := "l04_graph.go:21", after := #[{ on := 35, ground := Go.Ground.data }, { on := 36, ground := Go.Ground.data }, { on := 29, ground := Go.Ground.chain }, { on := 29, ground := Go.Ground.guard }], guard := some (29, true) }) rfl (fun K hK => ?_) ?_
                        · rw [if_neg (by refine Bool.eq_false_iff.1 ?_; kernel_rfl)]
                          refine hK.out _ _ hHeld (fun hHeld => ?_)
                          clear hK K
                          try simp only [Act.put, List.setIfInBounds_toArray, List.set_cons_zero, List.set_cons_succ]
                          refine wpAnyH_take (i := 38) (oi := { dst := some 65, op := Go.Op.unOp Go.UnOp.not 4 (Go.Operand.tmp 64), type := 4, pos := "l04_graph.go:21", after := #[{ on := 37, ground := Go.Ground.data }, { on := 29, ground := Go.Ground.guard }], guard := some (29, true) }) (v := undef) rfl (by kernel_rfl) (by kernel_rfl) (by kernel_rfl) (fun _ _ _ h => h) (Or.inr ⟨by kernel_rfl, rfl⟩) (by assumption) ?_
                          simp only [Act.put, List.setIfInBounds_toArray, List.set_cons_zero, List.set_cons_succ]
                          refine wpAnyH_take (i := 39) (oi := { dst := some 66, op := Go.Op.pick (Go.Operand.tmp 56) (Go.Operand.tmp 65) (Go.Operand.const (Go.Value.bool false)), type := 4, pos := "l04_graph.go:21", after := #[{ on := 29, ground := Go.Ground.data }, { on := 38, ground := Go.Ground.data }, { on := 26, ground := Go.Ground.guard }], guard := some (26, false) }) (v := ?_) rfl (by kernel_rfl) (by kernel_rfl) (by kernel_rfl) (fun _ _ _ h => h) (Or.inl ⟨by kernel_rfl, ?_⟩) (by assumption) ?_
                          rotate_left
                          · intro w hSw; (try dsimp only at hSw); go_simp; try with_reducible rfl
                          simp only [Act.put, List.setIfInBounds_toArray, List.set_cons_zero, List.set_cons_succ]
                          refine wpAnyH_take (i := 40) (oi := { dst := some 67, op := Go.Op.pick (Go.Operand.tmp 53) (Go.Operand.const (Go.Value.bool true)) (Go.Operand.tmp 66), type := 4, pos := "l04_graph.go:21", after := #[{ on := 26, ground := Go.Ground.data }, { on := 39, ground := Go.Ground.data }], guard := none }) (v := ?_) rfl (by kernel_rfl) (by kernel_rfl) (by kernel_rfl) (fun _ _ _ h => h) (Or.inl ⟨by kernel_rfl, ?_⟩) (by assumption) ?_
                          rotate_left
                          · intro w hSw; (try dsimp only at hSw); go_simp; try with_reducible rfl
                          simp only [Act.put, List.setIfInBounds_toArray, List.set_cons_zero, List.set_cons_succ]
                          refine wpAnyH_done (by kernel_rfl) ?_ _
                          clear hHeld
                          go_wp2
                          go_roundw
                          case rel => exact ⟨1, by go_num, by omega, by show _ = _; simp only [okGTo]; rw [okGAt_zero HOT.out]; rfl, HLW.out.drew, HXW⟩
                          case measure => simp [intOf]; omega
                        exact AllReadyH.nil
                      exact AllReadyH.nil
                    exact AllReadyH.nil
                  · obtain ⟨m, rfl⟩ : ∃ m, k = m + 1 := ⟨k - 1, by omega⟩
                    obtain ⟨b2, o2, eq2, _, _, hy⟩ := HBW.out.edge (k := m) (by rw [HN.out]; omega)
                    simp only [Option.some.injEq, Addr.mk.injEq, and_true] at eq2
                    obtain ⟨rfl, rfl⟩ := eq2
                    obtain ⟨y, HYY⟩ : ∃ x : Ed, Hid (x = eat l m) := ⟨_, rfl⟩
                    rw [← HYY.out] at hy
                    obtain ⟨v, HV⟩ : ∃ v : Bool, Hid (v = ltE y (x0, x1, x2)) := ⟨_, rfl⟩
                    have HOK : Hid (okGAt s l (m + 1) = v) := by show _ = _; rw [okGAt_pos HOT.out (by omega), Nat.add_sub_cancel, ← HXX.out, ← HYY.out, HV.out]
                    have hyW : EdgeAt W b (o + m * 3) y := hy.below HWB.out (lt_of_cell hy.1)
                    obtain ⟨y0, y1, y2⟩ := y
                    obtain ⟨y0', y1', y2'⟩ := hyW
                    dsimp only at y0' y1' y2'
                    have HC2 : Hid (∀ w0, Calls Try.prog 66 #[ev (y0, y1, y2), ev (x0, x1, x2)] w0 fun e w' => e = .returned (.bool v) ∧ Hid (Below w0.heap.size w0 w')) := fun w0 => specLess_edge _ _ v w0 HV.out
                    have hlt2 : (m : Int) < (n : Int) := by omega
                    have hm1 : (0 : Int) < (m : Int) + 1 := by omega
                    have hm2 : IntKind.i64.wrap ((m : Int) + 1 - 1) = (m : Int) := by simp [IntKind.wrap, IntKind.bits, IntKind.signed]; omega
                    have hm3 : IntKind.i64.wrap (m : Int) = (m : Int) := by simp [IntKind.wrap, IntKind.bits, IntKind.signed]; omega
                    have hm4 : (0 : Int) ≤ (m : Int) := by omega
                    clear hk0 hy
                    have HKS : Hid (∀ w', Below W.heap.size W w' → ((w'.cell? ⟨w.heap.size, 0, none⟩ = some (.int .i64 s) ∧ w'.cell? ⟨w.heap.size, 1, none⟩ = some (.slice (some ⟨b, o, none⟩) n cap)) ∧ (w'.cell? ⟨wr.heap.size, 0, none⟩ = some (.int .i64 x0) ∧ w'.cell? ⟨wr.heap.size, 1, none⟩ = some (.int .u8 x1) ∧ w'.cell? ⟨wr.heap.size, 2, none⟩ = some (.int .i64 x2)) ∧ (w'.cell? ⟨b, o + m * 3, none⟩ = some (.int .i64 y0) ∧ w'.cell? ⟨b, o + m * 3 + 1, none⟩ = some (.int .u8 y1) ∧ w'.cell? ⟨b, o + m * 3 + 2, none⟩ = some (.int .i64 y2)))) := fun w' h => ⟨⟨cell_below g0 h (lt_of_cell g0), cell_below g1 h (lt_of_cell g1)⟩, ⟨cell_below e0 h (lt_of_cell e0), cell_below e1 h (lt_of_cell e1), cell_below e2 h (lt_of_cell e2)⟩, ⟨cell_below y0' h (lt_of_cell y0'), cell_below y1' h (lt_of_cell y1'), cell_below y2' h (lt_of_cell y2')⟩⟩
                    refine wp_region_held_drew (S := fun w' => (w'.cell? ⟨w.heap.size, 0, none⟩ = some (.int .i64 s) ∧ w'.cell? ⟨w.heap.size, 1, none⟩ = some (.slice (some ⟨b, o, none⟩) n cap)) ∧ (w'.cell? ⟨wr.heap.size, 0, none⟩ = some (.int .i64 x0) ∧ w'.cell? ⟨wr.heap.size, 1, none⟩ = some (.int .u8 x1) ∧ w'.cell? ⟨wr.heap.size, 2, none⟩ = some (.int .i64 x2)) ∧ (w'.cell? ⟨b, o + m * 3, none⟩ = some (.int .i64 y0) ∧ w'.cell? ⟨b, o + m * 3 + 1, none⟩ = some (.int .u8 y1) ∧ w'.cell? ⟨b, o + m * 3 + 2, none⟩ = some (.int .i64 y2))) (by kernel_rfl) (HKS.out _ ((Below.refl _ _).drew)) (fun hHeld => ?_)
                    refine wpAnyH_take (i := 0) (oi := { dst := some 27, op := Go.Op.fieldAddr 99 (Go.Operand.tmp 4) 0, type := 0, pos := "l04_graph.go:21", after := #[], guard := none }) (v := ?_) rfl (by kernel_rfl) (by kernel_rfl) (by kernel_rfl) (fun _ _ _ h => h) (Or.inl ⟨by kernel_rfl, ?_⟩) (by assumption) ?_
                    rotate_left
                    · intro w hSw; (try dsimp only at hSw); go_simp; try with_reducible rfl
                    simp only [Act.put, List.setIfInBounds_toArray, List.set_cons_zero, List.set_cons_succ]
                    refine wpAnyH_take (i := 1) (oi := { dst := some 28, op := Go.Op.load 3 (Go.Operand.tmp 27), type := 3, pos := "l04_graph.go:21", after := #[{ on := 0, ground := Go.Ground.data }], guard := none }) (v := ?_) rfl (by kernel_rfl) (by kernel_rfl) (by kernel_rfl) (fun _ _ _ h => h) (Or.inl ⟨by kernel_rfl, ?_⟩) (by assumption) ?_
                    rotate_left
                    · intro w hSw; (try dsimp only at hSw); go_simp; try with_reducible rfl
                    simp only [Act.put, List.setIfInBounds_toArray, List.set_cons_zero, List.set_cons_succ]
                    refine wpAnyH_take (i := 2) (oi := { dst := some 29, op := Go.Op.fieldAddr 26 (Go.Operand.tmp 1) 0, type := 0, pos := "l04_graph.go:21", after := #[], guard := none }) (v := ?_) rfl (by kernel_rfl) (by kernel_rfl) (by kernel_rfl) (fun _ _ _ h => h) (Or.inl ⟨by kernel_rfl, ?_⟩) (by assumption) ?_
                    rotate_left
                    · intro w hSw; (try dsimp only at hSw); go_simp; try with_reducible rfl
                    simp only [Act.put, List.setIfInBounds_toArray, List.set_cons_zero, List.set_cons_succ]
                    refine wpAnyH_take (i := 3) (oi := { dst := some 30, op := Go.Op.load 3 (Go.Operand.tmp 29), type := 3, pos := "l04_graph.go:21", after := #[{ on := 2, ground := Go.Ground.data }], guard := none }) (v := ?_) rfl (by kernel_rfl) (by kernel_rfl) (by kernel_rfl) (fun _ _ _ h => h) (Or.inl ⟨by kernel_rfl, ?_⟩) (by assumption) ?_
                    rotate_left
                    · intro w hSw; (try dsimp only at hSw); go_simp; try with_reducible rfl
                    simp only [Act.put, List.setIfInBounds_toArray, List.set_cons_zero, List.set_cons_succ]
                    refine wpAnyH_take (i := 4) (oi := { dst := some 31, op := Go.Op.binOp Go.BinOp.sub 3 (Go.Operand.tmp 30) (Go.Operand.const (Go.Value.int Go.IntKind.i64 1)) 3, type := 3, pos := "l04_graph.go:21", after := #[{ on := 3, ground := Go.Ground.data }], guard := none }) (v := ?_) rfl (by kernel_rfl) (by kernel_rfl) (by kernel_rfl) (fun _ _ _ h => h) (Or.inl ⟨by kernel_rfl, ?_⟩) (by assumption) ?_
                    rotate_left
                    · intro w hSw; (try dsimp only at hSw); go_simp; try with_reducible rfl
                    simp only [Act.put, List.setIfInBounds_toArray, List.set_cons_zero, List.set_cons_succ]
                    refine wpAnyH_ready (rs := [5]) (by kernel_rfl) (by simp) ?_
                    refine AllReadyH.cons (o := { dst := some 32, op := Go.Op.call { callee := Go.Callee.value (Go.Operand.func 46), args := #[Go.Operand.tmp 28, Go.Operand.const (Go.Value.int Go.IntKind.i64 0), Go.Operand.tmp 31], argTypes := #[3, 3, 3] }, type := 4, pos := "l04_graph.go:21", after := #[{ on := 1, ground := Go.Ground.data }, { on := 4, ground := Go.Ground.data }], guard := none }) rfl (fun K hK => ?_) ?_
                    · go_simp
                      go_wp2_with (go_at_call 46; refine (HC0.out _).mono ?_; rintro e w1 ⟨rfl, rfl⟩)
                      refine hK.out _ _ hHeld (fun hHeld => ?_)
                      clear hK K
                      try simp only [Act.put, List.setIfInBounds_toArray, List.set_cons_zero, List.set_cons_succ]
                      refine wpAnyH_take (i := 6) (oi := { dst := some 33, op := Go.Op.unOp Go.UnOp.not 4 (Go.Operand.tmp 32), type := 4, pos := "l04_graph.go:21", after := #[{ on := 5, ground := Go.Ground.data }], guard := none }) (v := ?_) rfl (by kernel_rfl) (by kernel_rfl) (by kernel_rfl) (fun _ _ _ h => h) (Or.inl ⟨by kernel_rfl, ?_⟩) (by assumption) ?_
                      rotate_left
                      · intro w hSw; (try dsimp only at hSw); go_simp; try with_reducible rfl
                      simp only [Act.put, List.setIfInBounds_toArray, List.set_cons_zero, List.set_cons_succ]
                      refine wpAnyH_take (i := 7) (oi := { dst := some 34, op := Go.Op.move (Go.Operand.tmp 33), type := 4, pos := "l04_graph.go:21", after := #[{ on := 6, ground := Go.Ground.data }, { on := 5, ground := Go.Ground.chain }], guard := none }) (v := ?_) rfl (by kernel_rfl) (by kernel_rfl) (by kernel_rfl) (fun _ _ _ h => h) (Or.inl ⟨by kernel_rfl, ?_⟩) (by assumption) ?_
                      rotate_left
                      · intro w hSw; (try dsimp only at hSw); go_simp; try with_reducible rfl
                      simp only [Act.put, List.setIfInBounds_toArray, List.set_cons_zero, List.set_cons_succ]
                      refine wpAnyH_take (i := 8) (oi := { dst := some 35, op := Go.Op.fieldAddr 99 (Go.Operand.tmp 4) 2, type := 0, pos := "l04_graph.go:21", after := #[{ on := 7, ground := Go.Ground.guard }], guard := some (7, false) }) (v := ?_) rfl (by kernel_rfl) (by kernel_rfl) (by kernel_rfl) (fun _ _ _ h => h) (Or.inl ⟨by kernel_rfl, ?_⟩) (by assumption) ?_
                      rotate_left
                      · intro w hSw; (try dsimp only at hSw); go_simp; try with_reducible rfl
                      simp only [Act.put, List.setIfInBounds_toArray, List.set_cons_zero, List.set_cons_succ]
                      refine wpAnyH_take (i := 9) (oi := { dst := some 36, op := Go.Op.load 3 (Go.Operand.tmp 35), type := 3, pos := "l04_graph.go:21", after := #[{ on := 8, ground := Go.Ground.data }, { on := 7, ground := Go.Ground.guard }], guard := some (7, false) }) (v := ?_) rfl (by kernel_rfl) (by kernel_rfl) (by kernel_rfl) (fun _ _ _ h => h) (Or.inl ⟨by kernel_rfl, ?_⟩) (by assumption) ?_
                      rotate_left
                      · intro w hSw; (try dsimp only at hSw); go_simp; try with_reducible rfl
                      simp only [Act.put, List.setIfInBounds_toArray, List.set_cons_zero, List.set_cons_succ]
                      refine wpAnyH_take (i := 10) (oi := { dst := some 37, op := Go.Op.fieldAddr 26 (Go.Operand.tmp 1) 0, type := 0, pos := "l04_graph.go:21", after := #[{ on := 7, ground := Go.Ground.guard }], guard := some (7, false) }) (v := ?_) rfl (by kernel_rfl) (by kernel_rfl) (by kernel_rfl) (fun _ _ _ h => h) (Or.inl ⟨by kernel_rfl, ?_⟩) (by assumption) ?_
                      rotate_left
                      · intro w hSw; (try dsimp only at hSw); go_simp; try with_reducible rfl
                      simp only [Act.put, List.setIfInBounds_toArray, List.set_cons_zero, List.set_cons_succ]
                      refine wpAnyH_take (i := 11) (oi := { dst := some 38, op := Go.Op.load 3 (Go.Operand.tmp 37), type := 3, pos := "l04_graph.go:21", after := #[{ on := 10, ground := Go.Ground.data }, { on := 7, ground := Go.Ground.guard }], guard := some (7, false) }) (v := ?_) rfl (by kernel_rfl) (by kernel_rfl) (by kernel_rfl) (fun _ _ _ h => h) (Or.inl ⟨by kernel_rfl, ?_⟩) (by assumption) ?_
                      rotate_left
                      · intro w hSw; (try dsimp only at hSw); go_simp; try with_reducible rfl
                      simp only [Act.put, List.setIfInBounds_toArray, List.set_cons_zero, List.set_cons_succ]
                      refine wpAnyH_take (i := 12) (oi := { dst := some 39, op := Go.Op.binOp Go.BinOp.sub 3 (Go.Operand.tmp 38) (Go.Operand.const (Go.Value.int Go.IntKind.i64 1)) 3, type := 3, pos := "l04_graph.go:21", after := #[{ on := 11, ground := Go.Ground.data }, { on := 7, ground := Go.Ground.guard }], guard := some (7, false) }) (v := ?_) rfl (by kernel_rfl) (by kernel_rfl) (by kernel_rfl) (fun _ _ _ h => h) (Or.inl ⟨by kernel_rfl, ?_⟩) (by assumption) ?_
                      rotate_left
                      · intro w hSw; (try dsimp only at hSw); go_simp; try with_reducible rfl
                      simp only [Act.put, List.setIfInBounds_toArray, List.set_cons_zero, List.set_cons_succ]
                      refine wpAnyH_ready (rs := [13]) (by kernel_rfl) (by simp) ?_
                      refine AllReadyH.cons (o := { dst := some 40, op := Go.Op.call { callee := Go.Callee.value (Go.Operand.func 46), args := #[Go.Operand.tmp 36, Go.Operand.const (Go.Value.int Go.IntKind.i64 0), Go.Operand.tmp 39], argTypes := #[3, 3, 3] }, type := 4, pos := "l04_graph.go:21", after := #[{ on := 9, ground := Go.Ground.data }, { on := 12, ground := Go.Ground.data }, { on := 7, ground := Go.Ground.chain }, { on := 7, ground := Go.Ground.guard }], guard := some (7, false) }) rfl (fun K hK => ?_) ?_
                      · go_simp
                        go_wp2_with (go_at_call 46; refine (HC1.out _).mono ?_; rintro e w1 ⟨rfl, rfl⟩)
                        refine hK.out _ _ hHeld (fun hHeld => ?_)
                        clear hK K
                        try simp only [Act.put, List.setIfInBounds_toArray, List.set_cons_zero, List.set_cons_succ]
                        refine wpAnyH_take (i := 14) (oi := { dst := some 41, op := Go.Op.unOp Go.UnOp.not 4 (Go.Operand.tmp 40), type := 4, pos := "l04_graph.go:21", after := #[{ on := 13, ground := Go.Ground.data }, { on := 7, ground := Go.Ground.guard }], guard := some (7, false) }) (v := ?_) rfl (by kernel_rfl) (by kernel_rfl) (by kernel_rfl) (fun _ _ _ h => h) (Or.inl ⟨by kernel_rfl, ?_⟩) (by assumption) ?_
                        rotate_left
                        · intro w hSw; (try dsimp only at hSw); go_simp; try with_reducible rfl
                        simp only [Act.put, List.setIfInBounds_toArray, List.set_cons_zero, List.set_cons_succ]
                        refine wpAnyH_take (i := 15) (oi := { dst := some 42, op := Go.Op.pick (Go.Operand.tmp 34) (Go.Operand.const (Go.Value.bool true)) (Go.Operand.tmp 41), type := 4, pos := "l04_graph.go:21", after := #[{ on := 7, ground := Go.Ground.data }, { on := 14, ground := Go.Ground.data }], guard := none }) (v := ?_) rfl (by kernel_rfl) (by kernel_rfl) (by kernel_rfl) (fun _ _ _ h => h) (Or.inl ⟨by kernel_rfl, ?_⟩) (by assumption) ?_
                        rotate_left
                        · intro w hSw; (try dsimp only at hSw); go_simp; try with_reducible rfl
                        simp only [Act.put, List.setIfInBounds_toArray, List.set_cons_zero, List.set_cons_succ]
                        refine wpAnyH_take (i := 16) (oi := { dst := some 43, op := Go.Op.move (Go.Operand.tmp 42), type := 4, pos := "l04_graph.go:21", after := #[{ on := 15, ground := Go.Ground.data }, { on := 13, ground := Go.Ground.chain }], guard := none }) (v := ?_) rfl (by kernel_rfl) (by kernel_rfl) (by kernel_rfl) (fun _ _ _ h => h) (Or.inl ⟨by kernel_rfl, ?_⟩) (by assumption) ?_
                        rotate_left
                        · intro w hSw; (try dsimp only at hSw); go_simp; try with_reducible rfl
                        simp only [Act.put, List.setIfInBounds_toArray, List.set_cons_zero, List.set_cons_succ]
                        refine wpAnyH_take (i := 17) (oi := { dst := some 44, op := Go.Op.fieldAddr 99 (Go.Operand.tmp 4) 1, type := 0, pos := "l04_graph.go:21", after := #[{ on := 16, ground := Go.Ground.guard }], guard := some (16, false) }) (v := ?_) rfl (by kernel_rfl) (by kernel_rfl) (by kernel_rfl) (fun _ _ _ h => h) (Or.inl ⟨by kernel_rfl, ?_⟩) (by assumption) ?_
                        rotate_left
                        · intro w hSw; (try dsimp only at hSw); go_simp; try with_reducible rfl
                        simp only [Act.put, List.setIfInBounds_toArray, List.set_cons_zero, List.set_cons_succ]
                        refine wpAnyH_take (i := 18) (oi := { dst := some 45, op := Go.Op.load 5 (Go.Operand.tmp 44), type := 5, pos := "l04_graph.go:21", after := #[{ on := 17, ground := Go.Ground.data }, { on := 16, ground := Go.Ground.guard }], guard := some (16, false) }) (v := ?_) rfl (by kernel_rfl) (by kernel_rfl) (by kernel_rfl) (fun _ _ _ h => h) (Or.inl ⟨by kernel_rfl, ?_⟩) (by assumption) ?_
                        rotate_left
                        · intro w hSw; (try dsimp only at hSw); go_simp; try with_reducible rfl
                        simp only [Act.put, List.setIfInBounds_toArray, List.set_cons_zero, List.set_cons_succ]
                        refine wpAnyH_take (i := 19) (oi := { dst := some 46, op := Go.Op.binOp Go.BinOp.lss 5 (Go.Operand.tmp 45) (Go.Operand.const (Go.Value.int Go.IntKind.u8 97)) 5, type := 4, pos := "l04_graph.go:21", after := #[{ on := 18, ground := Go.Ground.data }, { on := 16, ground := Go.Ground.guard }], guard := some (16, false) }) (v := ?_) rfl (by kernel_rfl) (by kernel_rfl) (by kernel_rfl) (fun _ _ _ h => h) (Or.inl ⟨by kernel_rfl, ?_⟩) (by assumption) ?_
                        rotate_left
                        · intro w hSw; (try dsimp only at hSw); go_simp; try with_reducible rfl
                        simp only [Act.put, List.setIfInBounds_toArray, List.set_cons_zero, List.set_cons_succ]
                        refine wpAnyH_take (i := 20) (oi := { dst := some 47, op := Go.Op.pick (Go.Operand.tmp 43) (Go.Operand.const (Go.Value.bool true)) (Go.Operand.tmp 46), type := 4, pos := "l04_graph.go:21", after := #[{ on := 16, ground := Go.Ground.data }, { on := 19, ground := Go.Ground.data }], guard := none }) (v := ?_) rfl (by kernel_rfl) (by kernel_rfl) (by kernel_rfl) (fun _ _ _ h => h) (Or.inl ⟨by kernel_rfl, ?_⟩) (by assumption) ?_
                        rotate_left
                        · intro w hSw; (try dsimp only at hSw); go_simp; try with_reducible rfl
                        simp only [Act.put, List.setIfInBounds_toArray, List.set_cons_zero, List.set_cons_succ]
                        refine wpAnyH_take (i := 21) (oi := { dst := some 48, op := Go.Op.move (Go.Operand.tmp 47), type := 4, pos := "l04_graph.go:21", after := #[{ on := 20, ground := Go.Ground.data }, { on := 16, ground := Go.Ground.chain }], guard := none }) (v := ?_) rfl (by kernel_rfl) (by kernel_rfl) (by kernel_rfl) (fun _ _ _ h => h) (Or.inl ⟨by kernel_rfl, ?_⟩) (by assumption) ?_
                        rotate_left
                        · intro w hSw; (try dsimp only at hSw); go_simp; try with_reducible rfl
                        simp only [Act.put, List.setIfInBounds_toArray, List.set_cons_zero, List.set_cons_succ]
                        refine wpAnyH_take (i := 22) (oi := { dst := some 49, op := Go.Op.fieldAddr 99 (Go.Operand.tmp 4) 1, type := 0, pos := "l04_graph.go:21", after := #[{ on := 21, ground := Go.Ground.guard }], guard := some (21, false) }) (v := ?_) rfl (by kernel_rfl) (by kernel_rfl) (by kernel_rfl) (fun _ _ _ h => h) (Or.inl ⟨by kernel_rfl, ?_⟩) (by assumption) ?_
                        rotate_left
                        · intro w hSw; (try dsimp only at hSw); go_simp; try with_reducible rfl
                        simp only [Act.put, List.setIfInBounds_toArray, List.set_cons_zero, List.set_cons_succ]
                        refine wpAnyH_take (i := 23) (oi := { dst := some 50, op := Go.Op.load 5 (Go.Operand.tmp 49), type := 5, pos := "l04_graph.go:21", after := #[{ on := 22, ground := Go.Ground.data }, { on := 21, ground := Go.Ground.guard }], guard := some (21, false) }) (v := ?_) rfl (by kernel_rfl) (by kernel_rfl) (by kernel_rfl) (fun _ _ _ h => h) (Or.inl ⟨by kernel_rfl, ?_⟩) (by assumption) ?_
                        rotate_left
                        · intro w hSw; (try dsimp only at hSw); go_simp; try with_reducible rfl
                        simp only [Act.put, List.setIfInBounds_toArray, List.set_cons_zero, List.set_cons_succ]
                        refine wpAnyH_take (i := 24) (oi := { dst := some 51, op := Go.Op.binOp Go.BinOp.gtr 5 (Go.Operand.tmp 50) (Go.Operand.const (Go.Value.int Go.IntKind.u8 100)) 5, type := 4, pos := "l04_graph.go:21", after := #[{ on := 23, ground := Go.Ground.data }, { on := 21, ground := Go.Ground.guard }], guard := some (21, false) }) (v := ?_) rfl (by kernel_rfl) (by kernel_rfl) (by kernel_rfl) (fun _ _ _ h => h) (Or.inl ⟨by kernel_rfl, ?_⟩) (by assumption) ?_
                        rotate_left
                        · intro w hSw; (try dsimp only at hSw); go_simp; try with_reducible rfl
                        simp only [Act.put, List.setIfInBounds_toArray, List.set_cons_zero, List.set_cons_succ]
                        refine wpAnyH_take (i := 25) (oi := { dst := some 52, op := Go.Op.pick (Go.Operand.tmp 48) (Go.Operand.const (Go.Value.bool true)) (Go.Operand.tmp 51), type := 4, pos := "l04_graph.go:21", after := #[{ on := 21, ground := Go.Ground.data }, { on := 24, ground := Go.Ground.data }], guard := none }) (v := ?_) rfl (by kernel_rfl) (by kernel_rfl) (by kernel_rfl) (fun _ _ _ h => h) (Or.inl ⟨by kernel_rfl, ?_⟩) (by assumption) ?_
                        rotate_left
                        · intro w hSw; (try dsimp only at hSw); go_simp; try with_reducible rfl
                        simp only [Act.put, List.setIfInBounds_toArray, List.set_cons_zero, List.set_cons_succ]
                        refine wpAnyH_take (i := 26) (oi := { dst := some 53, op := Go.Op.move (Go.Operand.tmp 52), type := 4, pos := "l04_graph.go:21", after := #[{ on := 25, ground := Go.Ground.data }, { on := 21, ground := Go.Ground.chain }], guard := none }) (v := ?_) rfl (by kernel_rfl) (by kernel_rfl) (by kernel_rfl) (fun _ _ _ h => h) (Or.inl ⟨by kernel_rfl, ?_⟩) (by assumption) ?_
                        rotate_left
                        · intro w hSw; (try dsimp only at hSw); go_simp; try with_reducible rfl
                        simp only [Act.put, List.setIfInBounds_toArray, List.set_cons_zero, List.set_cons_succ]
                        refine wpAnyH_take (i := 27) (oi := { dst := some 54, op := Go.Op.move (Go.Operand.tmp 3), type := 3, pos := "l04_graph.go:21", after := #[{ on := 26, ground := Go.Ground.guard }], guard := some (26, false) }) (v := ?_) rfl (by kernel_rfl) (by kernel_rfl) (by kernel_rfl) (fun _ _ _ h => h) (Or.inl ⟨by kernel_rfl, ?_⟩) (by assumption) ?_
                        rotate_left
                        · intro w hSw; (try dsimp only at hSw); go_simp; try with_reducible rfl
                        simp only [Act.put, List.setIfInBounds_toArray, List.set_cons_zero, List.set_cons_succ]
                        refine wpAnyH_take (i := 28) (oi := { dst := some 55, op := Go.Op.binOp Go.BinOp.gtr 3 (Go.Operand.tmp 54) (Go.Operand.const (Go.Value.int Go.IntKind.i64 0)) 3, type := 4, pos := "l04_graph.go:21", after := #[{ on := 27, ground := Go.Ground.data }, { on := 26, ground := Go.Ground.guard }], guard := some (26, false) }) (v := ?_) rfl (by kernel_rfl) (by kernel_rfl) (by kernel_rfl) (fun _ _ _ h => h) (Or.inl ⟨by kernel_rfl, ?_⟩) (by assumption) ?_
                        rotate_left
                        · intro w hSw; (try dsimp only at hSw); go_simp; try with_reducible rfl
                        simp only [Act.put, List.setIfInBounds_toArray, List.set_cons_zero, List.set_cons_succ]
                        refine wpAnyH_take (i := 29) (oi := { dst := some 56, op := Go.Op.move (Go.Operand.tmp 55), type := 4, pos := "l04_graph.go:21", after := #[{ on := 28, ground := Go.Ground.data }, { on := 26, ground := Go.Ground.chain }, { on := 26, ground := Go.Ground.guard }], guard := some (26, false) }) (v := ?_) rfl (by kernel_rfl) (by kernel_rfl) (by kernel_rfl) (fun _ _ _ h => h) (Or.inl ⟨by kernel_rfl, ?_⟩) (by assumption) ?_
                        rotate_left
                        · intro w hSw; (try dsimp only at hSw); go_simp; try with_reducible rfl
                        simp only [Act.put, List.setIfInBounds_toArray, List.set_cons_zero, List.set_cons_succ]
                        refine wpAnyH_take (i := 30) (oi := { dst := some 57, op := Go.Op.fieldAddr 26 (Go.Operand.tmp 1) 1, type := 0, pos := "l04_graph.go:21", after := #[{ on := 29, ground := Go.Ground.guard }], guard := some (29, true) }) (v := ?_) rfl (by kernel_rfl) (by kernel_rfl) (by kernel_rfl) (fun _ _ _ h => h) (Or.inl ⟨by kernel_rfl, ?_⟩) (by assumption) ?_
                        rotate_left
                        · intro w hSw; (try dsimp only at hSw); go_simp; try with_reducible rfl
                        simp only [Act.put, List.setIfInBounds_toArray, List.set_cons_zero, List.set_cons_succ]
                        refine wpAnyH_take (i := 31) (oi := { dst := some 58, op := Go.Op.load 24 (Go.Operand.tmp 57), type := 24, pos := "l04_graph.go:21", after := #[{ on := 30, ground := Go.Ground.data }, { on := 29, ground := Go.Ground.guard }], guard := some (29, true) }) (v := ?_) rfl (by kernel_rfl) (by kernel_rfl) (by kernel_rfl) (fun _ _ _ h => h) (Or.inl ⟨by kernel_rfl, ?_⟩) (by assumption) ?_
                        rotate_left
                        · intro w hSw; (try dsimp only at hSw); go_simp; try with_reducible rfl
                        simp only [Act.put, List.setIfInBounds_toArray, List.set_cons_zero, List.set_cons_succ]
                        refine wpAnyH_take (i := 32) (oi := { dst := some 59, op := Go.Op.move (Go.Operand.tmp 3), type := 3, pos := "l04_graph.go:21", after := #[{ on := 29, ground := Go.Ground.guard }], guard := some (29, true) }) (v := ?_) rfl (by kernel_rfl) (by kernel_rfl) (by kernel_rfl) (fun _ _ _ h => h) (Or.inl ⟨by kernel_rfl, ?_⟩) (by assumption) ?_
                        rotate_left
                        · intro w hSw; (try dsimp only at hSw); go_simp; try with_reducible rfl
                        simp only [Act.put, List.setIfInBounds_toArray, List.set_cons_zero, List.set_cons_succ]
                        refine wpAnyH_take (i := 33) (oi := { dst := some 60, op := Go.Op.binOp Go.BinOp.sub 3 (Go.Operand.tmp 59) (Go.Operand.const (Go.Value.int Go.IntKind.i64 1)) 3, type := 3, pos := "l04_graph.go:21", after := #[{ on := 32, ground := Go.Ground.data }, { on := 29, ground := Go.Ground.guard }], guard := some (29, true) }) (v := ?_) rfl (by kernel_rfl) (by kernel_rfl) (by kernel_rfl) (fun _ _ _ h => h) (Or.inl ⟨by kernel_rfl, ?_⟩) (by assumption) ?_
                        rotate_left
                        · intro w hSw; (try dsimp only at hSw); go_simp; try with_reducible rfl
                        simp only [Act.put, List.setIfInBounds_toArray, List.set_cons_zero, List.set_cons_succ]
                        refine wpAnyH_take (i := 34) (oi := { dst := some 61, op := Go.Op.indexAddr 24 (Go.Operand.tmp 58) (Go.Operand.tmp 60), type := 0, pos := "l04_graph.go:21", after := #[{ on := 31, ground := Go.Ground.data }, { on := 33, ground := Go.Ground.data }, { on := 29, ground := Go.Ground.guard }], guard := some (29, true) }) (v := ?_) rfl (by kernel_rfl) (by kernel_rfl) (by kernel_rfl) (fun _ _ _ h => h) (Or.inl ⟨by kernel_rfl, ?_⟩) (by assumption) ?_
                        rotate_left
                        · intro w hSw; (try dsimp only at hSw); go_simp; try with_reducible rfl
                        simp only [Act.put, List.setIfInBounds_toArray, List.set_cons_zero, List.set_cons_succ]
                        refine wpAnyH_take (i := 35) (oi := { dst := some 62, op := Go.Op.load 99 (Go.Operand.tmp 61), type := 99, pos := "l04_graph.go:21", after := #[{ on := 34, ground := Go.Ground.data }, { on := 29, ground := Go.Ground.guard }], guard := some (29, true) }) (v := ?_) rfl (by kernel_rfl) (by kernel_rfl) (by kernel_rfl) (fun _ _ _ h => h) (Or.inl ⟨by kernel_rfl, ?_⟩) (by assumption) ?_
                        rotate_left
                        · intro w hSw; (try dsimp only at hSw); go_simp; try with_reducible rfl
                        simp only [Act.put, List.setIfInBounds_toArray, List.set_cons_zero, List.set_cons_succ]
                        refine wpAnyH_take (i := 36) (oi := { dst := some 63, op := Go.Op.load 99 (Go.Operand.tmp 4), type := 99, pos := "l04_graph.go:21", after := #[{ on := 29, ground := Go.Ground.guard }], guard := some (29, true) }) (v := ?_) rfl (by kernel_rfl) (by kernel_rfl) (by kernel_rfl) (fun _ _ _ h => h) (Or.inl ⟨by kernel_rfl, ?_⟩) (by assumption) ?_
                        rotate_left
                        · intro w hSw; (try dsimp only at hSw); go_simp; try with_reducible rfl
                        simp only [Act.put, List.setIfInBounds_toArray, List.set_cons_zero, List.set_cons_succ]
                        refine wpAnyH_ready (rs := [37]) (by kernel_rfl) (by simp) ?_
                        refine AllReadyH.cons (o := { dst := some 64, op := Go.Op.call { callee := Go.Callee.value (Go.Operand.func 66), args := #[Go.Operand.tmp 62, Go.Operand.tmp 63], argTypes := #[99, 99] }, type := 4, pos := "l04_graph.go:21", after := #[{ on := 35, ground := Go.Ground.data }, { on := 36, ground := Go.Ground.data }, { on := 29, ground := Go.Ground.chain }, { on := 29, ground := Go.Ground.guard }], guard := some (29, true) }) rfl (fun K hK => ?_) ?_
                        · go_simp
                          go_wp2_with (go_at_call 66; refine (HC2.out _).mono ?_; rintro e w2 ⟨rfl, B2⟩)
                          have HB2 : Hid (Below W.heap.size W w2) := ((Below.refl _ _).drew).trans (B2.out.mono (Nat.le_refl _))
                          have hk2 := HKS.out _ HB2.out
                          clear B2
                          refine hK.out _ _ hk2 (fun hHeld => ?_)
                          clear hK K
                          try simp only [Act.put, List.setIfInBounds_toArray, List.set_cons_zero, List.set_cons_succ]
                          refine wpAnyH_take (i := 38) (oi := { dst := some 65, op := Go.Op.unOp Go.UnOp.not 4 (Go.Operand.tmp 64), type := 4, pos := "l04_graph.go:21", after := #[{ on := 37, ground := Go.Ground.data }, { on := 29, ground := Go.Ground.guard }], guard := some (29, true) }) (v := ?_) rfl (by kernel_rfl) (by kernel_rfl) (by kernel_rfl) (fun _ _ _ h => h) (Or.inl ⟨by kernel_rfl, ?_⟩) (by assumption) ?_
                          rotate_left
                          · intro w hSw; (try dsimp only at hSw); go_simp; try with_reducible rfl
                          simp only [Act.put, List.setIfInBounds_toArray, List.set_cons_zero, List.set_cons_succ]
                          refine wpAnyH_take (i := 39) (oi := { dst := some 66, op := Go.Op.pick (Go.Operand.tmp 56) (Go.Operand.tmp 65) (Go.Operand.const (Go.Value.bool false)), type := 4, pos := "l04_graph.go:21", after := #[{ on := 29, ground := Go.Ground.data }, { on := 38, ground := Go.Ground.data }, { on := 26, ground := Go.Ground.guard }], guard := some (26, false) }) (v := ?_) rfl (by kernel_rfl) (by kernel_rfl) (by kernel_rfl) (fun _ _ _ h => h) (Or.inl ⟨by kernel_rfl, ?_⟩) (by assumption) ?_
                          rotate_left
                          · intro w hSw; (try dsimp only at hSw); go_simp; try with_reducible rfl
                          simp only [Act.put, List.setIfInBounds_toArray, List.set_cons_zero, List.set_cons_succ]
                          refine wpAnyH_take (i := 40) (oi := { dst := some 67, op := Go.Op.pick (Go.Operand.tmp 53) (Go.Operand.const (Go.Value.bool true)) (Go.Operand.tmp 66), type := 4, pos := "l04_graph.go:21", after := #[{ on := 26, ground := Go.Ground.data }, { on := 39, ground := Go.Ground.data }], guard := none }) (v := ?_) rfl (by kernel_rfl) (by kernel_rfl) (by kernel_rfl) (fun _ _ _ h => h) (Or.inl ⟨by kernel_rfl, ?_⟩) (by assumption) ?_
                          rotate_left
                          · intro w hSw; (try dsimp only at hSw); go_simp; try with_reducible rfl
                          simp only [Act.put, List.setIfInBounds_toArray, List.set_cons_zero, List.set_cons_succ]
                          refine wpAnyH_done (by kernel_rfl) ?_ _
                          clear hHeld
                          rcases Bool.eq_false_or_eq_true v with hv | hv
                          · subst hv
                            go_wp2
                            go_roundw
                            case rel => exact ⟨m + 1 + 1, by go_num, by omega, by show _ = _; rw [okGTo, HE.out, HOK.out]; rfl, HLW.out.trans (HB2.out.mono HLW.out.size), HXW.out.of_block (HB2.out.block _ HXW.out.lt)⟩
                            case measure => simp [intOf]; omega
                          · subst hv
                            go_wp2
                            go_ret
                            refine ⟨?_, HLW.out.trans (HB2.out.mono HLW.out.size)⟩
                            have : r = false := by rw [HR.out]; exact okG_no (k := m + 1) (by rw [HN.out]; exact hlt) HOK.out
                            rw [this]; rfl
                        exact AllReadyH.nil
                      exact AllReadyH.nil
                    exact AllReadyH.nil
                · have hd8 : decide ((100 : Int) < x1) = true := by simp; omega
                  rw [decide_eq_false h100] at HOE
                  rw [Bool.and_false] at HOE
                  have HKS : Hid (∀ w', Below W.heap.size W w' → ((w'.cell? ⟨w.heap.size, 0, none⟩ = some (.int .i64 s) ∧ w'.cell? ⟨w.heap.size, 1, none⟩ = some (.slice (some ⟨b, o, none⟩) n cap)) ∧ (w'.cell? ⟨wr.heap.size, 0, none⟩ = some (.int .i64 x0) ∧ w'.cell? ⟨wr.heap.size, 1, none⟩ = some (.int .u8 x1) ∧ w'.cell? ⟨wr.heap.size, 2, none⟩ = some (.int .i64 x2)))) := fun w' h => ⟨⟨cell_below g0 h (lt_of_cell g0), cell_below g1 h (lt_of_cell g1)⟩, ⟨cell_below e0 h (lt_of_cell e0), cell_below e1 h (lt_of_cell e1), cell_below e2 h (lt_of_cell e2)⟩⟩
                  refine wp_region_held_drew (S := fun w' => (w'.cell? ⟨w.heap.size, 0, none⟩ = some (.int .i64 s) ∧ w'.cell? ⟨w.heap.size, 1, none⟩ = some (.slice (some ⟨b, o, none⟩) n cap)) ∧ (w'.cell? ⟨wr.heap.size, 0, none⟩ = some (.int .i64 x0) ∧ w'.cell? ⟨wr.heap.size, 1, none⟩ = some (.int .u8 x1) ∧ w'.cell? ⟨wr.heap.size, 2, none⟩ = some (.int .i64 x2))) (by kernel_rfl) (HKS.out _ ((Below.refl _ _).drew)) (fun hHeld => ?_)
                  refine wpAnyH_take (i := 0) (oi := { dst := some 27, op := Go.Op.fieldAddr 99 (Go.Operand.tmp 4) 0, type := 0, pos := "l04_graph.go:21", after := #[], guard := none }) (v := ?_) rfl (by kernel_rfl) (by kernel_rfl) (by kernel_rfl) (fun _ _ _ h => h) (Or.inl ⟨by kernel_rfl, ?_⟩) (by assumption) ?_
                  rotate_left
                  · intro w hSw; (try dsimp only at hSw); go_simp; try with_reducible rfl
                  simp only [Act.put, List.setIfInBounds_toArray, List.set_cons_zero, List.set_cons_succ]
                  refine wpAnyH_take (i := 1) (oi := { dst := some 28, op := Go.Op.load 3 (Go.Operand.tmp 27), type := 3, pos := "l04_graph.go:21", after := #[{ on := 0, ground := Go.Ground.data }], guard := none }) (v := ?_) rfl (by kernel_rfl) (by kernel_rfl) (by kernel_rfl) (fun _ _ _ h => h) (Or.inl ⟨by kernel_rfl, ?_⟩) (by assumption) ?_
                  rotate_left
                  · intro w hSw; (try dsimp only at hSw); go_simp; try with_reducible rfl
                  simp only [Act.put, List.setIfInBounds_toArray, List.set_cons_zero, List.set_cons_succ]
                  refine wpAnyH_take (i := 2) (oi := { dst := some 29, op := Go.Op.fieldAddr 26 (Go.Operand.tmp 1) 0, type := 0, pos := "l04_graph.go:21", after := #[], guard := none }) (v := ?_) rfl (by kernel_rfl) (by kernel_rfl) (by kernel_rfl) (fun _ _ _ h => h) (Or.inl ⟨by kernel_rfl, ?_⟩) (by assumption) ?_
                  rotate_left
                  · intro w hSw; (try dsimp only at hSw); go_simp; try with_reducible rfl
                  simp only [Act.put, List.setIfInBounds_toArray, List.set_cons_zero, List.set_cons_succ]
                  refine wpAnyH_take (i := 3) (oi := { dst := some 30, op := Go.Op.load 3 (Go.Operand.tmp 29), type := 3, pos := "l04_graph.go:21", after := #[{ on := 2, ground := Go.Ground.data }], guard := none }) (v := ?_) rfl (by kernel_rfl) (by kernel_rfl) (by kernel_rfl) (fun _ _ _ h => h) (Or.inl ⟨by kernel_rfl, ?_⟩) (by assumption) ?_
                  rotate_left
                  · intro w hSw; (try dsimp only at hSw); go_simp; try with_reducible rfl
                  simp only [Act.put, List.setIfInBounds_toArray, List.set_cons_zero, List.set_cons_succ]
                  refine wpAnyH_take (i := 4) (oi := { dst := some 31, op := Go.Op.binOp Go.BinOp.sub 3 (Go.Operand.tmp 30) (Go.Operand.const (Go.Value.int Go.IntKind.i64 1)) 3, type := 3, pos := "l04_graph.go:21", after := #[{ on := 3, ground := Go.Ground.data }], guard := none }) (v := ?_) rfl (by kernel_rfl) (by kernel_rfl) (by kernel_rfl) (fun _ _ _ h => h) (Or.inl ⟨by kernel_rfl, ?_⟩) (by assumption) ?_
                  rotate_left
                  · intro w hSw; (try dsimp only at hSw); go_simp; try with_reducible rfl
                  simp only [Act.put, List.setIfInBounds_toArray, List.set_cons_zero, List.set_cons_succ]
                  refine wpAnyH_ready (rs := [5]) (by kernel_rfl) (by simp) ?_
                  refine AllReadyH.cons (o := { dst := some 32, op := Go.Op.call { callee := Go.Callee.value (Go.Operand.func 46), args := #[Go.Operand.tmp 28, Go.Operand.const (Go.Value.int Go.IntKind.i64 0), Go.Operand.tmp 31], argTypes := #[3, 3, 3] }, type := 4, pos := "l04_graph.go:21", after := #[{ on := 1, ground := Go.Ground.data }, { on := 4, ground := Go.Ground.data }], guard := none }) rfl (fun K hK => ?_) ?_
                  · go_simp
                    go_wp2_with (go_at_call 46; refine (HC0.out _).mono ?_; rintro e w1 ⟨rfl, rfl⟩)
                    refine hK.out _ _ hHeld (fun hHeld => ?_)
                    clear hK K
                    try simp only [Act.put, List.setIfInBounds_toArray, List.set_cons_zero, List.set_cons_succ]
                    refine wpAnyH_take (i := 6) (oi := { dst := some 33, op := Go.Op.unOp Go.UnOp.not 4 (Go.Operand.tmp 32), type := 4, pos := "l04_graph.go:21", after := #[{ on := 5, ground := Go.Ground.data }], guard := none }) (v := ?_) rfl (by kernel_rfl) (by kernel_rfl) (by kernel_rfl) (fun _ _ _ h => h) (Or.inl ⟨by kernel_rfl, ?_⟩) (by assumption) ?_
                    rotate_left
                    · intro w hSw; (try dsimp only at hSw); go_simp; try with_reducible rfl
                    simp only [Act.put, List.setIfInBounds_toArray, List.set_cons_zero, List.set_cons_succ]
                    refine wpAnyH_take (i := 7) (oi := { dst := some 34, op := Go.Op.move (Go.Operand.tmp 33), type := 4, pos := "l04_graph.go:21", after := #[{ on := 6, ground := Go.Ground.data }, { on := 5, ground := Go.Ground.chain }], guard := none }) (v := ?_) rfl (by kernel_rfl) (by kernel_rfl) (by kernel_rfl) (fun _ _ _ h => h) (Or.inl ⟨by kernel_rfl, ?_⟩) (by assumption) ?_
                    rotate_left
                    · intro w hSw; (try dsimp only at hSw); go_simp; try with_reducible rfl
                    simp only [Act.put, List.setIfInBounds_toArray, List.set_cons_zero, List.set_cons_succ]
                    refine wpAnyH_take (i := 8) (oi := { dst := some 35, op := Go.Op.fieldAddr 99 (Go.Operand.tmp 4) 2, type := 0, pos := "l04_graph.go:21", after := #[{ on := 7, ground := Go.Ground.guard }], guard := some (7, false) }) (v := ?_) rfl (by kernel_rfl) (by kernel_rfl) (by kernel_rfl) (fun _ _ _ h => h) (Or.inl ⟨by kernel_rfl, ?_⟩) (by assumption) ?_
                    rotate_left
                    · intro w hSw; (try dsimp only at hSw); go_simp; try with_reducible rfl
                    simp only [Act.put, List.setIfInBounds_toArray, List.set_cons_zero, List.set_cons_succ]
                    refine wpAnyH_take (i := 9) (oi := { dst := some 36, op := Go.Op.load 3 (Go.Operand.tmp 35), type := 3, pos := "l04_graph.go:21", after := #[{ on := 8, ground := Go.Ground.data }, { on := 7, ground := Go.Ground.guard }], guard := some (7, false) }) (v := ?_) rfl (by kernel_rfl) (by kernel_rfl) (by kernel_rfl) (fun _ _ _ h => h) (Or.inl ⟨by kernel_rfl, ?_⟩) (by assumption) ?_
                    rotate_left
                    · intro w hSw; (try dsimp only at hSw); go_simp; try with_reducible rfl
                    simp only [Act.put, List.setIfInBounds_toArray, List.set_cons_zero, List.set_cons_succ]
                    refine wpAnyH_take (i := 10) (oi := { dst := some 37, op := Go.Op.fieldAddr 26 (Go.Operand.tmp 1) 0, type := 0, pos := "l04_graph.go:21", after := #[{ on := 7, ground := Go.Ground.guard }], guard := some (7, false) }) (v := ?_) rfl (by kernel_rfl) (by kernel_rfl) (by kernel_rfl) (fun _ _ _ h => h) (Or.inl ⟨by kernel_rfl, ?_⟩) (by assumption) ?_
                    rotate_left
                    · intro w hSw; (try dsimp only at hSw); go_simp; try with_reducible rfl
                    simp only [Act.put, List.setIfInBounds_toArray, List.set_cons_zero, List.set_cons_succ]
                    refine wpAnyH_take (i := 11) (oi := { dst := some 38, op := Go.Op.load 3 (Go.Operand.tmp 37), type := 3, pos := "l04_graph.go:21", after := #[{ on := 10, ground := Go.Ground.data }, { on := 7, ground := Go.Ground.guard }], guard := some (7, false) }) (v := ?_) rfl (by kernel_rfl) (by kernel_rfl) (by kernel_rfl) (fun _ _ _ h => h) (Or.inl ⟨by kernel_rfl, ?_⟩) (by assumption) ?_
                    rotate_left
                    · intro w hSw; (try dsimp only at hSw); go_simp; try with_reducible rfl
                    simp only [Act.put, List.setIfInBounds_toArray, List.set_cons_zero, List.set_cons_succ]
                    refine wpAnyH_take (i := 12) (oi := { dst := some 39, op := Go.Op.binOp Go.BinOp.sub 3 (Go.Operand.tmp 38) (Go.Operand.const (Go.Value.int Go.IntKind.i64 1)) 3, type := 3, pos := "l04_graph.go:21", after := #[{ on := 11, ground := Go.Ground.data }, { on := 7, ground := Go.Ground.guard }], guard := some (7, false) }) (v := ?_) rfl (by kernel_rfl) (by kernel_rfl) (by kernel_rfl) (fun _ _ _ h => h) (Or.inl ⟨by kernel_rfl, ?_⟩) (by assumption) ?_
                    rotate_left
                    · intro w hSw; (try dsimp only at hSw); go_simp; try with_reducible rfl
                    simp only [Act.put, List.setIfInBounds_toArray, List.set_cons_zero, List.set_cons_succ]
                    refine wpAnyH_ready (rs := [13]) (by kernel_rfl) (by simp) ?_
                    refine AllReadyH.cons (o := { dst := some 40, op := Go.Op.call { callee := Go.Callee.value (Go.Operand.func 46), args := #[Go.Operand.tmp 36, Go.Operand.const (Go.Value.int Go.IntKind.i64 0), Go.Operand.tmp 39], argTypes := #[3, 3, 3] }, type := 4, pos := "l04_graph.go:21", after := #[{ on := 9, ground := Go.Ground.data }, { on := 12, ground := Go.Ground.data }, { on := 7, ground := Go.Ground.chain }, { on := 7, ground := Go.Ground.guard }], guard := some (7, false) }) rfl (fun K hK => ?_) ?_
                    · go_simp
                      go_wp2_with (go_at_call 46; refine (HC1.out _).mono ?_; rintro e w1 ⟨rfl, rfl⟩)
                      refine hK.out _ _ hHeld (fun hHeld => ?_)
                      clear hK K
                      try simp only [Act.put, List.setIfInBounds_toArray, List.set_cons_zero, List.set_cons_succ]
                      refine wpAnyH_take (i := 14) (oi := { dst := some 41, op := Go.Op.unOp Go.UnOp.not 4 (Go.Operand.tmp 40), type := 4, pos := "l04_graph.go:21", after := #[{ on := 13, ground := Go.Ground.data }, { on := 7, ground := Go.Ground.guard }], guard := some (7, false) }) (v := ?_) rfl (by kernel_rfl) (by kernel_rfl) (by kernel_rfl) (fun _ _ _ h => h) (Or.inl ⟨by kernel_rfl, ?_⟩) (by assumption) ?_
                      rotate_left
                      · intro w hSw; (try dsimp only at hSw); go_simp; try with_reducible rfl
                      simp only [Act.put, List.setIfInBounds_toArray, List.set_cons_zero, List.set_cons_succ]
                      refine wpAnyH_take (i := 15) (oi := { dst := some 42, op := Go.Op.pick (Go.Operand.tmp 34) (Go.Operand.const (Go.Value.bool true)) (Go.Operand.tmp 41), type := 4, pos := "l04_graph.go:21", after := #[{ on := 7, ground := Go.Ground.data }, { on := 14, ground := Go.Ground.data }], guard := none }) (v := ?_) rfl (by kernel_rfl) (by kernel_rfl) (by kernel_rfl) (fun _ _ _ h => h) (Or.inl ⟨by kernel_rfl, ?_⟩) (by assumption) ?_
                      rotate_left
                      · intro w hSw; (try dsimp only at hSw); go_simp; try with_reducible rfl
                      simp only [Act.put, List.setIfInBounds_toArray, List.set_cons_zero, List.set_cons_succ]
                      refine wpAnyH_take (i := 16) (oi := { dst := some 43, op := Go.Op.move (Go.Operand.tmp 42), type := 4, pos := "l04_graph.go:21", after := #[{ on := 15, ground := Go.Ground.data }, { on := 13, ground := Go.Ground.chain }], guard := none }) (v := ?_) rfl (by kernel_rfl) (by kernel_rfl) (by kernel_rfl) (fun _ _ _ h => h) (Or.inl ⟨by kernel_rfl, ?_⟩) (by assumption) ?_
                      rotate_left
                      · intro w hSw; (try dsimp only at hSw); go_simp; try with_reducible rfl
                      simp only [Act.put, List.setIfInBounds_toArray, List.set_cons_zero, List.set_cons_succ]
                      refine wpAnyH_take (i := 17) (oi := { dst := some 44, op := Go.Op.fieldAddr 99 (Go.Operand.tmp 4) 1, type := 0, pos := "l04_graph.go:21", after := #[{ on := 16, ground := Go.Ground.guard }], guard := some (16, false) }) (v := ?_) rfl (by kernel_rfl) (by kernel_rfl) (by kernel_rfl) (fun _ _ _ h => h) (Or.inl ⟨by kernel_rfl, ?_⟩) (by assumption) ?_
                      rotate_left
                      · intro w hSw; (try dsimp only at hSw); go_simp; try with_reducible rfl
                      simp only [Act.put, List.setIfInBounds_toArray, List.set_cons_zero, List.set_cons_succ]
                      refine wpAnyH_take (i := 18) (oi := { dst := some 45, op := Go.Op.load 5 (Go.Operand.tmp 44), type := 5, pos := "l04_graph.go:21", after := #[{ on := 17, ground := Go.Ground.data }, { on := 16, ground := Go.Ground.guard }], guard := some (16, false) }) (v := ?_) rfl (by kernel_rfl) (by kernel_rfl) (by kernel_rfl) (fun _ _ _ h => h) (Or.inl ⟨by kernel_rfl, ?_⟩) (by assumption) ?_
                      rotate_left
                      · intro w hSw; (try dsimp only at hSw); go_simp; try with_reducible rfl
                      simp only [Act.put, List.setIfInBounds_toArray, List.set_cons_zero, List.set_cons_succ]
                      refine wpAnyH_take (i := 19) (oi := { dst := some 46, op := Go.Op.binOp Go.BinOp.lss 5 (Go.Operand.tmp 45) (Go.Operand.const (Go.Value.int Go.IntKind.u8 97)) 5, type := 4, pos := "l04_graph.go:21", after := #[{ on := 18, ground := Go.Ground.data }, { on := 16, ground := Go.Ground.guard }], guard := some (16, false) }) (v := ?_) rfl (by kernel_rfl) (by kernel_rfl) (by kernel_rfl) (fun _ _ _ h => h) (Or.inl ⟨by kernel_rfl, ?_⟩) (by assumption) ?_
                      rotate_left
                      · intro w hSw; (try dsimp only at hSw); go_simp; try with_reducible rfl
                      simp only [Act.put, List.setIfInBounds_toArray, List.set_cons_zero, List.set_cons_succ]
                      refine wpAnyH_take (i := 20) (oi := { dst := some 47, op := Go.Op.pick (Go.Operand.tmp 43) (Go.Operand.const (Go.Value.bool true)) (Go.Operand.tmp 46), type := 4, pos := "l04_graph.go:21", after := #[{ on := 16, ground := Go.Ground.data }, { on := 19, ground := Go.Ground.data }], guard := none }) (v := ?_) rfl (by kernel_rfl) (by kernel_rfl) (by kernel_rfl) (fun _ _ _ h => h) (Or.inl ⟨by kernel_rfl, ?_⟩) (by assumption) ?_
                      rotate_left
                      · intro w hSw; (try dsimp only at hSw); go_simp; try with_reducible rfl
                      simp only [Act.put, List.setIfInBounds_toArray, List.set_cons_zero, List.set_cons_succ]
                      refine wpAnyH_take (i := 21) (oi := { dst := some 48, op := Go.Op.move (Go.Operand.tmp 47), type := 4, pos := "l04_graph.go:21", after := #[{ on := 20, ground := Go.Ground.data }, { on := 16, ground := Go.Ground.chain }], guard := none }) (v := ?_) rfl (by kernel_rfl) (by kernel_rfl) (by kernel_rfl) (fun _ _ _ h => h) (Or.inl ⟨by kernel_rfl, ?_⟩) (by assumption) ?_
                      rotate_left
                      · intro w hSw; (try dsimp only at hSw); go_simp; try with_reducible rfl
                      simp only [Act.put, List.setIfInBounds_toArray, List.set_cons_zero, List.set_cons_succ]
                      refine wpAnyH_take (i := 22) (oi := { dst := some 49, op := Go.Op.fieldAddr 99 (Go.Operand.tmp 4) 1, type := 0, pos := "l04_graph.go:21", after := #[{ on := 21, ground := Go.Ground.guard }], guard := some (21, false) }) (v := ?_) rfl (by kernel_rfl) (by kernel_rfl) (by kernel_rfl) (fun _ _ _ h => h) (Or.inl ⟨by kernel_rfl, ?_⟩) (by assumption) ?_
                      rotate_left
                      · intro w hSw; (try dsimp only at hSw); go_simp; try with_reducible rfl
                      simp only [Act.put, List.setIfInBounds_toArray, List.set_cons_zero, List.set_cons_succ]
                      refine wpAnyH_take (i := 23) (oi := { dst := some 50, op := Go.Op.load 5 (Go.Operand.tmp 49), type := 5, pos := "l04_graph.go:21", after := #[{ on := 22, ground := Go.Ground.data }, { on := 21, ground := Go.Ground.guard }], guard := some (21, false) }) (v := ?_) rfl (by kernel_rfl) (by kernel_rfl) (by kernel_rfl) (fun _ _ _ h => h) (Or.inl ⟨by kernel_rfl, ?_⟩) (by assumption) ?_
                      rotate_left
                      · intro w hSw; (try dsimp only at hSw); go_simp; try with_reducible rfl
                      simp only [Act.put, List.setIfInBounds_toArray, List.set_cons_zero, List.set_cons_succ]
                      refine wpAnyH_take (i := 24) (oi := { dst := some 51, op := Go.Op.binOp Go.BinOp.gtr 5 (Go.Operand.tmp 50) (Go.Operand.const (Go.Value.int Go.IntKind.u8 100)) 5, type := 4, pos := "l04_graph.go:21", after := #[{ on := 23, ground := Go.Ground.data }, { on := 21, ground := Go.Ground.guard }], guard := some (21, false) }) (v := ?_) rfl (by kernel_rfl) (by kernel_rfl) (by kernel_rfl) (fun _ _ _ h => h) (Or.inl ⟨by kernel_rfl, ?_⟩) (by assumption) ?_
                      rotate_left
                      · intro w hSw; (try dsimp only at hSw); go_simp; try with_reducible rfl
                      simp only [Act.put, List.setIfInBounds_toArray, List.set_cons_zero, List.set_cons_succ]
                      refine wpAnyH_take (i := 25) (oi := { dst := some 52, op := Go.Op.pick (Go.Operand.tmp 48) (Go.Operand.const (Go.Value.bool true)) (Go.Operand.tmp 51), type := 4, pos := "l04_graph.go:21", after := #[{ on := 21, ground := Go.Ground.data }, { on := 24, ground := Go.Ground.data }], guard := none }) (v := ?_) rfl (by kernel_rfl) (by kernel_rfl) (by kernel_rfl) (fun _ _ _ h => h) (Or.inl ⟨by kernel_rfl, ?_⟩) (by assumption) ?_
                      rotate_left
                      · intro w hSw; (try dsimp only at hSw); go_simp; try with_reducible rfl
                      simp only [Act.put, List.setIfInBounds_toArray, List.set_cons_zero, List.set_cons_succ]
                      refine wpAnyH_take (i := 26) (oi := { dst := some 53, op := Go.Op.move (Go.Operand.tmp 52), type := 4, pos := "l04_graph.go:21", after := #[{ on := 25, ground := Go.Ground.data }, { on := 21, ground := Go.Ground.chain }], guard := none }) (v := ?_) rfl (by kernel_rfl) (by kernel_rfl) (by kernel_rfl) (fun _ _ _ h => h) (Or.inl ⟨by kernel_rfl, ?_⟩) (by assumption) ?_
                      rotate_left
                      · intro w hSw; (try dsimp only at hSw); go_simp; try with_reducible rfl
                      simp only [Act.put, List.setIfInBounds_toArray, List.set_cons_zero, List.set_cons_succ]
                      refine wpAnyH_take (i := 27) (oi := { dst := some 54, op := Go.Op.move (Go.Operand.tmp 3), type := 3, pos := "l04_graph.go:21", after := #[{ on := 26, ground := Go.Ground.guard }], guard := some (26, false) }) (v := undef) rfl (by kernel_rfl) (by kernel_rfl) (by kernel_rfl) (fun _ _ _ h => h) (Or.inr ⟨by kernel_rfl, rfl⟩) (by assumption) ?_
                      simp only [Act.put, List.setIfInBounds_toArray, List.set_cons_zero, List.set_cons_succ]
                      refine wpAnyH_take (i := 28) (oi := { dst := some 55, op := Go.Op.binOp Go.BinOp.gtr 3 (Go.Operand.tmp 54) (Go.Operand.const (Go.Value.int Go.IntKind.i64 0)) 3, type := 4, pos := "l04_graph.go:21", after := #[{ on := 27, ground := Go.Ground.data }, { on := 26, ground := Go.Ground.guard }], guard := some (26, false) }) (v := undef) rfl (by kernel_rfl) (by kernel_rfl) (by kernel_rfl) (fun _ _ _ h => h) (Or.inr ⟨by kernel_rfl, rfl⟩) (by assumption) ?_
                      simp only [Act.put, List.setIfInBounds_toArray, List.set_cons_zero, List.set_cons_succ]
                      refine wpAnyH_take (i := 29) (oi := { dst := some 56, op := Go.Op.move (Go.Operand.tmp 55), type := 4, pos := "l04_graph.go:21", after := #[{ on := 28, ground := Go.Ground.data }, { on := 26, ground := Go.Ground.chain }, { on := 26, ground := Go.Ground.guard }], guard := some (26, false) }) (v := undef) rfl (by kernel_rfl) (by kernel_rfl) (by kernel_rfl) (fun _ _ _ h => h) (Or.inr ⟨by kernel_rfl, rfl⟩) (by assumption) ?_
                      simp only [Act.put, List.setIfInBounds_toArray, List.set_cons_zero, List.set_cons_succ]
                      refine wpAnyH_take (i := 30) (oi := { dst := some 57, op := Go.Op.fieldAddr 26 (Go.Operand.tmp 1) 1, type := 0, pos := "l04_graph.go:21", after := #[{ on := 29, ground := Go.Ground.guard }], guard := some (29, true) }) (v := undef) rfl (by kernel_rfl) (by kernel_rfl) (by kernel_rfl) (fun _ _ _ h => h) (Or.inr ⟨by kernel_rfl, rfl⟩) (by assumption) ?_
                      simp only [Act.put, List.setIfInBounds_toArray, List.set_cons_zero, List.set_cons_succ]
                      refine wpAnyH_take (i := 31) (oi := { dst := some 58, op := Go.Op.load 24 (Go.Operand.tmp 57), type := 24, pos := "l04_graph.go:21", after := #[{ on := 30, ground := Go.Ground.data }, { on := 29, ground := Go.Ground.guard }], guard := some (29, true) }) (v := undef) rfl (by kernel_rfl) (by kernel_rfl) (by kernel_rfl) (fun _ _ _ h => h) (Or.inr ⟨by kernel_rfl, rfl⟩) (by assumption) ?_
                      simp only [Act.put, List.setIfInBounds_toArray, List.set_cons_zero, List.set_cons_succ]
                      refine wpAnyH_take (i := 32) (oi := { dst := some 59, op := Go.Op.move (Go.Operand.tmp 3), type := 3, pos := "l04_graph.go:21", after := #[{ on := 29, ground := Go.Ground.guard }], guard := some (29, true) }) (v := undef) rfl (by kernel_rfl) (by kernel_rfl) (by kernel_rfl) (fun _ _ _ h => h) (Or.inr ⟨by kernel_rfl, rfl⟩) (by assumption) ?_
                      simp only [Act.put, List.setIfInBounds_toArray, List.set_cons_zero, List.set_cons_succ]
                      refine wpAnyH_take (i := 33) (oi := { dst := some 60, op := Go.Op.binOp Go.BinOp.sub 3 (Go.Operand.tmp 59) (Go.Operand.const (Go.Value.int Go.IntKind.i64 1)) 3, type := 3, pos := "l04_graph.go:21", after := #[{ on := 32, ground := Go.Ground.data }, { on := 29, ground := Go.Ground.guard }], guard := some (29, true) }) (v := undef) rfl (by kernel_rfl) (by kernel_rfl) (by kernel_rfl) (fun _ _ _ h => h) (Or.inr ⟨by kernel_rfl, rfl⟩) (by assumption) ?_
                      simp only [Act.put, List.setIfInBounds_toArray, List.set_cons_zero, List.set_cons_succ]
                      refine wpAnyH_take (i := 34) (oi := { dst := some 61, op := Go.Op.indexAddr 24 (Go.Operand.tmp 58) (Go.Operand.tmp 60), type := 0, pos := "l04_graph.go:21", after := #[{ on := 31, ground := Go.Ground.data }, { on := 33, ground := Go.Ground.data }, { on := 29, ground := Go.Ground.guard }], guard := some (29, true) }) (v := undef) rfl (by kernel_rfl) (by kernel_rfl) (by kernel_rfl) (fun _ _ _ h => h) (Or.inr ⟨by kernel_rfl, rfl⟩) (by assumption) ?_
                      simp only [Act.put, List.setIfInBounds_toArray, List.set_cons_zero, List.set_cons_succ]
                      refine wpAnyH_take (i := 35) (oi := { dst := some 62, op := Go.Op.load 99 (Go.Operand.tmp 61), type := 99, pos := "l04_graph.go:21", after := #[{ on := 34, ground := Go.Ground.data }, { on := 29, ground := Go.Ground.guard }], guard := some (29, true) }) (v := undef) rfl (by kernel_rfl) (by kernel_rfl) (by kernel_rfl) (fun _ _ _ h => h) (Or.inr ⟨by kernel_rfl, rfl⟩) (by assumption) ?_
                      simp only [Act.put, List.setIfInBounds_toArray, List.set_cons_zero, List.set_cons_succ]
                      refine wpAnyH_take (i := 36) (oi := { dst := some 63, op := Go.Op.load 99 (Go.Operand.tmp 4), type := 99, pos := "l04_graph.go:21", after := #[{ on := 29, ground := Go.Ground.guard }], guard := some (29, true) }) (v := undef) rfl (by kernel_rfl) (by kernel_rfl) (by kernel_rfl) (fun _ _ _ h => h) (Or.inr ⟨by kernel_rfl, rfl⟩) (by assumption) ?_
                      simp only [Act.put, List.setIfInBounds_toArray, List.set_cons_zero, List.set_cons_succ]
                      refine wpAnyH_ready (rs := [37]) (by kernel_rfl) (by simp) ?_
                      refine AllReadyH.cons (o := { dst := some 64, op := Go.Op.call { callee := Go.Callee.value (Go.Operand.func 66), args := #[Go.Operand.tmp 62, Go.Operand.tmp 63], argTypes := #[99, 99] }, type := 4, pos := "l04_graph.go:21", after := #[{ on := 35, ground := Go.Ground.data }, { on := 36, ground := Go.Ground.data }, { on := 29, ground := Go.Ground.chain }, { on := 29, ground := Go.Ground.guard }], guard := some (29, true) }) rfl (fun K hK => ?_) ?_
                      · rw [if_neg (by refine Bool.eq_false_iff.1 ?_; kernel_rfl)]
                        refine hK.out _ _ hHeld (fun hHeld => ?_)
                        clear hK K
                        try simp only [Act.put, List.setIfInBounds_toArray, List.set_cons_zero, List.set_cons_succ]
                        refine wpAnyH_take (i := 38) (oi := { dst := some 65, op := Go.Op.unOp Go.UnOp.not 4 (Go.Operand.tmp 64), type := 4, pos := "l04_graph.go:21", after := #[{ on := 37, ground := Go.Ground.data }, { on := 29, ground := Go.Ground.guard }], guard := some (29, true) }) (v := undef) rfl (by kernel_rfl) (by kernel_rfl) (by kernel_rfl) (fun _ _ _ h => h) (Or.inr ⟨by kernel_rfl, rfl⟩) (by assumption) ?_
                        simp only [Act.put, List.setIfInBounds_toArray, List.set_cons_zero, List.set_cons_succ]
                        refine wpAnyH_take (i := 39) (oi := { dst := some 66, op := Go.Op.pick (Go.Operand.tmp 56) (Go.Operand.tmp 65) (Go.Operand.const (Go.Value.bool false)), type := 4, pos := "l04_graph.go:21", after := #[{ on := 29, ground := Go.Ground.data }, { on := 38, ground := Go.Ground.data }, { on := 26, ground := Go.Ground.guard }], guard := some (26, false) }) (v := undef) rfl (by kernel_rfl) (by kernel_rfl) (by kernel_rfl) (fun _ _ _ h => h) (Or.inr ⟨by kernel_rfl, rfl⟩) (by assumption) ?_
                        simp only [Act.put, List.setIfInBounds_toArray, List.set_cons_zero, List.set_cons_succ]
                        refine wpAnyH_take (i := 40) (oi := { dst := some 67, op := Go.Op.pick (Go.Operand.tmp 53) (Go.Operand.const (Go.Value.bool true)) (Go.Operand.tmp 66), type := 4, pos := "l04_graph.go:21", after := #[{ on := 26, ground := Go.Ground.data }, { on := 39, ground := Go.Ground.data }], guard := none }) (v := ?_) rfl (by kernel_rfl) (by kernel_rfl) (by kernel_rfl) (fun _ _ _ h => h) (Or.inl ⟨by kernel_rfl, ?_⟩) (by assumption) ?_
                        rotate_left
                        · intro w hSw; (try dsimp only at hSw); go_simp; try with_reducible rfl
                        simp only [Act.put, List.setIfInBounds_toArray, List.set_cons_zero, List.set_cons_succ]
                        refine wpAnyH_done (by kernel_rfl) ?_ _
                        clear hHeld
                        go_wp2
                        go_ret
                        refine ⟨?_, HLW.out.drew⟩
                        have : r = false := by rw [HR.out]; exact okG_no (k := k) (by rw [HN.out]; exact hlt) (okGAt_no HOE.out)
                        rw [this]; rfl
                      exact AllReadyH.nil
                    exact AllReadyH.nil
                  exact AllReadyH.nil
              · have hd7 : decide (x1 < 97) = true := by simp; omega
                rw [decide_eq_false h97, Bool.and_false, Bool.false_and] at HOE
                have HKS : Hid (∀ w', Below W.heap.size W w' → ((w'.cell? ⟨w.heap.size, 0, none⟩ = some (.int .i64 s) ∧ w'.cell? ⟨w.heap.size, 1, none⟩ = some (.slice (some ⟨b, o, none⟩) n cap)) ∧ (w'.cell? ⟨wr.heap.size, 0, none⟩ = some (.int .i64 x0) ∧ w'.cell? ⟨wr.heap.size, 1, none⟩ = some (.int .u8 x1) ∧ w'.cell? ⟨wr.heap.size, 2, none⟩ = some (.int .i64 x2)))) := fun w' h => ⟨⟨cell_below g0 h (lt_of_cell g0), cell_below g1 h (lt_of_cell g1)⟩, ⟨cell_below e0 h (lt_of_cell e0), cell_below e1 h (lt_of_cell e1), cell_below e2 h (lt_of_cell e2)⟩⟩
                refine wp_region_held_drew (S := fun w' => (w'.cell? ⟨w.heap.size, 0, none⟩ = some (.int .i64 s) ∧ w'.cell? ⟨w.heap.size, 1, none⟩ = some (.slice (some ⟨b, o, none⟩) n cap)) ∧ (w'.cell? ⟨wr.heap.size, 0, none⟩ = some (.int .i64 x0) ∧ w'.cell? ⟨wr.heap.size, 1, none⟩ = some (.int .u8 x1) ∧ w'.cell? ⟨wr.heap.size, 2, none⟩ = some (.int .i64 x2))) (by kernel_rfl) (HKS.out _ ((Below.refl _ _).drew)) (fun hHeld => ?_)
                refine wpAnyH_take (i := 0) (oi := { dst := some 27, op := Go.Op.fieldAddr 99 (Go.Operand.tmp 4) 0, type := 0, pos := "l04_graph.go:21", after := #[], guard := none }) (v := ?_) rfl (by kernel_rfl) (by kernel_rfl) (by kernel_rfl) (fun _ _ _ h => h) (Or.inl ⟨by kernel_rfl, ?_⟩) (by assumption) ?_
                rotate_left
                · intro w hSw; (try dsimp only at hSw); go_simp; try with_reducible rfl
                simp only [Act.put, List.setIfInBounds_toArray, List.set_cons_zero, List.set_cons_succ]
                refine wpAnyH_take (i := 1) (oi := { dst := some 28, op := Go.Op.load 3 (Go.Operand.tmp 27), type := 3, pos := "l04_graph.go:21", after := #[{ on := 0, ground := Go.Ground.data }], guard := none }) (v := ?_) rfl (by kernel_rfl) (by kernel_rfl) (by kernel_rfl) (fun _ _ _ h => h) (Or.inl ⟨by kernel_rfl, ?_⟩) (by assumption) ?_
                rotate_left
                · intro w hSw; (try dsimp only at hSw); go_simp; try with_reducible rfl
                simp only [Act.put, List.setIfInBounds_toArray, List.set_cons_zero, List.set_cons_succ]
                refine wpAnyH_take (i := 2) (oi := { dst := some 29, op := Go.Op.fieldAddr 26 (Go.Operand.tmp 1) 0, type := 0, pos := "l04_graph.go:21", after := #[], guard := none }) (v := ?_) rfl (by kernel_rfl) (by kernel_rfl) (by kernel_rfl) (fun _ _ _ h => h) (Or.inl ⟨by kernel_rfl, ?_⟩) (by assumption) ?_
                rotate_left
                · intro w hSw; (try dsimp only at hSw); go_simp; try with_reducible rfl
                simp only [Act.put, List.setIfInBounds_toArray, List.set_cons_zero, List.set_cons_succ]
                refine wpAnyH_take (i := 3) (oi := { dst := some 30, op := Go.Op.load 3 (Go.Operand.tmp 29), type := 3, pos := "l04_graph.go:21", after := #[{ on := 2, ground := Go.Ground.data }], guard := none }) (v := ?_) rfl (by kernel_rfl) (by kernel_rfl) (by kernel_rfl) (fun _ _ _ h => h) (Or.inl ⟨by kernel_rfl, ?_⟩) (by assumption) ?_
                rotate_left
                · intro w hSw; (try dsimp only at hSw); go_simp; try with_reducible rfl
                simp only [Act.put, List.setIfInBounds_toArray, List.set_cons_zero, List.set_cons_succ]
                refine wpAnyH_take (i := 4) (oi := { dst := some 31, op := Go.Op.binOp Go.BinOp.sub 3 (Go.Operand.tmp 30) (Go.Operand.const (Go.Value.int Go.IntKind.i64 1)) 3, type := 3, pos := "l04_graph.go:21", after := #[{ on := 3, ground := Go.Ground.data }], guard := none }) (v := ?_) rfl (by kernel_rfl) (by kernel_rfl) (by kernel_rfl) (fun _ _ _ h => h) (Or.inl ⟨by kernel_rfl, ?_⟩) (by assumption) ?_
                rotate_left
                · intro w hSw; (try dsimp only at hSw); go_simp; try with_reducible rfl
                simp only [Act.put, List.setIfInBounds_toArray, List.set_cons_zero, List.set_cons_succ]
                refine wpAnyH_ready (rs := [5]) (by kernel_rfl) (by simp) ?_
                refine AllReadyH.cons (o := { dst := some 32, op := Go.Op.call { callee := Go.Callee.value (Go.Operand.func 46), args := #[Go.Operand.tmp 28, Go.Operand.const (Go.Value.int Go.IntKind.i64 0), Go.Operand.tmp 31], argTypes := #[3, 3, 3] }, type := 4, pos := "l04_graph.go:21", after := #[{ on := 1, ground := Go.Ground.data }, { on := 4, ground := Go.Ground.data }], guard := none }) rfl (fun K hK => ?_) ?_
                · go_simp
                  go_wp2_with (go_at_call 46; refine (HC0.out _).mono ?_; rintro e w1 ⟨rfl, rfl⟩)
                  refine hK.out _ _ hHeld (fun hHeld => ?_)
                  clear hK K
                  try simp only [Act.put, List.setIfInBounds_toArray, List.set_cons_zero, List.set_cons_succ]
                  refine wpAnyH_take (i := 6) (oi := { dst := some 33, op := Go.Op.unOp Go.UnOp.not 4 (Go.Operand.tmp 32), type := 4, pos := "l04_graph.go:21", after := #[{ on := 5, ground := Go.Ground.data }], guard := none }) (v := ?_) rfl (by kernel_rfl) (by kernel_rfl) (by kernel_rfl) (fun _ _ _ h => h) (Or.inl ⟨by kernel_rfl, ?_⟩) (by assumption) ?_
                  rotate_left
                  · intro w hSw; (try dsimp only at hSw); go_simp; try with_reducible rfl
                  simp only [Act.put, List.setIfInBounds_toArray, List.set_cons_zero, List.set_cons_succ]
                  refine wpAnyH_take (i := 7) (oi := { dst := some 34, op := Go.Op.move (Go.Operand.tmp 33), type := 4, pos := "l04_graph.go:21", after := #[{ on := 6, ground := Go.Ground.data }, { on := 5, ground := Go.Ground.chain }], guard := none }) (v := ?_) rfl (by kernel_rfl) (by kernel_rfl) (by kernel_rfl) (fun _ _ _ h => h) (Or.inl ⟨by kernel_rfl, ?_⟩) (by assumption) ?_
                  rotate_left
                  · intro w hSw; (try dsimp only at hSw); go_simp; try with_reducible rfl
                  simp only [Act.put, List.setIfInBounds_toArray, List.set_cons_zero, List.set_cons_succ]
                  refine wpAnyH_take (i := 8) (oi := { dst := some 35, op := Go.Op.fieldAddr 99 (Go.Operand.tmp 4) 2, type := 0, pos := "l04_graph.go:21", after := #[{ on := 7, ground := Go.Ground.guard }], guard := some (7, false) }) (v := ?_) rfl (by kernel_rfl) (by kernel_rfl) (by kernel_rfl) (fun _ _ _ h => h) (Or.inl ⟨by kernel_rfl, ?_⟩) (by assumption) ?_
                  rotate_left
                  · intro w hSw; (try dsimp only at hSw); go_simp; try with_reducible rfl
                  simp only [Act.put, List.setIfInBounds_toArray, List.set_cons_zero, List.set_cons_succ]
                  refine wpAnyH_take (i := 9) (oi := { dst := some 36, op := Go.Op.load 3 (Go.Operand.tmp 35), type := 3, pos := "l04_graph.go:21", after := #[{ on := 8, ground := Go.Ground.data }, { on := 7, ground := Go.Ground.guard }], guard := some (7, false) }) (v := ?_) rfl (by kernel_rfl) (by kernel_rfl) (by kernel_rfl) (fun _ _ _ h => h) (Or.inl ⟨by kernel_rfl, ?_⟩) (by assumption) ?_
                  rotate_left
                  · intro w hSw; (try dsimp only at hSw); go_simp; try with_reducible rfl
                  simp only [Act.put, List.setIfInBounds_toArray, List.set_cons_zero, List.set_cons_succ]
                  refine wpAnyH_take (i := 10) (oi := { dst := some 37, op := Go.Op.fieldAddr 26 (Go.Operand.tmp 1) 0, type := 0, pos := "l04_graph.go:21", after := #[{ on := 7, ground := Go.Ground.guard }], guard := some (7, false) }) (v := ?_) rfl (by kernel_rfl) (by kernel_rfl) (by kernel_rfl) (fun _ _ _ h => h) (Or.inl ⟨by kernel_rfl, ?_⟩) (by assumption) ?_
                  rotate_left
                  · intro w hSw; (try dsimp only at hSw); go_simp; try with_reducible rfl
                  simp only [Act.put, List.setIfInBounds_toArray, List.set_cons_zero, List.set_cons_succ]
                  refine wpAnyH_take (i := 11) (oi := { dst := some 38, op := Go.Op.load 3 (Go.Operand.tmp 37), type := 3, pos := "l04_graph.go:21", after := #[{ on := 10, ground := Go.Ground.data }, { on := 7, ground := Go.Ground.guard }], guard := some (7, false) }) (v := ?_) rfl (by kernel_rfl) (by kernel_rfl) (by kernel_rfl) (fun _ _ _ h => h) (Or.inl ⟨by kernel_rfl, ?_⟩) (by assumption) ?_
                  rotate_left
                  · intro w hSw; (try dsimp only at hSw); go_simp; try with_reducible rfl
                  simp only [Act.put, List.setIfInBounds_toArray, List.set_cons_zero, List.set_cons_succ]
                  refine wpAnyH_take (i := 12) (oi := { dst := some 39, op := Go.Op.binOp Go.BinOp.sub 3 (Go.Operand.tmp 38) (Go.Operand.const (Go.Value.int Go.IntKind.i64 1)) 3, type := 3, pos := "l04_graph.go:21", after := #[{ on := 11, ground := Go.Ground.data }, { on := 7, ground := Go.Ground.guard }], guard := some (7, false) }) (v := ?_) rfl (by kernel_rfl) (by kernel_rfl) (by kernel_rfl) (fun _ _ _ h => h) (Or.inl ⟨by kernel_rfl, ?_⟩) (by assumption) ?_
                  rotate_left
                  · intro w hSw; (try dsimp only at hSw); go_simp; try with_reducible rfl
                  simp only [Act.put, List.setIfInBounds_toArray, List.set_cons_zero, List.set_cons_succ]
                  refine wpAnyH_ready (rs := [13]) (by kernel_rfl) (by simp) ?_
                  refine AllReadyH.cons (o := { dst := some 40, op := Go.Op.call { callee := Go.Callee.value (Go.Operand.func 46), args := #[Go.Operand.tmp 36, Go.Operand.const (Go.Value.int Go.IntKind.i64 0), Go.Operand.tmp 39], argTypes := #[3, 3, 3] }, type := 4, pos := "l04_graph.go:21", after := #[{ on := 9, ground := Go.Ground.data }, { on := 12, ground := Go.Ground.data }, { on := 7, ground := Go.Ground.chain }, { on := 7, ground := Go.Ground.guard }], guard := some (7, false) }) rfl (fun K hK => ?_) ?_
                  · go_simp
                    go_wp2_with (go_at_call 46; refine (HC1.out _).mono ?_; rintro e w1 ⟨rfl, rfl⟩)
                    refine hK.out _ _ hHeld (fun hHeld => ?_)
                    clear hK K
                    try simp only [Act.put, List.setIfInBounds_toArray, List.set_cons_zero, List.set_cons_succ]
                    refine wpAnyH_take (i := 14) (oi := { dst := some 41, op := Go.Op.unOp Go.UnOp.not 4 (Go.Operand.tmp 40), type := 4, pos := "l04_graph.go:21", after := #[{ on := 13, ground := Go.Ground.data }, { on := 7, ground := Go.Ground.guard }], guard := some (7, false) }) (v := ?_) rfl (by kernel_rfl) (by kernel_rfl) (by kernel_rfl) (fun _ _ _ h => h) (Or.inl ⟨by kernel_rfl, ?_⟩) (by assumption) ?_
                    rotate_left
                    · intro w hSw; (try dsimp only at hSw); go_simp; try with_reducible rfl
                    simp only [Act.put, List.setIfInBounds_toArray, List.set_cons_zero, List.set_cons_succ]
                    refine wpAnyH_take (i := 15) (oi := { dst := some 42, op := Go.Op.pick (Go.Operand.tmp 34) (Go.Operand.const (Go.Value.bool true)) (Go.Operand.tmp 41), type := 4, pos := "l04_graph.go:21", after := #[{ on := 7, ground := Go.Ground.data }, { on := 14, ground := Go.Ground.data }], guard := none }) (v := ?_) rfl (by kernel_rfl) (by kernel_rfl) (by kernel_rfl) (fun _ _ _ h => h) (Or.inl ⟨by kernel_rfl, ?_⟩) (by assumption) ?_
                    rotate_left
                    · intro w hSw; (try dsimp only at hSw); go_simp; try with_reducible rfl
                    simp only [Act.put, List.setIfInBounds_toArray, List.set_cons_zero, List.set_cons_succ]
                    refine wpAnyH_take (i := 16) (oi := { dst := some 43, op := Go.Op.move (Go.Operand.tmp 42), type := 4, pos := "l04_graph.go:21", after := #[{ on := 15, ground := Go.Ground.data }, { on := 13, ground := Go.Ground.chain }], guard := none }) (v := ?_) rfl (by kernel_rfl) (by kernel_rfl) (by kernel_rfl) (fun _ _ _ h => h) (Or.inl ⟨by kernel_rfl, ?_⟩) (by assumption) ?_
                    rotate_left
                    · intro w hSw; (try dsimp only at hSw); go_simp; try with_reducible rfl
                    simp only [Act.put, List.setIfInBounds_toArray, List.set_cons_zero, List.set_cons_succ]
                    refine wpAnyH_take (i := 17) (oi := { dst := some 44, op := Go.Op.fieldAddr 99 (Go.Operand.tmp 4) 1, type := 0, pos := "l04_graph.go:21", after := #[{ on := 16, ground := Go.Ground.guard }], guard := some (16, false) }) (v := ?_) rfl (by kernel_rfl) (by kernel_rfl) (by kernel_rfl) (fun _ _ _ h => h) (Or.inl ⟨by kernel_rfl, ?_⟩) (by assumption) ?_
                    rotate_left
                    · intro w hSw; (try dsimp only at hSw); go_simp; try with_reducible rfl
                    simp only [Act.put, List.setIfInBounds_toArray, List.set_cons_zero, List.set_cons_succ]
                    refine wpAnyH_take (i := 18) (oi := { dst := some 45, op := Go.Op.load 5 (Go.Operand.tmp 44), type := 5, pos := "l04_graph.go:21", after := #[{ on := 17, ground := Go.Ground.data }, { on := 16, ground := Go.Ground.guard }], guard := some (16, false) }) (v := ?_) rfl (by kernel_rfl) (by kernel_rfl) (by kernel_rfl) (fun _ _ _ h => h) (Or.inl ⟨by kernel_rfl, ?_⟩) (by assumption) ?_
                    rotate_left
                    · intro w hSw; (try dsimp only at hSw); go_simp; try with_reducible rfl
                    simp only [Act.put, List.setIfInBounds_toArray, List.set_cons_zero, List.set_cons_succ]
                    refine wpAnyH_take (i := 19) (oi := { dst := some 46, op := Go.Op.binOp Go.BinOp.lss 5 (Go.Operand.tmp 45) (Go.Operand.const (Go.Value.int Go.IntKind.u8 97)) 5, type := 4, pos := "l04_graph.go:21", after := #[{ on := 18, ground := Go.Ground.data }, { on := 16, ground := Go.Ground.guard }], guard := some (16, false) }) (v := ?_) rfl (by kernel_rfl) (by kernel_rfl) (by kernel_rfl) (fun _ _ _ h => h) (Or.inl ⟨by kernel_rfl, ?_⟩) (by assumption) ?_
                    rotate_left
                    · intro w hSw; (try dsimp only at hSw); go_simp; try with_reducible rfl
                    simp only [Act.put, List.setIfInBounds_toArray, List.set_cons_zero, List.set_cons_succ]
                    refine wpAnyH_take (i := 20) (oi := { dst := some 47, op := Go.Op.pick (Go.Operand.tmp 43) (Go.Operand.const (Go.Value.bool true)) (Go.Operand.tmp 46), type := 4, pos := "l04_graph.go:21", after := #[{ on := 16, ground := Go.Ground.data }, { on := 19, ground := Go.Ground.data }], guard := none }) (v := ?_) rfl (by kernel_rfl) (by kernel_rfl) (by kernel_rfl) (fun _ _ _ h => h) (Or.inl ⟨by kernel_rfl, ?_⟩) (by assumption) ?_
                    rotate_left
                    · intro w hSw; (try dsimp only at hSw); go_simp; try with_reducible rfl
                    simp only [Act.put, List.setIfInBounds_toArray, List.set_cons_zero, List.set_cons_succ]
                    refine wpAnyH_take (i := 21) (oi := { dst := some 48, op := Go.Op.move (Go.Operand.tmp 47), type := 4, pos := "l04_graph.go:21", after := #[{ on := 20, ground := Go.Ground.data }, { on := 16, ground := Go.Ground.chain }], guard := none }) (v := ?_) rfl (by kernel_rfl) (by kernel_rfl) (by kernel_rfl) (fun _ _ _ h => h) (Or.inl ⟨by kernel_rfl, ?_⟩) (by assumption) ?_
                    rotate_left
                    · intro w hSw; (try dsimp only at hSw); go_simp; try with_reducible rfl
                    simp only [Act.put, List.setIfInBounds_toArray, List.set_cons_zero, List.set_cons_succ]
                    refine wpAnyH_take (i := 22) (oi := { dst := some 49, op := Go.Op.fieldAddr 99 (Go.Operand.tmp 4) 1, type := 0, pos := "l04_graph.go:21", after := #[{ on := 21, ground := Go.Ground.guard }], guard := some (21, false) }) (v := undef) rfl (by kernel_rfl) (by kernel_rfl) (by kernel_rfl) (fun _ _ _ h => h) (Or.inr ⟨by kernel_rfl, rfl⟩) (by assumption) ?_
                    simp only [Act.put, List.setIfInBounds_toArray, List.set_cons_zero, List.set_cons_succ]
                    refine wpAnyH_take (i := 23) (oi := { dst := some 50, op := Go.Op.load 5 (Go.Operand.tmp 49), type := 5, pos := "l04_graph.go:21", after := #[{ on := 22, ground := Go.Ground.data }, { on := 21, ground := Go.Ground.guard }], guard := some (21, false) }) (v := undef) rfl (by kernel_rfl) (by kernel_rfl) (by kernel_rfl) (fun _ _ _ h => h) (Or.inr ⟨by kernel_rfl, rfl⟩) (by assumption) ?_
                    simp only [Act.put, List.setIfInBounds_toArray, List.set_cons_zero, List.set_cons_succ]
                    refine wpAnyH_take (i := 24) (oi := { dst := some 51, op := Go.Op.binOp Go.BinOp.gtr 5 (Go.Operand.tmp 50) (Go.Operand.const (Go.Value.int Go.IntKind.u8 100)) 5, type := 4, pos := "l04_graph.go:21", after := #[{ on := 23, ground := Go.Ground.data }, { on := 21, ground := Go.Ground.guard }], guard := some (21, false) }) (v := undef) rfl (by kernel_rfl) (by kernel_rfl) (by kernel_rfl) (fun _ _ _ h => h) (Or.inr ⟨by kernel_rfl, rfl⟩) (by assumption) ?_
                    simp only [Act.put, List.setIfInBounds_toArray, List.set_cons_zero, List.set_cons_succ]
                    refine wpAnyH_take (i := 25) (oi := { dst := some 52, op := Go.Op.pick (Go.Operand.tmp 48) (Go.Operand.const (Go.Value.bool true)) (Go.Operand.tmp 51), type := 4, pos := "l04_graph.go:21", after := #[{ on := 21, ground := Go.Ground.data }, { on := 24, ground := Go.Ground.data }], guard := none }) (v := ?_) rfl (by kernel_rfl) (by kernel_rfl) (by kernel_rfl) (fun _ _ _ h => h) (Or.inl ⟨by kernel_rfl, ?_⟩) (by assumption) ?_
                    rotate_left
                    · intro w hSw; (try dsimp only at hSw); go_simp; try with_reducible rfl
                    simp only [Act.put, List.setIfInBounds_toArray, List.set_cons_zero, List.set_cons_succ]
                    refine wpAnyH_take (i := 26) (oi := { dst := some 53, op := Go.Op.move (Go.Operand.tmp 52), type := 4, pos := "l04_graph.go:21", after := #[{ on := 25, ground := Go.Ground.data }, { on := 21, ground := Go.Ground.chain }], guard := none }) (v := ?_) rfl (by kernel_rfl) (by kernel_rfl) (by kernel_rfl) (fun _ _ _ h => h) (Or.inl ⟨by kernel_rfl, ?_⟩) (by assumption) ?_
                    rotate_left
                    · intro w hSw; (try dsimp only at hSw); go_simp; try with_reducible rfl
                    simp only [Act.put, List.setIfInBounds_toArray, List.set_cons_zero, List.set_cons_succ]
                    refine wpAnyH_take (i := 27) (oi := { dst := some 54, op := Go.Op.move (Go.Operand.tmp 3), type := 3, pos := "l04_graph.go:21", after := #[{ on := 26, ground := Go.Ground.guard }], guard := some (26, false) }) (v := undef) rfl (by kernel_rfl) (by kernel_rfl) (by kernel_rfl) (fun _ _ _ h => h) (Or.inr ⟨by kernel_rfl, rfl⟩) (by assumption) ?_
                    simp only [Act.put, List.setIfInBounds_toArray, List.set_cons_zero, List.set_cons_succ]
                    refine wpAnyH_take (i := 28) (oi := { dst := some 55, op := Go.Op.binOp Go.BinOp.gtr 3 (Go.Operand.tmp 54) (Go.Operand.const (Go.Value.int Go.IntKind.i64 0)) 3, type := 4, pos := "l04_graph.go:21", after := #[{ on := 27, ground := Go.Ground.data }, { on := 26, ground := Go.Ground.guard }], guard := some (26, false) }) (v := undef) rfl (by kernel_rfl) (by kernel_rfl) (by kernel_rfl) (fun _ _ _ h => h) (Or.inr ⟨by kernel_rfl, rfl⟩) (by assumption) ?_
                    simp only [Act.put, List.setIfInBounds_toArray, List.set_cons_zero, List.set_cons_succ]
                    refine wpAnyH_take (i := 29) (oi := { dst := some 56, op := Go.Op.move (Go.Operand.tmp 55), type := 4, pos := "l04_graph.go:21", after := #[{ on := 28, ground := Go.Ground.data }, { on := 26, ground := Go.Ground.chain }, { on := 26, ground := Go.Ground.guard }], guard := some (26, false) }) (v := undef) rfl (by kernel_rfl) (by kernel_rfl) (by kernel_rfl) (fun _ _ _ h => h) (Or.inr ⟨by kernel_rfl, rfl⟩) (by assumption) ?_
                    simp only [Act.put, List.setIfInBounds_toArray, List.set_cons_zero, List.set_cons_succ]
                    refine wpAnyH_take (i := 30) (oi := { dst := some 57, op := Go.Op.fieldAddr 26 (Go.Operand.tmp 1) 1, type := 0, pos := "l04_graph.go:21", after := #[{ on := 29, ground := Go.Ground.guard }], guard := some (29, true) }) (v := undef) rfl (by kernel_rfl) (by kernel_rfl) (by kernel_rfl) (fun _ _ _ h => h) (Or.inr ⟨by kernel_rfl, rfl⟩) (by assumption) ?_
                    simp only [Act.put, List.setIfInBounds_toArray, List.set_cons_zero, List.set_cons_succ]
                    refine wpAnyH_take (i := 31) (oi := { dst := some 58, op := Go.Op.load 24 (Go.Operand.tmp 57), type := 24, pos := "l04_graph.go:21", after := #[{ on := 30, ground := Go.Ground.data }, { on := 29, ground := Go.Ground.guard }], guard := some (29, true) }) (v := undef) rfl (by kernel_rfl) (by kernel_rfl) (by kernel_rfl) (fun _ _ _ h => h) (Or.inr ⟨by kernel_rfl, rfl⟩) (by assumption) ?_
                    simp only [Act.put, List.setIfInBounds_toArray, List.set_cons_zero, List.set_cons_succ]
                    refine wpAnyH_take (i := 32) (oi := { dst := some 59, op := Go.Op.move (Go.Operand.tmp 3), type := 3, pos := "l04_graph.go:21", after := #[{ on := 29, ground := Go.Ground.guard }], guard := some (29, true) }) (v := undef) rfl (by kernel_rfl) (by kernel_rfl) (by kernel_rfl) (fun _ _ _ h => h) (Or.inr ⟨by kernel_rfl, rfl⟩) (by assumption) ?_
                    simp only [Act.put, List.setIfInBounds_toArray, List.set_cons_zero, List.set_cons_succ]
                    refine wpAnyH_take (i := 33) (oi := { dst := some 60, op := Go.Op.binOp Go.BinOp.sub 3 (Go.Operand.tmp 59) (Go.Operand.const (Go.Value.int Go.IntKind.i64 1)) 3, type := 3, pos := "l04_graph.go:21", after := #[{ on := 32, ground := Go.Ground.data }, { on := 29, ground := Go.Ground.guard }], guard := some (29, true) }) (v := undef) rfl (by kernel_rfl) (by kernel_rfl) (by kernel_rfl) (fun _ _ _ h => h) (Or.inr ⟨by kernel_rfl, rfl⟩) (by assumption) ?_
                    simp only [Act.put, List.setIfInBounds_toArray, List.set_cons_zero, List.set_cons_succ]
                    refine wpAnyH_take (i := 34) (oi := { dst := some 61, op := Go.Op.indexAddr 24 (Go.Operand.tmp 58) (Go.Operand.tmp 60), type := 0, pos := "l04_graph.go:21", after := #[{ on := 31, ground := Go.Ground.data }, { on := 33, ground := Go.Ground.data }, { on := 29, ground := Go.Ground.guard }], guard := some (29, true) }) (v := undef) rfl (by kernel_rfl) (by kernel_rfl) (by kernel_rfl) (fun _ _ _ h => h) (Or.inr ⟨by kernel_rfl, rfl⟩) (by assumption) ?_
                    simp only [Act.put, List.setIfInBounds_toArray, List.set_cons_zero, List.set_cons_succ]
                    refine wpAnyH_take (i := 35) (oi := { dst := some 62, op := Go.Op.load 99 (Go.Operand.tmp 61), type := 99, pos := "l04_graph.go:21", after := #[{ on := 34, ground := Go.Ground.data }, { on := 29, ground := Go.Ground.guard }], guard := some (29, true) }) (v := undef) rfl (by kernel_rfl) (by kernel_rfl) (by kernel_rfl) (fun _ _ _ h => h) (Or.inr ⟨by kernel_rfl, rfl⟩) (by assumption) ?_
                    simp only [Act.put, List.setIfInBounds_toArray, List.set_cons_zero, List.set_cons_succ]
                    refine wpAnyH_take (i := 36) (oi := { dst := some 63, op := Go.Op.load 99 (Go.Operand.tmp 4), type := 99, pos := "l04_graph.go:21", after := #[{ on := 29, ground := Go.Ground.guard }], guard := some (29, true) }) (v := undef) rfl (by kernel_rfl) (by kernel_rfl) (by kernel_rfl) (fun _ _ _ h => h) (Or.inr ⟨by kernel_rfl, rfl⟩) (by assumption) ?_
                    simp only [Act.put, List.setIfInBounds_toArray, List.set_cons_zero, List.set_cons_succ]
                    refine wpAnyH_ready (rs := [37]) (by kernel_rfl) (by simp) ?_
                    refine AllReadyH.cons (o := { dst := some 64, op := Go.Op.call { callee := Go.Callee.value (Go.Operand.func 66), args := #[Go.Operand.tmp 62, Go.Operand.tmp 63], argTypes := #[99, 99] }, type := 4, pos := "l04_graph.go:21", after := #[{ on := 35, ground := Go.Ground.data }, { on := 36, ground := Go.Ground.data }, { on := 29, ground := Go.Ground.chain }, { on := 29, ground := Go.Ground.guard }], guard := some (29, true) }) rfl (fun K hK => ?_) ?_
                    · rw [if_neg (by refine Bool.eq_false_iff.1 ?_; kernel_rfl)]
                      refine hK.out _ _ hHeld (fun hHeld => ?_)
                      clear hK K
                      try simp only [Act.put, List.setIfInBounds_toArray, List.set_cons_zero, List.set_cons_succ]
                      refine wpAnyH_take (i := 38) (oi := { dst := some 65, op := Go.Op.unOp Go.UnOp.not 4 (Go.Operand.tmp 64), type := 4, pos := "l04_graph.go:21", after := #[{ on := 37, ground := Go.Ground.data }, { on := 29, ground := Go.Ground.guard }], guard := some (29, true) }) (v := undef) rfl (by kernel_rfl) (by kernel_rfl) (by kernel_rfl) (fun _ _ _ h => h) (Or.inr ⟨by kernel_rfl, rfl⟩) (by assumption) ?_
                      simp only [Act.put, List.setIfInBounds_toArray, List.set_cons_zero, List.set_cons_succ]
                      refine wpAnyH_take (i := 39) (oi := { dst := some 66, op := Go.Op.pick (Go.Operand.tmp 56) (Go.Operand.tmp 65) (Go.Operand.const (Go.Value.bool false)), type := 4, pos := "l04_graph.go:21", after := #[{ on := 29, ground := Go.Ground.data }, { on := 38, ground := Go.Ground.data }, { on := 26, ground := Go.Ground.guard }], guard := some (26, false) }) (v := undef) rfl (by kernel_rfl) (by kernel_rfl) (by kernel_rfl) (fun _ _ _ h => h) (Or.inr ⟨by kernel_rfl, rfl⟩) (by assumption) ?_
                      simp only [Act.put, List.setIfInBounds_toArray, List.set_cons_zero, List.set_cons_succ]
                      refine wpAnyH_take (i := 40) (oi := { dst := some 67, op := Go.Op.pick (Go.Operand.tmp 53) (Go.Operand.const (Go.Value.bool true)) (Go.Operand.tmp 66), type := 4, pos := "l04_graph.go:21", after := #[{ on := 26, ground := Go.Ground.data }, { on := 39, ground := Go.Ground.data }], guard := none }) (v := ?_) rfl (by kernel_rfl) (by kernel_rfl) (by kernel_rfl) (fun _ _ _ h => h) (Or.inl ⟨by kernel_rfl, ?_⟩) (by assumption) ?_
                      rotate_left
                      · intro w hSw; (try dsimp only at hSw); go_simp; try with_reducible rfl
                      simp only [Act.put, List.setIfInBounds_toArray, List.set_cons_zero, List.set_cons_succ]
                      refine wpAnyH_done (by kernel_rfl) ?_ _
                      clear hHeld
                      go_wp2
                      go_ret
                      refine ⟨?_, HLW.out.drew⟩
                      have : r = false := by rw [HR.out]; exact okG_no (k := k) (by rw [HN.out]; exact hlt) (okGAt_no HOE.out)
                      rw [this]; rfl
                    exact AllReadyH.nil
                  exact AllReadyH.nil
                exact AllReadyH.nil
            · subst hv
              rw [Bool.and_false, Bool.false_and, Bool.false_and] at HOE
              have HKS : Hid (∀ w', Below W.heap.size W w' → ((w'.cell? ⟨w.heap.size, 0, none⟩ = some (.int .i64 s) ∧ w'.cell? ⟨w.heap.size, 1, none⟩ = some (.slice (some ⟨b, o, none⟩) n cap)) ∧ (w'.cell? ⟨wr.heap.size, 0, none⟩ = some (.int .i64 x0) ∧ w'.cell? ⟨wr.heap.size, 1, none⟩ = some (.int .u8 x1) ∧ w'.cell? ⟨wr.heap.size, 2, none⟩ = some (.int .i64 x2)))) := fun w' h => ⟨⟨cell_below g0 h (lt_of_cell g0), cell_below g1 h (lt_of_cell g1)⟩, ⟨cell_below e0 h (lt_of_cell e0), cell_below e1 h (lt_of_cell e1), cell_below e2 h (lt_of_cell e2)⟩⟩
              refine wp_region_held_drew (S := fun w' => (w'.cell? ⟨w.heap.size, 0, none⟩ = some (.int .i64 s) ∧ w'.cell? ⟨w.heap.size, 1, none⟩ = some (.slice (some ⟨b, o, none⟩) n cap)) ∧ (w'.cell? ⟨wr.heap.size, 0, none⟩ = some (.int .i64 x0) ∧ w'.cell? ⟨wr.heap.size, 1, none⟩ = some (.int .u8 x1) ∧ w'.cell? ⟨wr.heap.size, 2, none⟩ = some (.int .i64 x2))) (by kernel_rfl) (HKS.out _ ((Below.refl _ _).drew)) (fun hHeld => ?_)
              refine wpAnyH_take (i := 0) (oi := { dst := some 27, op := Go.Op.fieldAddr 99 (Go.Operand.tmp 4) 0, type := 0, pos := "l04_graph.go:21", after := #[], guard := none }) (v := ?_) rfl (by kernel_rfl) (by kernel_rfl) (by kernel_rfl) (fun _ _ _ h => h) (Or.inl ⟨by kernel_rfl, ?_⟩) (by assumption) ?_
              rotate_left
              · intro w hSw; (try dsimp only at hSw); go_simp; try with_reducible rfl
              simp only [Act.put, List.setIfInBounds_toArray, List.set_cons_zero, List.set_cons_succ]
              refine wpAnyH_take (i := 1) (oi := { dst := some 28, op := Go.Op.load 3 (Go.Operand.tmp 27), type := 3, pos := "l04_graph.go:21", after := #[{ on := 0, ground := Go.Ground.data }], guard := none }) (v := ?_) rfl (by kernel_rfl) (by kernel_rfl) (by kernel_rfl) (fun _ _ _ h => h) (Or.inl ⟨by kernel_rfl, ?_⟩) (by assumption) ?_
              rotate_left
              · intro w hSw; (try dsimp only at hSw); go_simp; try with_reducible rfl
              simp only [Act.put, List.setIfInBounds_toArray, List.set_cons_zero, List.set_cons_succ]
              refine wpAnyH_take (i := 2) (oi := { dst := some 29, op := Go.Op.fieldAddr 26 (Go.Operand.tmp 1) 0, type := 0, pos := "l04_graph.go:21", after := #[], guard := none }) (v := ?_) rfl (by kernel_rfl) (by kernel_rfl) (by kernel_rfl) (fun _ _ _ h => h) (Or.inl ⟨by kernel_rfl, ?_⟩) (by assumption) ?_
              rotate_left
              · intro w hSw; (try dsimp only at hSw); go_simp; try with_reducible rfl
              simp only [Act.put, List.setIfInBounds_toArray, List.set_cons_zero, List.set_cons_succ]
              refine wpAnyH_take (i := 3) (oi := { dst := some 30, op := Go.Op.load 3 (Go.Operand.tmp 29), type := 3, pos := "l04_graph.go:21", after := #[{ on := 2, ground := Go.Ground.data }], guard := none }) (v := ?_) rfl (by kernel_rfl) (by kernel_rfl) (by kernel_rfl) (fun _ _ _ h => h) (Or.inl ⟨by kernel_rfl, ?_⟩) (by assumption) ?_
              rotate_left
              · intro w hSw; (try dsimp only at hSw); go_simp; try with_reducible rfl
              simp only [Act.put, List.setIfInBounds_toArray, List.set_cons_zero, List.set_cons_succ]
              refine wpAnyH_take (i := 4) (oi := { dst := some 31, op := Go.Op.binOp Go.BinOp.sub 3 (Go.Operand.tmp 30) (Go.Operand.const (Go.Value.int Go.IntKind.i64 1)) 3, type := 3, pos := "l04_graph.go:21", after := #[{ on := 3, ground := Go.Ground.data }], guard := none }) (v := ?_) rfl (by kernel_rfl) (by kernel_rfl) (by kernel_rfl) (fun _ _ _ h => h) (Or.inl ⟨by kernel_rfl, ?_⟩) (by assumption) ?_
              rotate_left
              · intro w hSw; (try dsimp only at hSw); go_simp; try with_reducible rfl
              simp only [Act.put, List.setIfInBounds_toArray, List.set_cons_zero, List.set_cons_succ]
              refine wpAnyH_ready (rs := [5]) (by kernel_rfl) (by simp) ?_
              refine AllReadyH.cons (o := { dst := some 32, op := Go.Op.call { callee := Go.Callee.value (Go.Operand.func 46), args := #[Go.Operand.tmp 28, Go.Operand.const (Go.Value.int Go.IntKind.i64 0), Go.Operand.tmp 31], argTypes := #[3, 3, 3] }, type := 4, pos := "l04_graph.go:21", after := #[{ on := 1, ground := Go.Ground.data }, { on := 4, ground := Go.Ground.data }], guard := none }) rfl (fun K hK => ?_) ?_
              · go_simp
                go_wp2_with (go_at_call 46; refine (HC0.out _).mono ?_; rintro e w1 ⟨rfl, rfl⟩)
                refine hK.out _ _ hHeld (fun hHeld => ?_)
                clear hK K
                try simp only [Act.put, List.setIfInBounds_toArray, List.set_cons_zero, List.set_cons_succ]
                refine wpAnyH_take (i := 6) (oi := { dst := some 33, op := Go.Op.unOp Go.UnOp.not 4 (Go.Operand.tmp 32), type := 4, pos := "l04_graph.go:21", after := #[{ on := 5, ground := Go.Ground.data }], guard := none }) (v := ?_) rfl (by kernel_rfl) (by kernel_rfl) (by kernel_rfl) (fun _ _ _ h => h) (Or.inl ⟨by kernel_rfl, ?_⟩) (by assumption) ?_
                rotate_left
                · intro w hSw; (try dsimp only at hSw); go_simp; try with_reducible rfl
                simp only [Act.put, List.setIfInBounds_toArray, List.set_cons_zero, List.set_cons_succ]
                refine wpAnyH_take (i := 7) (oi := { dst := some 34, op := Go.Op.move (Go.Operand.tmp 33), type := 4, pos := "l04_graph.go:21", after := #[{ on := 6, ground := Go.Ground.data }, { on := 5, ground := Go.Ground.chain }], guard := none }) (v := ?_) rfl (by kernel_rfl) (by kernel_rfl) (by kernel_rfl) (fun _ _ _ h => h) (Or.inl ⟨by kernel_rfl, ?_⟩) (by assumption) ?_
                rotate_left
                · intro w hSw; (try dsimp only at hSw); go_simp; try with_reducible rfl
                simp only [Act.put, List.setIfInBounds_toArray, List.set_cons_zero, List.set_cons_succ]
                refine wpAnyH_take (i := 8) (oi := { dst := some 35, op := Go.Op.fieldAddr 99 (Go.Operand.tmp 4) 2, type := 0, pos := "l04_graph.go:21", after := #[{ on := 7, ground := Go.Ground.guard }], guard := some (7, false) }) (v := ?_) rfl (by kernel_rfl) (by kernel_rfl) (by kernel_rfl) (fun _ _ _ h => h) (Or.inl ⟨by kernel_rfl, ?_⟩) (by assumption) ?_
                rotate_left
                · intro w hSw; (try dsimp only at hSw); go_simp; try with_reducible rfl
                simp only [Act.put, List.setIfInBounds_toArray, List.set_cons_zero, List.set_cons_succ]
                refine wpAnyH_take (i := 9) (oi := { dst := some 36, op := Go.Op.load 3 (Go.Operand.tmp 35), type := 3, pos := "l04_graph.go:21", after := #[{ on := 8, ground := Go.Ground.data }, { on := 7, ground := Go.Ground.guard }], guard := some (7, false) }) (v := ?_) rfl (by kernel_rfl) (by kernel_rfl) (by kernel_rfl) (fun _ _ _ h => h) (Or.inl ⟨by kernel_rfl, ?_⟩) (by assumption) ?_
                rotate_left
                · intro w hSw; (try dsimp only at hSw); go_simp; try with_reducible rfl
                simp only [Act.put, List.setIfInBounds_toArray, List.set_cons_zero, List.set_cons_succ]
                refine wpAnyH_take (i := 10) (oi := { dst := some 37, op := Go.Op.fieldAddr 26 (Go.Operand.tmp 1) 0, type := 0, pos := "l04_graph.go:21", after := #[{ on := 7, ground := Go.Ground.guard }], guard := some (7, false) }) (v := ?_) rfl (by kernel_rfl) (by kernel_rfl) (by kernel_rfl) (fun _ _ _ h => h) (Or.inl ⟨by kernel_rfl, ?_⟩) (by assumption) ?_
                rotate_left
                · intro w hSw; (try dsimp only at hSw); go_simp; try with_reducible rfl
                simp only [Act.put, List.setIfInBounds_toArray, List.set_cons_zero, List.set_cons_succ]
                refine wpAnyH_take (i := 11) (oi := { dst := some 38, op := Go.Op.load 3 (Go.Operand.tmp 37), type := 3, pos := "l04_graph.go:21", after := #[{ on := 10, ground := Go.Ground.data }, { on := 7, ground := Go.Ground.guard }], guard := some (7, false) }) (v := ?_) rfl (by kernel_rfl) (by kernel_rfl) (by kernel_rfl) (fun _ _ _ h => h) (Or.inl ⟨by kernel_rfl, ?_⟩) (by assumption) ?_
                rotate_left
                · intro w hSw; (try dsimp only at hSw); go_simp; try with_reducible rfl
                simp only [Act.put, List.setIfInBounds_toArray, List.set_cons_zero, List.set_cons_succ]
                refine wpAnyH_take (i := 12) (oi := { dst := some 39, op := Go.Op.binOp Go.BinOp.sub 3 (Go.Operand.tmp 38) (Go.Operand.const (Go.Value.int Go.IntKind.i64 1)) 3, type := 3, pos := "l04_graph.go:21", after := #[{ on := 11, ground := Go.Ground.data }, { on := 7, ground := Go.Ground.guard }], guard := some (7, false) }) (v := ?_) rfl (by kernel_rfl) (by kernel_rfl) (by kernel_rfl) (fun _ _ _ h => h) (Or.inl ⟨by kernel_rfl, ?_⟩) (by assumption) ?_
                rotate_left
                · intro w hSw; (try dsimp only at hSw); go_simp; try with_reducible rfl
                simp only [Act.put, List.setIfInBounds_toArray, List.set_cons_zero, List.set_cons_succ]
                refine wpAnyH_ready (rs := [13]) (by kernel_rfl) (by simp) ?_
                refine AllReadyH.cons (o := { dst := some 40, op := Go.Op.call { callee := Go.Callee.value (Go.Operand.func 46), args := #[Go.Operand.tmp 36, Go.Operand.const (Go.Value.int Go.IntKind.i64 0), Go.Operand.tmp 39], argTypes := #[3, 3, 3] }, type := 4, pos := "l04_graph.go:21", after := #[{ on := 9, ground := Go.Ground.data }, { on := 12, ground := Go.Ground.data }, { on := 7, ground := Go.Ground.chain }, { on := 7, ground := Go.Ground.guard }], guard := some (7, false) }) rfl (fun K hK => ?_) ?_
                · go_simp
                  go_wp2_with (go_at_call 46; refine (HC1.out _).mono ?_; rintro e w1 ⟨rfl, rfl⟩)
                  refine hK.out _ _ hHeld (fun hHeld => ?_)
                  clear hK K
                  try simp only [Act.put, List.setIfInBounds_toArray, List.set_cons_zero, List.set_cons_succ]
                  refine wpAnyH_take (i := 14) (oi := { dst := some 41, op := Go.Op.unOp Go.UnOp.not 4 (Go.Operand.tmp 40), type := 4, pos := "l04_graph.go:21", after := #[{ on := 13, ground := Go.Ground.data }, { on := 7, ground := Go.Ground.guard }], guard := some (7, false) }) (v := ?_) rfl (by kernel_rfl) (by kernel_rfl) (by kernel_rfl) (fun _ _ _ h => h) (Or.inl ⟨by kernel_rfl, ?_⟩) (by assumption) ?_
                  rotate_left
                  · intro w hSw; (try dsimp only at hSw); go_simp; try with_reducible rfl
                  simp only [Act.put, List.setIfInBounds_toArray, List.set_cons_zero, List.set_cons_succ]
                  refine wpAnyH_take (i := 15) (oi := { dst := some 42, op := Go.Op.pick (Go.Operand.tmp 34) (Go.Operand.const (Go.Value.bool true)) (Go.Operand.tmp 41), type := 4, pos := "l04_graph.go:21", after := #[{ on := 7, ground := Go.Ground.data }, { on := 14, ground := Go.Ground.data }], guard := none }) (v := ?_) rfl (by kernel_rfl) (by kernel_rfl) (by kernel_rfl) (fun _ _ _ h => h) (Or.inl ⟨by kernel_rfl, ?_⟩) (by assumption) ?_
                  rotate_left
                  · intro w hSw; (try dsimp only at hSw); go_simp; try with_reducible rfl
                  simp only [Act.put, List.setIfInBounds_toArray, List.set_cons_zero, List.set_cons_succ]
                  refine wpAnyH_take (i := 16) (oi := { dst := some 43, op := Go.Op.move (Go.Operand.tmp 42), type := 4, pos := "l04_graph.go:21", after := #[{ on := 15, ground := Go.Ground.data }, { on := 13, ground := Go.Ground.chain }], guard := none }) (v := ?_) rfl (by kernel_rfl) (by kernel_rfl) (by kernel_rfl) (fun _ _ _ h => h) (Or.inl ⟨by kernel_rfl, ?_⟩) (by assumption) ?_
                  rotate_left
                  · intro w hSw; (try dsimp only at hSw); go_simp; try with_reducible rfl
                  simp only [Act.put, List.setIfInBounds_toArray, List.set_cons_zero, List.set_cons_succ]
                  refine wpAnyH_take (i := 17) (oi := { dst := some 44, op := Go.Op.fieldAddr 99 (Go.Operand.tmp 4) 1, type := 0, pos := "l04_graph.go:21", after := #[{ on := 16, ground := Go.Ground.guard }], guard := some (16, false) }) (v := undef) rfl (by kernel_rfl) (by kernel_rfl) (by kernel_rfl) (fun _ _ _ h => h) (Or.inr ⟨by kernel_rfl, rfl⟩) (by assumption) ?_
                  simp only [Act.put, List.setIfInBounds_toArray, List.set_cons_zero, List.set_cons_succ]
                  refine wpAnyH_take (i := 18) (oi := { dst := some 45, op := Go.Op.load 5 (Go.Operand.tmp 44), type := 5, pos := "l04_graph.go:21", after := #[{ on := 17, ground := Go.Ground.data }, { on := 16, ground := Go.Ground.guard }], guard := some (16, false) }) (v := undef) rfl (by kernel_rfl) (by kernel_rfl) (by kernel_rfl) (fun _ _ _ h => h) (Or.inr ⟨by kernel_rfl, rfl⟩) (by assumption) ?_
                  simp only [Act.put, List.setIfInBounds_toArray, List.set_cons_zero, List.set_cons_succ]
                  refine wpAnyH_take (i := 19) (oi := { dst := some 46, op := Go.Op.binOp Go.BinOp.lss 5 (Go.Operand.tmp 45) (Go.Operand.const (Go.Value.int Go.IntKind.u8 97)) 5, type := 4, pos := "l04_graph.go:21", after := #[{ on := 18, ground := Go.Ground.data }, { on := 16, ground := Go.Ground.guard }], guard := some (16, false) }) (v := undef) rfl (by kernel_rfl) (by kernel_rfl) (by kernel_rfl) (fun _ _ _ h => h) (Or.inr ⟨by kernel_rfl, rfl⟩) (by assumption) ?_
                  simp only [Act.put, List.setIfInBounds_toArray, List.set_cons_zero, List.set_cons_succ]
                  refine wpAnyH_take (i := 20) (oi := { dst := some 47, op := Go.Op.pick (Go.Operand.tmp 43) (Go.Operand.const (Go.Value.bool true)) (Go.Operand.tmp 46), type := 4, pos := "l04_graph.go:21", after := #[{ on := 16, ground := Go.Ground.data }, { on := 19, ground := Go.Ground.data }], guard := none }) (v := ?_) rfl (by kernel_rfl) (by kernel_rfl) (by kernel_rfl) (fun _ _ _ h => h) (Or.inl ⟨by kernel_rfl, ?_⟩) (by assumption) ?_
                  rotate_left
                  · intro w hSw; (try dsimp only at hSw); go_simp; try with_reducible rfl
                  simp only [Act.put, List.setIfInBounds_toArray, List.set_cons_zero, List.set_cons_succ]
                  refine wpAnyH_take (i := 21) (oi := { dst := some 48, op := Go.Op.move (Go.Operand.tmp 47), type := 4, pos := "l04_graph.go:21", after := #[{ on := 20, ground := Go.Ground.data }, { on := 16, ground := Go.Ground.chain }], guard := none }) (v := ?_) rfl (by kernel_rfl) (by kernel_rfl) (by kernel_rfl) (fun _ _ _ h => h) (Or.inl ⟨by kernel_rfl, ?_⟩) (by assumption) ?_
                  rotate_left
                  · intro w hSw; (try dsimp only at hSw); go_simp; try with_reducible rfl
                  simp only [Act.put, List.setIfInBounds_toArray, List.set_cons_zero, List.set_cons_succ]
                  refine wpAnyH_take (i := 22) (oi := { dst := some 49, op := Go.Op.fieldAddr 99 (Go.Operand.tmp 4) 1, type := 0, pos := "l04_graph.go:21", after := #[{ on := 21, ground := Go.Ground.guard }], guard := some (21, false) }) (v := undef) rfl (by kernel_rfl) (by kernel_rfl) (by kernel_rfl) (fun _ _ _ h => h) (Or.inr ⟨by kernel_rfl, rfl⟩) (by assumption) ?_
                  simp only [Act.put, List.setIfInBounds_toArray, List.set_cons_zero, List.set_cons_succ]
                  refine wpAnyH_take (i := 23) (oi := { dst := some 50, op := Go.Op.load 5 (Go.Operand.tmp 49), type := 5, pos := "l04_graph.go:21", after := #[{ on := 22, ground := Go.Ground.data }, { on := 21, ground := Go.Ground.guard }], guard := some (21, false) }) (v := undef) rfl (by kernel_rfl) (by kernel_rfl) (by kernel_rfl) (fun _ _ _ h => h) (Or.inr ⟨by kernel_rfl, rfl⟩) (by assumption) ?_
                  simp only [Act.put, List.setIfInBounds_toArray, List.set_cons_zero, List.set_cons_succ]
                  refine wpAnyH_take (i := 24) (oi := { dst := some 51, op := Go.Op.binOp Go.BinOp.gtr 5 (Go.Operand.tmp 50) (Go.Operand.const (Go.Value.int Go.IntKind.u8 100)) 5, type := 4, pos := "l04_graph.go:21", after := #[{ on := 23, ground := Go.Ground.data }, { on := 21, ground := Go.Ground.guard }], guard := some (21, false) }) (v := undef) rfl (by kernel_rfl) (by kernel_rfl) (by kernel_rfl) (fun _ _ _ h => h) (Or.inr ⟨by kernel_rfl, rfl⟩) (by assumption) ?_
                  simp only [Act.put, List.setIfInBounds_toArray, List.set_cons_zero, List.set_cons_succ]
                  refine wpAnyH_take (i := 25) (oi := { dst := some 52, op := Go.Op.pick (Go.Operand.tmp 48) (Go.Operand.const (Go.Value.bool true)) (Go.Operand.tmp 51), type := 4, pos := "l04_graph.go:21", after := #[{ on := 21, ground := Go.Ground.data }, { on := 24, ground := Go.Ground.data }], guard := none }) (v := ?_) rfl (by kernel_rfl) (by kernel_rfl) (by kernel_rfl) (fun _ _ _ h => h) (Or.inl ⟨by kernel_rfl, ?_⟩) (by assumption) ?_
                  rotate_left
                  · intro w hSw; (try dsimp only at hSw); go_simp; try with_reducible rfl
                  simp only [Act.put, List.setIfInBounds_toArray, List.set_cons_zero, List.set_cons_succ]
                  refine wpAnyH_take (i := 26) (oi := { dst := some 53, op := Go.Op.move (Go.Operand.tmp 52), type := 4, pos := "l04_graph.go:21", after := #[{ on := 25, ground := Go.Ground.data }, { on := 21, ground := Go.Ground.chain }], guard := none }) (v := ?_) rfl (by kernel_rfl) (by kernel_rfl) (by kernel_rfl) (fun _ _ _ h => h) (Or.inl ⟨by kernel_rfl, ?_⟩) (by assumption) ?_
                  rotate_left
                  · intro w hSw; (try dsimp only at hSw); go_simp; try with_reducible rfl
                  simp only [Act.put, List.setIfInBounds_toArray, List.set_cons_zero, List.set_cons_succ]
                  refine wpAnyH_take (i := 27) (oi := { dst := some 54, op := Go.Op.move (Go.Operand.tmp 3), type := 3, pos := "l04_graph.go:21", after := #[{ on := 26, ground := Go.Ground.guard }], guard := some (26, false) }) (v := undef) rfl (by kernel_rfl) (by kernel_rfl) (by kernel_rfl) (fun _ _ _ h => h) (Or.inr ⟨by kernel_rfl, rfl⟩) (by assumption) ?_
                  simp only [Act.put, List.setIfInBounds_toArray, List.set_cons_zero, List.set_cons_succ]
                  refine wpAnyH_take (i := 28) (oi := { dst := some 55, op := Go.Op.binOp Go.BinOp.gtr 3 (Go.Operand.tmp 54) (Go.Operand.const (Go.Value.int Go.IntKind.i64 0)) 3, type := 4, pos := "l04_graph.go:21", after := #[{ on := 27, ground := Go.Ground.data }, { on := 26, ground := Go.Ground.guard }], guard := some (26, false) }) (v := undef) rfl (by kernel_rfl) (by kernel_rfl) (by kernel_rfl) (fun _ _ _ h => h) (Or.inr ⟨by kernel_rfl, rfl⟩) (by assumption) ?_
                  simp only [Act.put, List.setIfInBounds_toArray, List.set_cons_zero, List.set_cons_succ]
                  refine wpAnyH_take (i := 29) (oi := { dst := some 56, op := Go.Op.move (Go.Operand.tmp 55), type := 4, pos := "l04_graph.go:21", after := #[{ on := 28, ground := Go.Ground.data }, { on := 26, ground := Go.Ground.chain }, { on := 26, ground := Go.Ground.guard }], guard := some (26, false) }) (v := undef) rfl (by kernel_rfl) (by kernel_rfl) (by kernel_rfl) (fun _ _ _ h => h) (Or.inr ⟨by kernel_rfl, rfl⟩) (by assumption) ?_
                  simp only [Act.put, List.setIfInBounds_toArray, List.set_cons_zero, List.set_cons_succ]
                  refine wpAnyH_take (i := 30) (oi := { dst := some 57, op := Go.Op.fieldAddr 26 (Go.Operand.tmp 1) 1, type := 0, pos := "l04_graph.go:21", after := #[{ on := 29, ground := Go.Ground.guard }], guard := some (29, true) }) (v := undef) rfl (by kernel_rfl) (by kernel_rfl) (by kernel_rfl) (fun _ _ _ h => h) (Or.inr ⟨by kernel_rfl, rfl⟩) (by assumption) ?_
                  simp only [Act.put, List.setIfInBounds_toArray, List.set_cons_zero, List.set_cons_succ]
                  refine wpAnyH_take (i := 31) (oi := { dst := some 58, op := Go.Op.load 24 (Go.Operand.tmp 57), type := 24, pos := "l04_graph.go:21", after := #[{ on := 30, ground := Go.Ground.data }, { on := 29, ground := Go.Ground.guard }], guard := some (29, true) }) (v := undef) rfl (by kernel_rfl) (by kernel_rfl) (by kernel_rfl) (fun _ _ _ h => h) (Or.inr ⟨by kernel_rfl, rfl⟩) (by assumption) ?_
                  simp only [Act.put, List.setIfInBounds_toArray, List.set_cons_zero, List.set_cons_succ]
                  refine wpAnyH_take (i := 32) (oi := { dst := some 59, op := Go.Op.move (Go.Operand.tmp 3), type := 3, pos := "l04_graph.go:21", after := #[{ on := 29, ground := Go.Ground.guard }], guard := some (29, true) }) (v := undef) rfl (by kernel_rfl) (by kernel_rfl) (by kernel_rfl) (fun _ _ _ h => h) (Or.inr ⟨by kernel_rfl, rfl⟩) (by assumption) ?_
                  simp only [Act.put, List.setIfInBounds_toArray, List.set_cons_zero, List.set_cons_succ]
                  refine wpAnyH_take (i := 33) (oi := { dst := some 60, op := Go.Op.binOp Go.BinOp.sub 3 (Go.Operand.tmp 59) (Go.Operand.const (Go.Value.int Go.IntKind.i64 1)) 3, type := 3, pos := "l04_graph.go:21", after := #[{ on := 32, ground := Go.Ground.data }, { on := 29, ground := Go.Ground.guard }], guard := some (29, true) }) (v := undef) rfl (by kernel_rfl) (by kernel_rfl) (by kernel_rfl) (fun _ _ _ h => h) (Or.inr ⟨by kernel_rfl, rfl⟩) (by assumption) ?_
                  simp only [Act.put, List.setIfInBounds_toArray, List.set_cons_zero, List.set_cons_succ]
                  refine wpAnyH_take (i := 34) (oi := { dst := some 61, op := Go.Op.indexAddr 24 (Go.Operand.tmp 58) (Go.Operand.tmp 60), type := 0, pos := "l04_graph.go:21", after := #[{ on := 31, ground := Go.Ground.data }, { on := 33, ground := Go.Ground.data }, { on := 29, ground := Go.Ground.guard }], guard := some (29, true) }) (v := undef) rfl (by kernel_rfl) (by kernel_rfl) (by kernel_rfl) (fun _ _ _ h => h) (Or.inr ⟨by kernel_rfl, rfl⟩) (by assumption) ?_
                  simp only [Act.put, List.setIfInBounds_toArray, List.set_cons_zero, List.set_cons_succ]
                  refine wpAnyH_take (i := 35) (oi := { dst := some 62, op := Go.Op.load 99 (Go.Operand.tmp 61), type := 99, pos := "l04_graph.go:21", after := #[{ on := 34, ground := Go.Ground.data }, { on := 29, ground := Go.Ground.guard }], guard := some (29, true) }) (v := undef) rfl (by kernel_rfl) (by kernel_rfl) (by kernel_rfl) (fun _ _ _ h => h) (Or.inr ⟨by kernel_rfl, rfl⟩) (by assumption) ?_
                  simp only [Act.put, List.setIfInBounds_toArray, List.set_cons_zero, List.set_cons_succ]
                  refine wpAnyH_take (i := 36) (oi := { dst := some 63, op := Go.Op.load 99 (Go.Operand.tmp 4), type := 99, pos := "l04_graph.go:21", after := #[{ on := 29, ground := Go.Ground.guard }], guard := some (29, true) }) (v := undef) rfl (by kernel_rfl) (by kernel_rfl) (by kernel_rfl) (fun _ _ _ h => h) (Or.inr ⟨by kernel_rfl, rfl⟩) (by assumption) ?_
                  simp only [Act.put, List.setIfInBounds_toArray, List.set_cons_zero, List.set_cons_succ]
                  refine wpAnyH_ready (rs := [37]) (by kernel_rfl) (by simp) ?_
                  refine AllReadyH.cons (o := { dst := some 64, op := Go.Op.call { callee := Go.Callee.value (Go.Operand.func 66), args := #[Go.Operand.tmp 62, Go.Operand.tmp 63], argTypes := #[99, 99] }, type := 4, pos := "l04_graph.go:21", after := #[{ on := 35, ground := Go.Ground.data }, { on := 36, ground := Go.Ground.data }, { on := 29, ground := Go.Ground.chain }, { on := 29, ground := Go.Ground.guard }], guard := some (29, true) }) rfl (fun K hK => ?_) ?_
                  · rw [if_neg (by refine Bool.eq_false_iff.1 ?_; kernel_rfl)]
                    refine hK.out _ _ hHeld (fun hHeld => ?_)
                    clear hK K
                    try simp only [Act.put, List.setIfInBounds_toArray, List.set_cons_zero, List.set_cons_succ]
                    refine wpAnyH_take (i := 38) (oi := { dst := some 65, op := Go.Op.unOp Go.UnOp.not 4 (Go.Operand.tmp 64), type := 4, pos := "l04_graph.go:21", after := #[{ on := 37, ground := Go.Ground.data }, { on := 29, ground := Go.Ground.guard }], guard := some (29, true) }) (v := undef) rfl (by kernel_rfl) (by kernel_rfl) (by kernel_rfl) (fun _ _ _ h => h) (Or.inr ⟨by kernel_rfl, rfl⟩) (by assumption) ?_
                    simp only [Act.put, List.setIfInBounds_toArray, List.set_cons_zero, List.set_cons_succ]
                    refine wpAnyH_take (i := 39) (oi := { dst := some 66, op := Go.Op.pick (Go.Operand.tmp 56) (Go.Operand.tmp 65) (Go.Operand.const (Go.Value.bool false)), type := 4, pos := "l04_graph.go:21", after := #[{ on := 29, ground := Go.Ground.data }, { on := 38, ground := Go.Ground.data }, { on := 26, ground := Go.Ground.guard }], guard := some (26, false) }) (v := undef) rfl (by kernel_rfl) (by kernel_rfl) (by kernel_rfl) (fun _ _ _ h => h) (Or.inr ⟨by kernel_rfl, rfl⟩) (by assumption) ?_
                    simp only [Act.put, List.setIfInBounds_toArray, List.set_cons_zero, List.set_cons_succ]
                    refine wpAnyH_take (i := 40) (oi := { dst := some 67, op := Go.Op.pick (Go.Operand.tmp 53) (Go.Operand.const (Go.Value.bool true)) (Go.Operand.tmp 66), type := 4, pos := "l04_graph.go:21", after := #[{ on := 26, ground := Go.Ground.data }, { on := 39, ground := Go.Ground.data }], guard := none }) (v := ?_) rfl (by kernel_rfl) (by kernel_rfl) (by kernel_rfl) (fun _ _ _ h => h) (Or.inl ⟨by kernel_rfl, ?_⟩) (by assumption) ?_
                    rotate_left
                    · intro w hSw; (try dsimp only at hSw); go_simp; try with_reducible rfl
                    simp only [Act.put, List.setIfInBounds_toArray, List.set_cons_zero, List.set_cons_succ]
                    refine wpAnyH_done (by kernel_rfl) ?_ _
                    clear hHeld
                    go_wp2
                    go_ret
                    refine ⟨?_, HLW.out.drew⟩
                    have : r = false := by rw [HR.out]; exact okG_no (k := k) (by rw [HN.out]; exact hlt) (okGAt_no HOE.out)
                    rw [this]; rfl
                  exact AllReadyH.nil
                exact AllReadyH.nil
              exact AllReadyH.nil
          · subst hu
            rw [Bool.false_and, Bool.false_and, Bool.false_and] at HOE
            have HKS : Hid (∀ w', Below W.heap.size W w' → ((w'.cell? ⟨w.heap.size, 0, none⟩ = some (.int .i64 s) ∧ w'.cell? ⟨w.heap.size, 1, none⟩ = some (.slice (some ⟨b, o, none⟩) n cap)) ∧ (w'.cell? ⟨wr.heap.size, 0, none⟩ = some (.int .i64 x0) ∧ w'.cell? ⟨wr.heap.size, 1, none⟩ = some (.int .u8 x1) ∧ w'.cell? ⟨wr.heap.size, 2, none⟩ = some (.int .i64 x2)))) := fun w' h => ⟨⟨cell_below g0 h (lt_of_cell g0), cell_below g1 h (lt_of_cell g1)⟩, ⟨cell_below e0 h (lt_of_cell e0), cell_below e1 h (lt_of_cell e1), cell_below e2 h (lt_of_cell e2)⟩⟩
            refine wp_region_held_drew (S := fun w' => (w'.cell? ⟨w.heap.size, 0, none⟩ = some (.int .i64 s) ∧ w'.cell? ⟨w.heap.size, 1, none⟩ = some (.slice (some ⟨b, o, none⟩) n cap)) ∧ (w'.cell? ⟨wr.heap.size, 0, none⟩ = some (.int .i64 x0) ∧ w'.cell? ⟨wr.heap.size, 1, none⟩ = some (.int .u8 x1) ∧ w'.cell? ⟨wr.heap.size, 2, none⟩ = some (.int .i64 x2))) (by kernel_rfl) (HKS.out _ ((Below.refl _ _).drew)) (fun hHeld => ?_)
            refine wpAnyH_take (i := 0) (oi := { dst := some 27, op := Go.Op.fieldAddr 99 (Go.Operand.tmp 4) 0, type := 0, pos := "l04_graph.go:21", after := #[], guard := none }) (v := ?_) rfl (by kernel_rfl) (by kernel_rfl) (by kernel_rfl) (fun _ _ _ h => h) (Or.inl ⟨by kernel_rfl, ?_⟩) (by assumption) ?_
            rotate_left
            · intro w hSw; (try dsimp only at hSw); go_simp; try with_reducible rfl
            simp only [Act.put, List.setIfInBounds_toArray, List.set_cons_zero, List.set_cons_succ]
            refine wpAnyH_take (i := 1) (oi := { dst := some 28, op := Go.Op.load 3 (Go.Operand.tmp 27), type := 3, pos := "l04_graph.go:21", after := #[{ on := 0, ground := Go.Ground.data }], guard := none }) (v := ?_) rfl (by kernel_rfl) (by kernel_rfl) (by kernel_rfl) (fun _ _ _ h => h) (Or.inl ⟨by kernel_rfl, ?_⟩) (by assumption) ?_
            rotate_left
            · intro w hSw; (try dsimp only at hSw); go_simp; try with_reducible rfl
            simp only [Act.put, List.setIfInBounds_toArray, List.set_cons_zero, List.set_cons_succ]
            refine wpAnyH_take (i := 2) (oi := { dst := some 29, op := Go.Op.fieldAddr 26 (Go.Operand.tmp 1) 0, type := 0, pos := "l04_graph.go:21", after := #[], guard := none }) (v := ?_) rfl (by kernel_rfl) (by kernel_rfl) (by kernel_rfl) (fun _ _ _ h => h) (Or.inl ⟨by kernel_rfl, ?_⟩) (by assumption) ?_
            rotate_left
            · intro w hSw; (try dsimp only at hSw); go_simp; try with_reducible rfl
            simp only [Act.put, List.setIfInBounds_toArray, List.set_cons_zero, List.set_cons_succ]
            refine wpAnyH_take (i := 3) (oi := { dst := some 30, op := Go.Op.load 3 (Go.Operand.tmp 29), type := 3, pos := "l04_graph.go:21", after := #[{ on := 2, ground := Go.Ground.data }], guard := none }) (v := ?_) rfl (by kernel_rfl) (by kernel_rfl) (by kernel_rfl) (fun _ _ _ h => h) (Or.inl ⟨by kernel_rfl, ?_⟩) (by assumption) ?_
            rotate_left
            · intro w hSw; (try dsimp only at hSw); go_simp; try with_reducible rfl
            simp only [Act.put, List.setIfInBounds_toArray, List.set_cons_zero, List.set_cons_succ]
            refine wpAnyH_take (i := 4) (oi := { dst := some 31, op := Go.Op.binOp Go.BinOp.sub 3 (Go.Operand.tmp 30) (Go.Operand.const (Go.Value.int Go.IntKind.i64 1)) 3, type := 3, pos := "l04_graph.go:21", after := #[{ on := 3, ground := Go.Ground.data }], guard := none }) (v := ?_) rfl (by kernel_rfl) (by kernel_rfl) (by kernel_rfl) (fun _ _ _ h => h) (Or.inl ⟨by kernel_rfl, ?_⟩) (by assumption) ?_
            rotate_left
            · intro w hSw; (try dsimp only at hSw); go_simp; try with_reducible rfl
            simp only [Act.put, List.setIfInBounds_toArray, List.set_cons_zero, List.set_cons_succ]
            refine wpAnyH_ready (rs := [5]) (by kernel_rfl) (by simp) ?_
            refine AllReadyH.cons (o := { dst := some 32, op := Go.Op.call { callee := Go.Callee.value (Go.Operand.func 46), args := #[Go.Operand.tmp 28, Go.Operand.const (Go.Value.int Go.IntKind.i64 0), Go.Operand.tmp 31], argTypes := #[3, 3, 3] }, type := 4, pos := "l04_graph.go:21", after := #[{ on := 1, ground := Go.Ground.data }, { on := 4, ground := Go.Ground.data }], guard := none }) rfl (fun K hK => ?_) ?_
            · go_simp
              go_wp2_with (go_at_call 46; refine (HC0.out _).mono ?_; rintro e w1 ⟨rfl, rfl⟩)
              refine hK.out _ _ hHeld (fun hHeld => ?_)
              clear hK K
              try simp only [Act.put, List.setIfInBounds_toArray, List.set_cons_zero, List.set_cons_succ]
              refine wpAnyH_take (i := 6) (oi := { dst := some 33, op := Go.Op.unOp Go.UnOp.not 4 (Go.Operand.tmp 32), type := 4, pos := "l04_graph.go:21", after := #[{ on := 5, ground := Go.Ground.data }], guard := none }) (v := ?_) rfl (by kernel_rfl) (by kernel_rfl) (by kernel_rfl) (fun _ _ _ h => h) (Or.inl ⟨by kernel_rfl, ?_⟩) (by assumption) ?_
              rotate_left
              · intro w hSw; (try dsimp only at hSw); go_simp; try with_reducible rfl
              simp only [Act.put, List.setIfInBounds_toArray, List.set_cons_zero, List.set_cons_succ]
              refine wpAnyH_take (i := 7) (oi := { dst := some 34, op := Go.Op.move (Go.Operand.tmp 33), type := 4, pos := "l04_graph.go:21", after := #[{ on := 6, ground := Go.Ground.data }, { on := 5, ground := Go.Ground.chain }], guard := none }) (v := ?_) rfl (by kernel_rfl) (by kernel_rfl) (by kernel_rfl) (fun _ _ _ h => h) (Or.inl ⟨by kernel_rfl, ?_⟩) (by assumption) ?_
              rotate_left
              · intro w hSw; (try dsimp only at hSw); go_simp; try with_reducible rfl
              simp only [Act.put, List.setIfInBounds_toArray, List.set_cons_zero, List.set_cons_succ]
              refine wpAnyH_take (i := 8) (oi := { dst := some 35, op := Go.Op.fieldAddr 99 (Go.Operand.tmp 4) 2, type := 0, pos := "l04_graph.go:21", after := #[{ on := 7, ground := Go.Ground.guard }], guard := some (7, false) }) (v := undef) rfl (by kernel_rfl) (by kernel_rfl) (by kernel_rfl) (fun _ _ _ h => h) (Or.inr ⟨by kernel_rfl, rfl⟩) (by assumption) ?_
              simp only [Act.put, List.setIfInBounds_toArray, List.set_cons_zero, List.set_cons_succ]
              refine wpAnyH_take (i := 9) (oi := { dst := some 36, op := Go.Op.load 3 (Go.Operand.tmp 35), type := 3, pos := "l04_graph.go:21", after := #[{ on := 8, ground := Go.Ground.data }, { on := 7, ground := Go.Ground.guard }], guard := some (7, false) }) (v := undef) rfl (by kernel_rfl) (by kernel_rfl) (by kernel_rfl) (fun _ _ _ h => h) (Or.inr ⟨by kernel_rfl, rfl⟩) (by assumption) ?_
              simp only [Act.put, List.setIfInBounds_toArray, List.set_cons_zero, List.set_cons_succ]
              refine wpAnyH_take (i := 10) (oi := { dst := some 37, op := Go.Op.fieldAddr 26 (Go.Operand.tmp 1) 0, type := 0, pos := "l04_graph.go:21", after := #[{ on := 7, ground := Go.Ground.guard }], guard := some (7, false) }) (v := undef) rfl (by kernel_rfl) (by kernel_rfl) (by kernel_rfl) (fun _ _ _ h => h) (Or.inr ⟨by kernel_rfl, rfl⟩) (by assumption) ?_
              simp only [Act.put, List.setIfInBounds_toArray, List.set_cons_zero, List.set_cons_succ]
              refine wpAnyH_take (i := 11) (oi := { dst := some 38, op := Go.Op.load 3 (Go.Operand.tmp 37), type := 3, pos := "l04_graph.go:21", after := #[{ on := 10, ground := Go.Ground.data }, { on := 7, ground := Go.Ground.guard }], guard := some (7, false) }) (v := undef) rfl (by kernel_rfl) (by kernel_rfl) (by kernel_rfl) (fun _ _ _ h => h) (Or.inr ⟨by kernel_rfl, rfl⟩) (by assumption) ?_
              simp only [Act.put, List.setIfInBounds_toArray, List.set_cons_zero, List.set_cons_succ]
              refine wpAnyH_take (i := 12) (oi := { dst := some 39, op := Go.Op.binOp Go.BinOp.sub 3 (Go.Operand.tmp 38) (Go.Operand.const (Go.Value.int Go.IntKind.i64 1)) 3, type := 3, pos := "l04_graph.go:21", after := #[{ on := 11, ground := Go.Ground.data }, { on := 7, ground := Go.Ground.guard }], guard := some (7, false) }) (v := undef) rfl (by kernel_rfl) (by kernel_rfl) (by kernel_rfl) (fun _ _ _ h => h) (Or.inr ⟨by kernel_rfl, rfl⟩) (by assumption) ?_
              simp only [Act.put, List.setIfInBounds_toArray, List.set_cons_zero, List.set_cons_succ]
              refine wpAnyH_ready (rs := [13]) (by kernel_rfl) (by simp) ?_
              refine AllReadyH.cons (o := { dst := some 40, op := Go.Op.call { callee := Go.Callee.value (Go.Operand.func 46), args := #[Go.Operand.tmp 36, Go.Operand.const (Go.Value.int Go.IntKind.i64 0), Go.Operand.tmp 39], argTypes := #[3, 3, 3] }, type := 4, pos := "l04_graph.go:21", after := #[{ on := 9, ground := Go.Ground.data }, { on := 12, ground := Go.Ground.data }, { on := 7, ground := Go.Ground.chain }, { on := 7, ground := Go.Ground.guard }], guard := some (7, false) }) rfl (fun K hK => ?_) ?_
              · rw [if_neg (by refine Bool.eq_false_iff.1 ?_; kernel_rfl)]
                refine hK.out _ _ hHeld (fun hHeld => ?_)
                clear hK K
                try simp only [Act.put, List.setIfInBounds_toArray, List.set_cons_zero, List.set_cons_succ]
                refine wpAnyH_take (i := 14) (oi := { dst := some 41, op := Go.Op.unOp Go.UnOp.not 4 (Go.Operand.tmp 40), type := 4, pos := "l04_graph.go:21", after := #[{ on := 13, ground := Go.Ground.data }, { on := 7, ground := Go.Ground.guard }], guard := some (7, false) }) (v := undef) rfl (by kernel_rfl) (by kernel_rfl) (by kernel_rfl) (fun _ _ _ h => h) (Or.inr ⟨by kernel_rfl, rfl⟩) (by assumption) ?_
                simp only [Act.put, List.setIfInBounds_toArray, List.set_cons_zero, List.set_cons_succ]
                refine wpAnyH_take (i := 15) (oi := { dst := some 42, op := Go.Op.pick (Go.Operand.tmp 34) (Go.Operand.const (Go.Value.bool true)) (Go.Operand.tmp 41), type := 4, pos := "l04_graph.go:21", after := #[{ on := 7, ground := Go.Ground.data }, { on := 14, ground := Go.Ground.data }], guard := none }) (v := ?_) rfl (by kernel_rfl) (by kernel_rfl) (by kernel_rfl) (fun _ _ _ h => h) (Or.inl ⟨by kernel_rfl, ?_⟩) (by assumption) ?_
                rotate_left
                · intro w hSw; (try dsimp only at hSw); go_simp; try with_reducible rfl
                simp only [Act.put, List.setIfInBounds_toArray, List.set_cons_zero, List.set_cons_succ]
                refine wpAnyH_take (i := 16) (oi := { dst := some 43, op := Go.Op.move (Go.Operand.tmp 42), type := 4, pos := "l04_graph.go:21", after := #[{ on := 15, ground := Go.Ground.data }, { on := 13, ground := Go.Ground.chain }], guard := none }) (v := ?_) rfl (by kernel_rfl) (by kernel_rfl) (by kernel_rfl) (fun _ _ _ h => h) (Or.inl ⟨by kernel_rfl, ?_⟩) (by assumption) ?_
                rotate_left
                · intro w hSw; (try dsimp only at hSw); go_simp; try with_reducible rfl
                simp only [Act.put, List.setIfInBounds_toArray, List.set_cons_zero, List.set_cons_succ]
                refine wpAnyH_take (i := 17) (oi := { dst := some 44, op := Go.Op.fieldAddr 99 (Go.Operand.tmp 4) 1, type := 0, pos := "l04_graph.go:21", after := #[{ on := 16, ground := Go.Ground.guard }], guard := some (16, false) }) (v := undef) rfl (by kernel_rfl) (by kernel_rfl) (by kernel_rfl) (fun _ _ _ h => h) (Or.inr ⟨by kernel_rfl, rfl⟩) (by assumption) ?_
                simp only [Act.put, List.setIfInBounds_toArray, List.set_cons_zero, List.set_cons_succ]
                refine wpAnyH_take (i := 18) (oi := { dst := some 45, op := Go.Op.load 5 (Go.Operand.tmp 44), type := 5, pos := "l04_graph.go:21", after := #[{ on := 17, ground := Go.Ground.data }, { on := 16, ground := Go.Ground.guard }], guard := some (16, false) }) (v := undef) rfl (by kernel_rfl) (by kernel_rfl) (by kernel_rfl) (fun _ _ _ h => h) (Or.inr ⟨by kernel_rfl, rfl⟩) (by assumption) ?_
                simp only [Act.put, List.setIfInBounds_toArray, List.set_cons_zero, List.set_cons_succ]
                refine wpAnyH_take (i := 19) (oi := { dst := some 46, op := Go.Op.binOp Go.BinOp.lss 5 (Go.Operand.tmp 45) (Go.Operand.const (Go.Value.int Go.IntKind.u8 97)) 5, type := 4, pos := "l04_graph.go:21", after := #[{ on := 18, ground := Go.Ground.data }, { on := 16, ground := Go.Ground.guard }], guard := some (16, false) }) (v := undef) rfl (by kernel_rfl) (by kernel_rfl) (by kernel_rfl) (fun _ _ _ h => h) (Or.inr ⟨by kernel_rfl, rfl⟩) (by assumption) ?_
                simp only [Act.put, List.setIfInBounds_toArray, List.set_cons_zero, List.set_cons_succ]
                refine wpAnyH_take (i := 20) (oi := { dst := some 47, op := Go.Op.pick (Go.Operand.tmp 43) (Go.Operand.const (Go.Value.bool true)) (Go.Operand.tmp 46), type := 4, pos := "l04_graph.go:21", after := #[{ on := 16, ground := Go.Ground.data }, { on := 19, ground := Go.Ground.data }], guard := none }) (v := ?_) rfl (by kernel_rfl) (by kernel_rfl) (by kernel_rfl) (fun _ _ _ h => h) (Or.inl ⟨by kernel_rfl, ?_⟩) (by assumption) ?_
                rotate_left
                · intro w hSw; (try dsimp only at hSw); go_simp; try with_reducible rfl
                simp only [Act.put, List.setIfInBounds_toArray, List.set_cons_zero, List.set_cons_succ]
                refine wpAnyH_take (i := 21) (oi := { dst := some 48, op := Go.Op.move (Go.Operand.tmp 47), type := 4, pos := "l04_graph.go:21", after := #[{ on := 20, ground := Go.Ground.data }, { on := 16, ground := Go.Ground.chain }], guard := none }) (v := ?_) rfl (by kernel_rfl) (by kernel_rfl) (by kernel_rfl) (fun _ _ _ h => h) (Or.inl ⟨by kernel_rfl, ?_⟩) (by assumption) ?_
                rotate_left
                · intro w hSw; (try dsimp only at hSw); go_simp; try with_reducible rfl
                simp only [Act.put, List.setIfInBounds_toArray, List.set_cons_zero, List.set_cons_succ]
                refine wpAnyH_take (i := 22) (oi := { dst := some 49, op := Go.Op.fieldAddr 99 (Go.Operand.tmp 4) 1, type := 0, pos := "l04_graph.go:21", after := #[{ on := 21, ground := Go.Ground.guard }], guard := some (21, false) }) (v := undef) rfl (by kernel_rfl) (by kernel_rfl) (by kernel_rfl) (fun _ _ _ h => h) (Or.inr ⟨by kernel_rfl, rfl⟩) (by assumption) ?_
                simp only [Act.put, List.setIfInBounds_toArray, List.set_cons_zero, List.set_cons_succ]
                refine wpAnyH_take (i := 23) (oi := { dst := some 50, op := Go.Op.load 5 (Go.Operand.tmp 49), type := 5, pos := "l04_graph.go:21", after := #[{ on := 22, ground := Go.Ground.data }, { on := 21, ground := Go.Ground.guard }], guard := some (21, false) }) (v := undef) rfl (by kernel_rfl) (by kernel_rfl) (by kernel_rfl) (fun _ _ _ h => h) (Or.inr ⟨by kernel_rfl, rfl⟩) (by assumption) ?_
                simp only [Act.put, List.setIfInBounds_toArray, List.set_cons_zero, List.set_cons_succ]
                refine wpAnyH_take (i := 24) (oi := { dst := some 51, op := Go.Op.binOp Go.BinOp.gtr 5 (Go.Operand.tmp 50) (Go.Operand.const (Go.Value.int Go.IntKind.u8 100)) 5, type := 4, pos := "l04_graph.go:21", after := #[{ on := 23, ground := Go.Ground.data }, { on := 21, ground := Go.Ground.guard }], guard := some (21, false) }) (v := undef) rfl (by kernel_rfl) (by kernel_rfl) (by kernel_rfl) (fun _ _ _ h => h) (Or.inr ⟨by kernel_rfl, rfl⟩) (by assumption) ?_
                simp only [Act.put, List.setIfInBounds_toArray, List.set_cons_zero, List.set_cons_succ]
                refine wpAnyH_take (i := 25) (oi := { dst := some 52, op := Go.Op.pick (Go.Operand.tmp 48) (Go.Operand.const (Go.Value.bool true)) (Go.Operand.tmp 51), type := 4, pos := "l04_graph.go:21", after := #[{ on := 21, ground := Go.Ground.data }, { on := 24, ground := Go.Ground.data }], guard := none }) (v := ?_) rfl (by kernel_rfl) (by kernel_rfl) (by kernel_rfl) (fun _ _ _ h => h) (Or.inl ⟨by kernel_rfl, ?_⟩) (by assumption) ?_
                rotate_left
                · intro w hSw; (try dsimp only at hSw); go_simp; try with_reducible rfl
                simp only [Act.put, List.setIfInBounds_toArray, List.set_cons_zero, List.set_cons_succ]
                refine wpAnyH_take (i := 26) (oi := { dst := some 53, op := Go.Op.move (Go.Operand.tmp 52), type := 4, pos := "l04_graph.go:21", after := #[{ on := 25, ground := Go.Ground.data }, { on := 21, ground := Go.Ground.chain }], guard := none }) (v := ?_) rfl (by kernel_rfl) (by kernel_rfl) (by kernel_rfl) (fun _ _ _ h => h) (Or.inl ⟨by kernel_rfl, ?_⟩) (by assumption) ?_
                rotate_left
                · intro w hSw; (try dsimp only at hSw); go_simp; try with_reducible rfl
                simp only [Act.put, List.setIfInBounds_toArray, List.set_cons_zero, List.set_cons_succ]
                refine wpAnyH_take (i := 27) (oi := { dst := some 54, op := Go.Op.move (Go.Operand.tmp 3), type := 3, pos := "l04_graph.go:21", after := #[{ on := 26, ground := Go.Ground.guard }], guard := some (26, false) }) (v := undef) rfl (by kernel_rfl) (by kernel_rfl) (by kernel_rfl) (fun _ _ _ h => h) (Or.inr ⟨by kernel_rfl, rfl⟩) (by assumption) ?_
                simp only [Act.put, List.setIfInBounds_toArray, List.set_cons_zero, List.set_cons_succ]
                refine wpAnyH_take (i := 28) (oi := { dst := some 55, op := Go.Op.binOp Go.BinOp.gtr 3 (Go.Operand.tmp 54) (Go.Operand.const (Go.Value.int Go.IntKind.i64 0)) 3, type := 4, pos := "l04_graph.go:21", after := #[{ on := 27, ground := Go.Ground.data }, { on := 26, ground := Go.Ground.guard }], guard := some (26, false) }) (v := undef) rfl (by kernel_rfl) (by kernel_rfl) (by kernel_rfl) (fun _ _ _ h => h) (Or.inr ⟨by kernel_rfl, rfl⟩) (by assumption) ?_
                simp only [Act.put, List.setIfInBounds_toArray, List.set_cons_zero, List.set_cons_succ]
                refine wpAnyH_take (i := 29) (oi := { dst := some 56, op := Go.Op.move (Go.Operand.tmp 55), type := 4, pos := "l04_graph.go:21", after := #[{ on := 28, ground := Go.Ground.data }, { on := 26, ground := Go.Ground.chain }, { on := 26, ground := Go.Ground.guard }], guard := some (26, false) }) (v := undef) rfl (by kernel_rfl) (by kernel_rfl) (by kernel_rfl) (fun _ _ _ h => h) (Or.inr ⟨by kernel_rfl, rfl⟩) (by assumption) ?_
                simp only [Act.put, List.setIfInBounds_toArray, List.set_cons_zero, List.set_cons_succ]
                refine wpAnyH_take (i := 30) (oi := { dst := some 57, op := Go.Op.fieldAddr 26 (Go.Operand.tmp 1) 1, type := 0, pos := "l04_graph.go:21", after := #[{ on := 29, ground := Go.Ground.guard }], guard := some (29, true) }) (v := undef) rfl (by kernel_rfl) (by kernel_rfl) (by kernel_rfl) (fun _ _ _ h => h) (Or.inr ⟨by kernel_rfl, rfl⟩) (by assumption) ?_
                simp only [Act.put, List.setIfInBounds_toArray, List.set_cons_zero, List.set_cons_succ]
                refine wpAnyH_take (i := 31) (oi := { dst := some 58, op := Go.Op.load 24 (Go.Operand.tmp 57), type := 24, pos := "l04_graph.go:21", after := #[{ on := 30, ground := Go.Ground.data }, { on := 29, ground := Go.Ground.guard }], guard := some (29, true) }) (v := undef) rfl (by kernel_rfl) (by kernel_rfl) (by kernel_rfl) (fun _ _ _ h => h) (Or.inr ⟨by kernel_rfl, rfl⟩) (by assumption) ?_
                simp only [Act.put, List.setIfInBounds_toArray, List.set_cons_zero, List.set_cons_succ]
                refine wpAnyH_take (i := 32) (oi := { dst := some 59, op := Go.Op.move (Go.Operand.tmp 3), type := 3, pos := "l04_graph.go:21", after := #[{ on := 29, ground := Go.Ground.guard }], guard := some (29, true) }) (v := undef) rfl (by kernel_rfl) (by kernel_rfl) (by kernel_rfl) (fun _ _ _ h => h) (Or.inr ⟨by kernel_rfl, rfl⟩) (by assumption) ?_
                simp only [Act.put, List.setIfInBounds_toArray, List.set_cons_zero, List.set_cons_succ]
                refine wpAnyH_take (i := 33) (oi := { dst := some 60, op := Go.Op.binOp Go.BinOp.sub 3 (Go.Operand.tmp 59) (Go.Operand.const (Go.Value.int Go.IntKind.i64 1)) 3, type := 3, pos := "l04_graph.go:21", after := #[{ on := 32, ground := Go.Ground.data }, { on := 29, ground := Go.Ground.guard }], guard := some (29, true) }) (v := undef) rfl (by kernel_rfl) (by kernel_rfl) (by kernel_rfl) (fun _ _ _ h => h) (Or.inr ⟨by kernel_rfl, rfl⟩) (by assumption) ?_
                simp only [Act.put, List.setIfInBounds_toArray, List.set_cons_zero, List.set_cons_succ]
                refine wpAnyH_take (i := 34) (oi := { dst := some 61, op := Go.Op.indexAddr 24 (Go.Operand.tmp 58) (Go.Operand.tmp 60), type := 0, pos := "l04_graph.go:21", after := #[{ on := 31, ground := Go.Ground.data }, { on := 33, ground := Go.Ground.data }, { on := 29, ground := Go.Ground.guard }], guard := some (29, true) }) (v := undef) rfl (by kernel_rfl) (by kernel_rfl) (by kernel_rfl) (fun _ _ _ h => h) (Or.inr ⟨by kernel_rfl, rfl⟩) (by assumption) ?_
                simp only [Act.put, List.setIfInBounds_toArray, List.set_cons_zero, List.set_cons_succ]
                refine wpAnyH_take (i := 35) (oi := { dst := some 62, op := Go.Op.load 99 (Go.Operand.tmp 61), type := 99, pos := "l04_graph.go:21", after := #[{ on := 34, ground := Go.Ground.data }, { on := 29, ground := Go.Ground.guard }], guard := some (29, true) }) (v := undef) rfl (by kernel_rfl) (by kernel_rfl) (by kernel_rfl) (fun _ _ _ h => h) (Or.inr ⟨by kernel_rfl, rfl⟩) (by assumption) ?_
                simp only [Act.put, List.setIfInBounds_toArray, List.set_cons_zero, List.set_cons_succ]
                refine wpAnyH_take (i := 36) (oi := { dst := some 63, op := Go.Op.load 99 (Go.Operand.tmp 4), type := 99, pos := "l04_graph.go:21", after := #[{ on := 29, ground := Go.Ground.guard }], guard := some (29, true) }) (v := undef) rfl (by kernel_rfl) (by kernel_rfl) (by kernel_rfl) (fun _ _ _ h => h) (Or.inr ⟨by kernel_rfl, rfl⟩) (by assumption) ?_
                simp only [Act.put, List.setIfInBounds_toArray, List.set_cons_zero, List.set_cons_succ]
                refine wpAnyH_ready (rs := [37]) (by kernel_rfl) (by simp) ?_
                refine AllReadyH.cons (o := { dst := some 64, op := Go.Op.call { callee := Go.Callee.value (Go.Operand.func 66), args := #[Go.Operand.tmp 62, Go.Operand.tmp 63], argTypes := #[99, 99] }, type := 4, pos := "l04_graph.go:21", after := #[{ on := 35, ground := Go.Ground.data }, { on := 36, ground := Go.Ground.data }, { on := 29, ground := Go.Ground.chain }, { on := 29, ground := Go.Ground.guard }], guard := some (29, true) }) rfl (fun K hK => ?_) ?_
                · rw [if_neg (by refine Bool.eq_false_iff.1 ?_; kernel_rfl)]
                  refine hK.out _ _ hHeld (fun hHeld => ?_)
                  clear hK K
                  try simp only [Act.put, List.setIfInBounds_toArray, List.set_cons_zero, List.set_cons_succ]
                  refine wpAnyH_take (i := 38) (oi := { dst := some 65, op := Go.Op.unOp Go.UnOp.not 4 (Go.Operand.tmp 64), type := 4, pos := "l04_graph.go:21", after := #[{ on := 37, ground := Go.Ground.data }, { on := 29, ground := Go.Ground.guard }], guard := some (29, true) }) (v := undef) rfl (by kernel_rfl) (by kernel_rfl) (by kernel_rfl) (fun _ _ _ h => h) (Or.inr ⟨by kernel_rfl, rfl⟩) (by assumption) ?_
                  simp only [Act.put, List.setIfInBounds_toArray, List.set_cons_zero, List.set_cons_succ]
                  refine wpAnyH_take (i := 39) (oi := { dst := some 66, op := Go.Op.pick (Go.Operand.tmp 56) (Go.Operand.tmp 65) (Go.Operand.const (Go.Value.bool false)), type := 4, pos := "l04_graph.go:21", after := #[{ on := 29, ground := Go.Ground.data }, { on := 38, ground := Go.Ground.data }, { on := 26, ground := Go.Ground.guard }], guard := some (26, false) }) (v := undef) rfl (by kernel_rfl) (by kernel_rfl) (by kernel_rfl) (fun _ _ _ h => h) (Or.inr ⟨by kernel_rfl, rfl⟩) (by assumption) ?_
                  simp only [Act.put, List.setIfInBounds_toArray, List.set_cons_zero, List.set_cons_succ]
                  refine wpAnyH_take (i := 40) (oi := { dst := some 67, op := Go.Op.pick (Go.Operand.tmp 53) (Go.Operand.const (Go.Value.bool true)) (Go.Operand.tmp 66), type := 4, pos := "l04_graph.go:21", after := #[{ on := 26, ground := Go.Ground.data }, { on := 39, ground := Go.Ground.data }], guard := none }) (v := ?_) rfl (by kernel_rfl) (by kernel_rfl) (by kernel_rfl) (fun _ _ _ h => h) (Or.inl ⟨by kernel_rfl, ?_⟩) (by assumption) ?_
                  rotate_left
                  · intro w hSw; (try dsimp only at hSw); go_simp; try with_reducible rfl
                  simp only [Act.put, List.setIfInBounds_toArray, List.set_cons_zero, List.set_cons_succ]
                  refine wpAnyH_done (by kernel_rfl) ?_ _
                  clear hHeld
                  go_wp2
                  go_ret
                  refine ⟨?_, HLW.out.drew⟩
                  have : r = false := by rw [HR.out]; exact okG_no (k := k) (by rw [HN.out]; exact hlt) (okGAt_no HOE.out)
                  rw [this]; rfl
                exact AllReadyH.nil
              exact AllReadyH.nil
            exact AllReadyH.nil
        · go_wp2
          go_ret
          refine ⟨?_, HL⟩
          have : r = true := by
            obtain rfl : k = n := by omega
            rw [HR.out]; unfold okG; rw [HN.out, HE.out]; simp [h12, h3]
          rw [this]; rfl
    · have hd3 : decide ((40 : Int) < (n : Int)) = true := by simp; omega
      obtain rfl : r = false := by rw [HR.out]; unfold okG; rw [HN.out]; simp [h3]
      go_enter Try.func44, Try.ntmps44
      go_wp2_with (go_at_call 46; refine (HIN.out _).mono ?_; rintro e w1' ⟨rfl, rfl⟩)
      go_ret
      exact ⟨rfl, below1 _ _⟩
  · subst ht
    obtain rfl : r = false := by
      rw [HR.out]; unfold okG
      rw [← HTK.out]; rfl
    go_enter Try.func44, Try.ntmps44
    go_wp2_with (go_at_call 46; refine (HIN.out _).mono ?_; rintro e w1' ⟨rfl, rfl⟩)
    go_ret
    exact ⟨rfl, below1 _ _⟩
end Go.Proofs.Ytdbogikcmfnpdaa

/-
  spec.Turned.
-/
namespace Go.Proofs.Ytdbogikcmfnpdaa
open Go.RowKit

/-- edges turned, as far as place k -/
def gturnTo (l : List Ed) (k : Nat) : List Ed := turnL (l.take k)
theorem gturnTo_step {l : List Ed} {k : Nat} (h : k < l.length) : gturnTo l (k + 1) = putE (gturnTo l k) (turnE (eat l k)) := by
  unfold gturnTo turnL
  rw [take_snocE l h, List.foldl_append]
  rfl
theorem gturnTo_len (l : List Ed) (k : Nat) : (gturnTo l k).length ≤ k := by
  induction k with
  | zero => simp [gturnTo, turnL]
  | succ k ih =>
    by_cases h : k < l.length
    · rw [gturnTo_step h]; have := putE_len (gturnTo l k) (turnE (eat l k)); omega
    · have e : gturnTo l (k + 1) = gturnTo l k := by unfold gturnTo; rw [List.take_of_length_le (by omega), List.take_of_length_le (by omega)]
      rw [e]; omega

end Go.Proofs.Ytdbogikcmfnpdaa

/-
  impl.Turned.
-/
namespace Go.Proofs.Ytdbogikcmfnpdaa
open Go.RowKit

theorem own_in {B n cap : Nat} {w : World} {a : Option Addr} {l : List Ed} (h : w.ownsRow B 99 3 (.slice a n cap) n (ecells l)) (hn : l.length = n) : EdgesOwn B w.heap.size w a l := by
  obtain ⟨a2, cap2, hv, h2⟩ := edges_own h hn
  simp only [Value.slice.injEq] at hv
  rw [hv.1]; exact h2
theorem map_of_at {l L : List Ed} {n : Nat} (hl : l.length = n) (hL : L.length = n) (h : ∀ i, i < n → eat L i = turnE (eat l i)) : L = l.map turnE := by
  refine eat_ext (by simp [hL, hl]) fun i hi => ?_
  have hi' : i < l.length := by omega
  rw [h i (by omega), eat_get (l := l.map turnE) (by simpa using hi'), eat_get hi', List.getElem_map]

end Go.Proofs.Ytdbogikcmfnpdaa

/-
  spec.GraphAdd.
-/
namespace Go.Proofs.Ytdbogikcmfnpdaa
open Go.RowKit

set_option maxHeartbeats 4000000 in
set_option maxRecDepth 100000 in
theorem specGAdd_any (lo hi : Nat) (s : Int) (a : Option Addr) (n cap : Nat) (l : List Ed) (x : Ed) (w : World) (ha : EdgesIn lo hi w a l) (hh : hi ≤ w.heap.size) (hn : l.length = n) (hm : n ≤ 1048576) :
    Calls Try.prog 57 #[gv s a n cap, ev x] w fun e w' => ∃ (a' : Option Addr) (n' cap' : Nat) (ok : Bool), e = .returned (.tuple #[gv s a' n' cap', .bool ok]) ∧ Hid (ok = gaddOk s l x) ∧ Hid ((gaddL s l x).length = n') ∧ Hid (EdgesOwn w.heap.size w'.heap.size w' a' (gaddL s l x)) ∧ Hid (Below w.heap.size w w') := by
  have HN : Hid (l.length = n) := hn
  have HA : Hid (EdgesIn lo hi w a l) := ha
  have HH : Hid (hi ≤ w.heap.size) := hh
  obtain ⟨r, HS⟩ : ∃ r : Bool, Hid (r = okG s l) := ⟨_, rfl⟩
  obtain ⟨r2, HS2⟩ : ∃ r : Bool, Hid (r = okG s (putE l x)) := ⟨_, rfl⟩
  clear ha hh hn
  obtain ⟨B, HB⟩ : ∃ B, Hid (B = w.heap.size) := ⟨_, rfl⟩
  obtain ⟨PL, HPL⟩ : ∃ PL, Hid (PL = putE l x) := ⟨_, rfl⟩
  have HGA : Hid (gaddOk s l x = (r && r2) ∧ (gaddL s l x = if (r && r2) = true then PL else l)) :=
    ⟨by unfold gaddOk; rw [HS.out, HS2.out], by unfold gaddL gaddOk; rw [HS.out, HS2.out, HPL.out]⟩
  have HS2' : Hid (r2 = okG s PL) := by rw [HPL.out]; exact HS2
  have HPLN : Hid (PL.length ≤ n + 1) := by rw [HPL.out, ← HN.out]; exact putE_len l x
  have HPUT : Hid (∀ w0, Below w.heap.size w w0 → Calls Try.prog 77 #[.slice a n cap, ev x] w0 fun r w' => ∃ (a' : Option Addr) (n' cap' : Nat), r = .returned (.slice a' n' cap') ∧ Hid (PL.length = n') ∧ Hid (EdgesOwn w0.heap.size w'.heap.size w' a' PL) ∧ Hid (Below w0.heap.size w0 w')) := fun w0 h =>
    (l04Put_any lo hi a n cap l x w0 (HA.out.below h HH.out) (Nat.le_trans HH.out h.size) HN.out (by omega)).mono fun _ _ ⟨a', n', cap', h1, h2, h3, h4⟩ => ⟨a', n', cap', h1, by rw [HPL.out]; exact h2, by rw [HPL.out]; exact own_in h3.out h2.out, h4⟩
  clear HPL HS2
  obtain ⟨x0, x1, x2⟩ := x
  go_enter Try.func57, Try.ntmps57
  go_wp2_with fail
  obtain ⟨W, HW⟩ : ∃ W, Hid (W = ((w.alloc (.cells #[.int .i64 s, .slice a n cap] 26)).alloc (.cells #[.int .i64 x0, .int .u8 x1, .int .i64 x2] 99)).alloc (.cells #[.int .i64 0, .slice none 0 0] 26)) := ⟨_, rfl⟩
  rw [← HW.out, ← HB.out]
  have HG : Hid (Blk W B 2 (fun i => if i = 0 then .int .i64 s else .slice a n cap)) := by rw [HW.out]; exact ((blk_two w B HB.out _ _ _).alloc _).alloc _
  have HX : Hid (Blk W (B + 1) 3 (fun i => if i = 0 then .int .i64 x0 else if i = 1 then .int .u8 x1 else .int .i64 x2)) := by rw [HW.out]; exact (blk_three _ (B + 1) (by rw [HB.out]; simp) _ _ _ _).alloc _
  have HR : Hid (Blk W (B + 1 + 1) 2 (fun i => if i = 0 then .int .i64 0 else .slice none 0 0)) := by rw [HW.out]; exact blk_two _ (B + 1 + 1) (by rw [HB.out]; simp) _ _ _
  have HL : Hid (Below w.heap.size w W) := by rw [HW.out]; exact below3 w _ _ _
  obtain ⟨c0, c1⟩ := blk_pair_cells HG.out
  obtain ⟨d0, d1, d2⟩ := blk_three_set HX.out
  have HKS : Hid (∀ w', Below W.heap.size W w' → ((w'.cell? ⟨B, 0, none⟩ = some (.int .i64 s) ∧ w'.cell? ⟨B, 1, none⟩ = some (.slice a n cap)) ∧ (w'.cell? ⟨B + 1, 0, none⟩ = some (.int .i64 x0) ∧ w'.cell? ⟨B + 1, 1, none⟩ = some (.int .u8 x1) ∧ w'.cell? ⟨B + 1, 2, none⟩ = some (.int .i64 x2)))) := fun w' h => ⟨⟨cell_below c0 h (lt_of_cell c0), cell_below c1 h (lt_of_cell c1)⟩, ⟨cell_below d0 h (lt_of_cell d0), cell_below d1 h (lt_of_cell d1), cell_below d2 h (lt_of_cell d2)⟩⟩
  have HLR : Hid (B + 1 + 1 < W.heap.size) := HR.out.lt
  clear HW
  refine wp_region_held_drew (S := fun w' => (w'.cell? ⟨B, 0, none⟩ = some (.int .i64 s) ∧ w'.cell? ⟨B, 1, none⟩ = some (.slice a n cap)) ∧ (w'.cell? ⟨B + 1, 0, none⟩ = some (.int .i64 x0) ∧ w'.cell? ⟨B + 1, 1, none⟩ = some (.int .u8 x1) ∧ w'.cell? ⟨B + 1, 2, none⟩ = some (.int .i64 x2))) (by kernel_rfl) ⟨⟨c0, c1⟩, ⟨d0, d1, d2⟩⟩ (fun hHeld => ?_)
  clear c0 c1 d0 d1 d2
  refine wpAnyH_take (i := 0) (oi := { dst := some 7, op := Go.Op.fieldAddr 26 (Go.Operand.tmp 2) 0, type := 0, pos := "l04_graph.go:50", after := #[], guard := none }) (v := ?_) rfl (by kernel_rfl) (by kernel_rfl) (by kernel_rfl) (fun _ _ _ h => h) (Or.inl ⟨by kernel_rfl, ?_⟩) (by assumption) ?_
  rotate_left
  · intro w hSw; (try dsimp only at hSw); go_simp; try with_reducible rfl
  simp only [Act.put, List.setIfInBounds_toArray, List.set_cons_zero, List.set_cons_succ]
  refine wpAnyH_take (i := 1) (oi := { dst := some 8, op := Go.Op.load 3 (Go.Operand.tmp 7), type := 3, pos := "l04_graph.go:50", after := #[{ on := 0, ground := Go.Ground.data }], guard := none }) (v := ?_) rfl (by kernel_rfl) (by kernel_rfl) (by kernel_rfl) (fun _ _ _ h => h) (Or.inl ⟨by kernel_rfl, ?_⟩) (by assumption) ?_
  rotate_left
  · intro w hSw; (try dsimp only at hSw); go_simp; try with_reducible rfl
  simp only [Act.put, List.setIfInBounds_toArray, List.set_cons_zero, List.set_cons_succ]
  refine wpAnyH_take (i := 2) (oi := { dst := some 9, op := Go.Op.fieldAddr 26 (Go.Operand.tmp 2) 1, type := 0, pos := "l04_graph.go:50", after := #[], guard := none }) (v := ?_) rfl (by kernel_rfl) (by kernel_rfl) (by kernel_rfl) (fun _ _ _ h => h) (Or.inl ⟨by kernel_rfl, ?_⟩) (by assumption) ?_
  rotate_left
  · intro w hSw; (try dsimp only at hSw); go_simp; try with_reducible rfl
  simp only [Act.put, List.setIfInBounds_toArray, List.set_cons_zero, List.set_cons_succ]
  refine wpAnyH_take (i := 3) (oi := { dst := some 10, op := Go.Op.load 24 (Go.Operand.tmp 9), type := 24, pos := "l04_graph.go:50", after := #[{ on := 2, ground := Go.Ground.data }], guard := none }) (v := ?_) rfl (by kernel_rfl) (by kernel_rfl) (by kernel_rfl) (fun _ _ _ h => h) (Or.inl ⟨by kernel_rfl, ?_⟩) (by assumption) ?_
  rotate_left
  · intro w hSw; (try dsimp only at hSw); go_simp; try with_reducible rfl
  simp only [Act.put, List.setIfInBounds_toArray, List.set_cons_zero, List.set_cons_succ]
  refine wpAnyH_take (i := 4) (oi := { dst := some 11, op := Go.Op.load 99 (Go.Operand.tmp 3), type := 99, pos := "l04_graph.go:50", after := #[], guard := none }) (v := ?_) rfl (by kernel_rfl) (by kernel_rfl) (by kernel_rfl) (fun _ _ _ h => h) (Or.inl ⟨by kernel_rfl, ?_⟩) (by assumption) ?_
  rotate_left
  · intro w hSw; (try dsimp only at hSw); go_simp; try with_reducible rfl
  simp only [Act.put, List.setIfInBounds_toArray, List.set_cons_zero, List.set_cons_succ]
  refine wpAnyH_ready (rs := [5, 7]) (by kernel_rfl) (by simp) ?_
  refine AllReadyH.cons (o := { dst := some 12, op := Go.Op.call { callee := Go.Callee.value (Go.Operand.func 77), args := #[Go.Operand.tmp 10, Go.Operand.tmp 11], argTypes := #[24, 99] }, type := 24, pos := "l04_graph.go:50", after := #[{ on := 3, ground := Go.Ground.data }, { on := 4, ground := Go.Ground.data }], guard := none }) rfl (fun K hK => ?_) ?_
  · go_simp
    go_wp2_with (go_at_call 77; refine (HPUT.out _ (HL.out.trans (((Below.refl W.heap.size W).drew).mono HL.out.size))).mono ?_; rintro e w1 ⟨a1, m1, cap1, rfl, HM1, HE1, C1⟩)
    have HB1 : Hid (Below W.heap.size W w1) := ((Below.refl W.heap.size W).drew).trans (C1.out.mono ((Below.refl W.heap.size W).drew).size)
    have hk1 := HKS.out _ HB1.out
    have HE1' : Hid (EdgesOwn W.heap.size w1.heap.size w1 a1 PL) := HE1
    clear HE1 C1
    refine hK.out _ _ hk1 (fun hHeld => ?_)
    clear hK K
    try simp only [Act.put, List.setIfInBounds_toArray, List.set_cons_zero, List.set_cons_succ]
    refine wpAnyH_take (i := 6) (oi := { dst := some 13, op := Go.Op.build 26 #[(0, Go.Operand.tmp 8), (1, Go.Operand.tmp 12)], type := 26, pos := "l04_graph.go:50", after := #[{ on := 1, ground := Go.Ground.data }, { on := 5, ground := Go.Ground.data }], guard := none }) (v := ?_) rfl (by kernel_rfl) (by kernel_rfl) (by kernel_rfl) (fun _ _ _ h => h) (Or.inl ⟨by kernel_rfl, ?_⟩) (by assumption) ?_
    rotate_left
    · intro w hSw; (try dsimp only at hSw); go_simp; try with_reducible rfl
    simp only [Act.put, List.setIfInBounds_toArray, List.set_cons_zero, List.set_cons_succ]
    refine wpAnyH_ready (rs := [7]) (by kernel_rfl) (by simp) ?_
    refine AllReadyH.cons (o := { dst := some 6, op := Go.Op.alloc 26, type := 0, pos := "l04_graph.go:50", after := #[], guard := none }) rfl (fun K hK => ?_) ?_
    · go_simp
      have HBA : Hid (Below W.heap.size W (w1.alloc (.cells #[.int .i64 0, .slice none 0 0] 26))) := HB1.out.alloc HB1.out.size _
      have hka := HKS.out _ HBA.out
      refine hK.out _ _ hka (fun hHeld => ?_)
      clear hK K
      try simp only [Act.put, List.setIfInBounds_toArray, List.set_cons_zero, List.set_cons_succ]
      refine wpAnyH_ready (rs := [8]) (by kernel_rfl) (by simp) ?_
      refine AllReadyH.cons (o := { dst := none, op := Go.Op.store 26 (Go.Operand.tmp 6) (Go.Operand.tmp 13), type := 0, pos := "l04_graph.go:50", after := #[{ on := 7, ground := Go.Ground.data }, { on := 6, ground := Go.Ground.data }, { on := 5, ground := Go.Ground.chain }, { on := 0, ground := Go.Ground.phase }, { on := 1, ground := Go.Ground.phase }, { on := 2, ground := Go.Ground.phase }, { on := 3, ground := Go.Ground.phase }, { on := 4, ground := Go.Ground.phase }, { on := 5, ground := Go.Ground.phase }, { on := 6, ground := Go.Ground.phase }, { on := 7, ground := Go.Ground.phase }], guard := none }) rfl (fun K hK => ?_) ?_
      · go_simp
        have HBS : Hid (Below W.heap.size W (w1.alloc (.cells #[.int .i64 s, .slice a1 m1 cap1] 26))) := HB1.out.alloc HB1.out.size _
        have hks := HKS.out _ HBS.out
        have HT0 : Hid (Blk (w1.alloc (.cells #[.int .i64 s, .slice a1 m1 cap1] 26)) w1.heap.size 2 (fun i => if i = 0 then .int .i64 s else .slice a1 m1 cap1)) := blk_two w1 _ rfl _ _ _
        have HE0 : Hid (EdgesOwn W.heap.size w1.heap.size (w1.alloc (.cells #[.int .i64 s, .slice a1 m1 cap1] 26)) a1 PL) := HE1'.out.below (below1 w1 _) (Nat.le_refl _)
        have HSZ : Hid (w1.heap.size ≤ (w1.alloc (.cells #[.int .i64 s, .slice a1 m1 cap1] 26)).heap.size) := by show _ ≤ _; simp
        have HWP : Hid (W.heap.size ≤ w1.heap.size) := HB1.out.size
        refine hK.out _ _ hks (fun hHeld => ?_)
        clear hK K
        try simp only [Act.put, List.setIfInBounds_toArray, List.set_cons_zero, List.set_cons_succ]
        refine wpAnyH_done (by kernel_rfl) ?_ _
        clear hHeld
        obtain ⟨V, HV⟩ : ∃ V, Hid (V = (w1.alloc (.cells #[.int .i64 s, .slice a1 m1 cap1] 26))) := ⟨_, rfl⟩
        rw [← HV.out] at HBS HT0 HE0 HSZ
        obtain ⟨Lo, HLo⟩ : ∃ L, Hid (L = W.heap.size) := ⟨_, rfl⟩
        obtain ⟨Hi, HHi⟩ : ∃ L, Hid (L = w1.heap.size) := ⟨_, rfl⟩
        have HLo1 : Hid (W.heap.size ≤ Lo) := by rw [HLo.out]; show _ ≤ _; omega
        rw [← HLo.out, ← HHi.out] at HE0
        rw [← HHi.out] at HSZ
        obtain ⟨P, HP⟩ : ∃ P, Hid (P = w1.heap.size) := ⟨_, rfl⟩
        rw [← HP.out] at HT0
        have HWP' : Hid (W.heap.size ≤ P) := by rw [HP.out]; exact HWP.out
        go_upto_region 2 with fail
        rw [← HV.out, ← HP.out]
        clear HWP HV HP HLo HHi HB1 HE1' hk1
        have HG_V : Hid (Blk V B 2 (fun i => if i = 0 then .int .i64 s else .slice a n cap)) := HG.out.of_block (HBS.out.block _ HG.out.lt)
        have HR_V : Hid (Blk V (B + 1 + 1) 2 (fun i => if i = 0 then .int .i64 0 else .slice none 0 0)) := HR.out.of_block (HBS.out.block _ HR.out.lt)
        have HL_V : Hid (Below w.heap.size w V) := HL.out.trans (HBS.out.mono HL.out.size)
        obtain ⟨c0, c1⟩ := blk_pair_cells HG_V.out
        go_wp2_with fail
        refine (specGOk_any lo hi s a n cap l r V (HA.out.below HL_V.out HH.out) (Nat.le_trans HH.out HL_V.out.size) HN.out (by omega) HS.out).mono ?_
        rintro e w2 ⟨rfl, HB2⟩
        have HG_w2 : Hid (Blk w2 B 2 (fun i => if i = 0 then .int .i64 s else .slice a n cap)) := HG_V.out.of_block (HB2.out.block _ HG_V.out.lt)
        have HR_w2 : Hid (Blk w2 (B + 1 + 1) 2 (fun i => if i = 0 then .int .i64 0 else .slice none 0 0)) := HR_V.out.of_block (HB2.out.block _ HR_V.out.lt)
        have HL_w2 : Hid (Below w.heap.size w w2) := HL_V.out.trans (HB2.out.mono HL_V.out.size)
        have HT_w2 : Hid (Blk w2 P 2 (fun i => if i = 0 then .int .i64 s else .slice a1 m1 cap1)) := HT0.out.of_block (HB2.out.block _ HT0.out.lt)
        have HE_w2 : Hid (EdgesOwn Lo Hi w2 a1 PL) := HE0.out.below HB2.out HSZ.out
        have HSZ2 : Hid (Hi ≤ w2.heap.size) := Nat.le_trans HSZ.out HB2.out.size
        clear c0 c1 HB2 HG_V HR_V HL_V HT0 HE0 HSZ
        rcases Bool.eq_false_or_eq_true r with hs | hs
        · subst hs
          obtain ⟨z0, z1⟩ := blk_pair_cells HT_w2.out
          have hm1 : m1 ≤ 1048576 := by have h40 := (okG_size HS.out.symm).2.2; rw [HN.out] at h40; have := HPLN.out; have := HM1.out; omega
          go_wp2_with fail
          refine (specGOk_any Lo Hi s a1 m1 cap1 PL r2 w2 HE_w2.out.toIn HSZ2.out HM1.out hm1 HS2'.out).mono ?_
          rintro e w3 ⟨rfl, HB3⟩
          have HG_w3 : Hid (Blk w3 B 2 (fun i => if i = 0 then .int .i64 s else .slice a n cap)) := HG_w2.out.of_block (HB3.out.block _ HG_w2.out.lt)
          have HR_w3 : Hid (Blk w3 (B + 1 + 1) 2 (fun i => if i = 0 then .int .i64 0 else .slice none 0 0)) := HR_w2.out.of_block (HB3.out.block _ HR_w2.out.lt)
          have HL_w3 : Hid (Below w.heap.size w w3) := HL_w2.out.trans (HB3.out.mono HL_w2.out.size)
          have HT_w3 : Hid (Blk w3 P 2 (fun i => if i = 0 then .int .i64 s else .slice a1 m1 cap1)) := HT_w2.out.of_block (HB3.out.block _ HT_w2.out.lt)
          have HE_w3 : Hid (EdgesOwn Lo Hi w3 a1 PL) := HE_w2.out.below HB3.out HSZ2.out
          have HSZ3 : Hid (Hi ≤ w3.heap.size) := Nat.le_trans HSZ2.out HB3.out.size
          clear z0 z1 HB3 HG_w2 HR_w2 HL_w2 HT_w2 HE_w2 HSZ2
          rcases Bool.eq_false_or_eq_true r2 with h2 | h2
          · subst h2
            have HGO : Hid (true = gaddOk s l (x0, x1, x2)) := by show _ = _; rw [HGA.out.1]; rfl
            have HGL : Hid (gaddL s l (x0, x1, x2) = PL) := by show _ = _; rw [HGA.out.2]; rfl
            obtain ⟨z0, z1⟩ := blk_pair_cells HT_w3.out
            obtain ⟨r0, r1⟩ := blk_pair_cells HR_w3.out
            have rf0 := HR_w3.out.frozen 0
            have rf1 := HR_w3.out.frozen 1
            have hne : B + 1 + 1 ≠ P := by have := HLR.out; have := HWP'.out; omega
            have HLT : Hid (B + 1 + 1 < Lo) := by have := HLR.out; have := HLo1.out; show _ < _; omega
            go_wp2
            refine bodyPost_ret (v := .tuple #[.agg #[.int .i64 s, .slice a1 m1 cap1], .bool true]) (by simp [results, Try.results57, go_sem, r0, r1]) rfl ?_
            refine ⟨a1, m1, cap1, true, rfl, HGO.out, by show _ = _; rw [HGL.out]; exact HM1.out, ?_, ?_⟩
            · rw [HGL.out]
              have h := ((HE_w3.out.setCell (b := B + 1 + 1) (j := 0) HLT.out (.int .i64 s)).setCell (b := B + 1 + 1) (j := 1) HLT.out (.slice a1 m1 cap1))
              exact h.wide (by have := HB.out; have := HLT.out; omega) (by simpa using HSZ3.out)
            · exact (HL_w3.out.setCell (by rw [HB.out]; simp; omega) _).setCell (by rw [HB.out]; simp; omega) _
          · subst h2
            have HGO : Hid (false = gaddOk s l (x0, x1, x2)) := by show _ = _; rw [HGA.out.1]; rfl
            have HGL : Hid (gaddL s l (x0, x1, x2) = l) := by show _ = _; rw [HGA.out.2]; rfl
            obtain ⟨bc0, bc1⟩ := blk_pair_cells HG_w3.out
            go_wp2_with fail
            refine (l04Copy_any lo hi s a n cap l w3 (HA.out.below HL_w3.out HH.out) (Nat.le_trans HH.out HL_w3.out.size) HN.out (by omega)).mono ?_
            rintro e w9 ⟨a9, cap9, rfl, HO9, HB9⟩
            have HR9 : Hid (Blk w9 (B + 1 + 1) 2 (fun i => if i = 0 then .int .i64 0 else .slice none 0 0)) := HR_w3.out.of_block (HB9.out.block _ HR_w3.out.lt)
            have HE9 : Hid (EdgesOwn w3.heap.size w9.heap.size w9 a9 l) := own_in HO9.out HN.out
            have HL9 : Hid (Below w.heap.size w w9) := HL_w3.out.trans (HB9.out.mono HL_w3.out.size)
            obtain ⟨r0, r1⟩ := blk_pair_cells HR9.out
            have rf0 := HR9.out.frozen 0
            have rf1 := HR9.out.frozen 1
            have HLT : Hid (B + 1 + 1 < w3.heap.size) := HR_w3.out.lt
            clear bc0 bc1 HO9
            go_wp2
            refine bodyPost_ret (v := .tuple #[.agg #[.int .i64 s, .slice a9 n cap9], .bool false]) (by simp [results, Try.results57, go_sem, r0, r1]) rfl ?_
            refine ⟨a9, n, cap9, false, rfl, HGO.out, by show _ = _; rw [HGL.out]; exact HN.out, ?_, ?_⟩
            · rw [HGL.out]
              have h := ((HE9.out.setCell (b := B + 1 + 1) (j := 0) HLT.out (.int .i64 s)).setCell (b := B + 1 + 1) (j := 1) HLT.out (.slice a9 n cap9))
              exact h.wide HL_w3.out.size (by simp)
            · exact (HL9.out.setCell (by rw [HB.out]; simp; omega) _).setCell (by rw [HB.out]; simp; omega) _
        · subst hs
          have HGO : Hid (false = gaddOk s l (x0, x1, x2)) := by show _ = _; rw [HGA.out.1]; rfl
          have HGL : Hid (gaddL s l (x0, x1, x2) = l) := by show _ = _; rw [HGA.out.2]; rfl
          obtain ⟨bc0, bc1⟩ := blk_pair_cells HG_w2.out
          go_wp2_with fail
          refine (l04Copy_any lo hi s a n cap l w2 (HA.out.below HL_w2.out HH.out) (Nat.le_trans HH.out HL_w2.out.size) HN.out (by omega)).mono ?_
          rintro e w9 ⟨a9, cap9, rfl, HO9, HB9⟩
          have HR9 : Hid (Blk w9 (B + 1 + 1) 2 (fun i => if i = 0 then .int .i64 0 else .slice none 0 0)) := HR_w2.out.of_block (HB9.out.block _ HR_w2.out.lt)
          have HE9 : Hid (EdgesOwn w2.heap.size w9.heap.size w9 a9 l) := own_in HO9.out HN.out
          have HL9 : Hid (Below w.heap.size w w9) := HL_w2.out.trans (HB9.out.mono HL_w2.out.size)
          obtain ⟨r0, r1⟩ := blk_pair_cells HR9.out
          have rf0 := HR9.out.frozen 0
          have rf1 := HR9.out.frozen 1
          have HLT : Hid (B + 1 + 1 < w2.heap.size) := HR_w2.out.lt
          clear bc0 bc1 HO9
          go_wp2
          refine bodyPost_ret (v := .tuple #[.agg #[.int .i64 s, .slice a9 n cap9], .bool false]) (by simp [results, Try.results57, go_sem, r0, r1]) rfl ?_
          refine ⟨a9, n, cap9, false, rfl, HGO.out, by show _ = _; rw [HGL.out]; exact HN.out, ?_, ?_⟩
          · rw [HGL.out]
            have h := ((HE9.out.setCell (b := B + 1 + 1) (j := 0) HLT.out (.int .i64 s)).setCell (b := B + 1 + 1) (j := 1) HLT.out (.slice a9 n cap9))
            exact h.wide HL_w2.out.size (by simp)
          · exact (HL9.out.setCell (by rw [HB.out]; simp; omega) _).setCell (by rw [HB.out]; simp; omega) _
      exact AllReadyH.nil
    exact AllReadyH.nil
  refine AllReadyH.cons (o := { dst := some 6, op := Go.Op.alloc 26, type := 0, pos := "l04_graph.go:50", after := #[], guard := none }) rfl (fun K hK => ?_) ?_
  · go_simp
    have HBA : Hid (Below W.heap.size W ((W.alloc (.cells #[.int .i64 0, .slice none 0 0] 26)).drew)) := ((Below.refl W.heap.size W).drew).alloc (Nat.le_refl _) _
    have hka := HKS.out _ HBA.out
    have HPA : Hid (Blk ((W.alloc (.cells #[.int .i64 0, .slice none 0 0] 26)).drew) W.heap.size 2 (fun i => if i = 0 then .int .i64 0 else .slice none 0 0)) := blk_two W _ rfl _ _ _
    refine hK.out _ _ hka (fun hHeld => ?_)
    clear hK K
    try simp only [Act.put, List.setIfInBounds_toArray, List.set_cons_zero, List.set_cons_succ]
    refine wpAnyH_ready (rs := [5]) (by kernel_rfl) (by simp) ?_
    refine AllReadyH.cons (o := { dst := some 12, op := Go.Op.call { callee := Go.Callee.value (Go.Operand.func 77), args := #[Go.Operand.tmp 10, Go.Operand.tmp 11], argTypes := #[24, 99] }, type := 24, pos := "l04_graph.go:50", after := #[{ on := 3, ground := Go.Ground.data }, { on := 4, ground := Go.Ground.data }], guard := none }) rfl (fun K hK => ?_) ?_
    · go_simp
      go_wp2_with (go_at_call 77; refine (HPUT.out _ (HL.out.trans ((HBA.out).mono HL.out.size))).mono ?_; rintro e w1 ⟨a1, m1, cap1, rfl, HM1, HE1, C1⟩)
      have HB1 : Hid (Below W.heap.size W w1) := (HBA.out).trans (C1.out.mono (HBA.out).size)
      have hk1 := HKS.out _ HB1.out
      have HP1 : Hid (Blk w1 W.heap.size 2 (fun i => if i = 0 then .int .i64 0 else .slice none 0 0)) := HPA.out.of_block (C1.out.block _ HPA.out.lt)
      have HE1' : Hid (EdgesOwn (W.heap.size + 1) w1.heap.size w1 a1 PL) := by have h := HE1.out; rw [show ((W.alloc (.cells #[.int .i64 0, .slice none 0 0] 26)).drew).heap.size = W.heap.size + 1 from World.size_alloc ..] at h; exact h
      clear HE1 C1
      refine hK.out _ _ hk1 (fun hHeld => ?_)
      clear hK K
      try simp only [Act.put, List.setIfInBounds_toArray, List.set_cons_zero, List.set_cons_succ]
      refine wpAnyH_take (i := 6) (oi := { dst := some 13, op := Go.Op.build 26 #[(0, Go.Operand.tmp 8), (1, Go.Operand.tmp 12)], type := 26, pos := "l04_graph.go:50", after := #[{ on := 1, ground := Go.Ground.data }, { on := 5, ground := Go.Ground.data }], guard := none }) (v := ?_) rfl (by kernel_rfl) (by kernel_rfl) (by kernel_rfl) (fun _ _ _ h => h) (Or.inl ⟨by kernel_rfl, ?_⟩) (by assumption) ?_
      rotate_left
      · intro w hSw; (try dsimp only at hSw); go_simp; try with_reducible rfl
      simp only [Act.put, List.setIfInBounds_toArray, List.set_cons_zero, List.set_cons_succ]
      refine wpAnyH_ready (rs := [8]) (by kernel_rfl) (by simp) ?_
      refine AllReadyH.cons (o := { dst := none, op := Go.Op.store 26 (Go.Operand.tmp 6) (Go.Operand.tmp 13), type := 0, pos := "l04_graph.go:50", after := #[{ on := 7, ground := Go.Ground.data }, { on := 6, ground := Go.Ground.data }, { on := 5, ground := Go.Ground.chain }, { on := 0, ground := Go.Ground.phase }, { on := 1, ground := Go.Ground.phase }, { on := 2, ground := Go.Ground.phase }, { on := 3, ground := Go.Ground.phase }, { on := 4, ground := Go.Ground.phase }, { on := 5, ground := Go.Ground.phase }, { on := 6, ground := Go.Ground.phase }, { on := 7, ground := Go.Ground.phase }], guard := none }) rfl (fun K hK => ?_) ?_
      · obtain ⟨z0, z1⟩ := blk_pair_cells HP1.out
        have zf0 := HP1.out.frozen 0
        have zf1 := HP1.out.frozen 1
        go_simp
        have HBS : Hid (Below W.heap.size W ((w1.setCell ⟨W.heap.size, 0, none⟩ (.int .i64 s)).setCell ⟨W.heap.size, 1, none⟩ (.slice a1 m1 cap1))) := (HB1.out.setCell (Nat.le_refl _) _).setCell (Nat.le_refl _) _
        have hks := HKS.out _ HBS.out
        have HT0 : Hid (Blk ((w1.setCell ⟨W.heap.size, 0, none⟩ (.int .i64 s)).setCell ⟨W.heap.size, 1, none⟩ (.slice a1 m1 cap1)) W.heap.size 2 (fun i => if i = 0 then .int .i64 s else .slice a1 m1 cap1)) := ((HP1.out.set 0 (by omega) _).set 1 (by omega) _).congr (fun i hi => by rcases (show i = 0 ∨ i = 1 by omega) with rfl | rfl <;> simp)
        have HE0 : Hid (EdgesOwn (W.heap.size + 1) w1.heap.size ((w1.setCell ⟨W.heap.size, 0, none⟩ (.int .i64 s)).setCell ⟨W.heap.size, 1, none⟩ (.slice a1 m1 cap1)) a1 PL) := (HE1'.out.setCell (Nat.lt_succ_self _) _).setCell (Nat.lt_succ_self _) _
        have HSZ : Hid (w1.heap.size ≤ ((w1.setCell ⟨W.heap.size, 0, none⟩ (.int .i64 s)).setCell ⟨W.heap.size, 1, none⟩ (.slice a1 m1 cap1)).heap.size) := by show _ ≤ _; simp
        have HWP : Hid (W.heap.size ≤ W.heap.size) := Nat.le_refl _
        refine hK.out _ _ hks (fun hHeld => ?_)
        clear hK K
        try simp only [Act.put, List.setIfInBounds_toArray, List.set_cons_zero, List.set_cons_succ]
        refine wpAnyH_done (by kernel_rfl) ?_ _
        clear hHeld
        obtain ⟨V, HV⟩ : ∃ V, Hid (V = ((w1.setCell ⟨W.heap.size, 0, none⟩ (.int .i64 s)).setCell ⟨W.heap.size, 1, none⟩ (.slice a1 m1 cap1))) := ⟨_, rfl⟩
        rw [← HV.out] at HBS HT0 HE0 HSZ
        obtain ⟨Lo, HLo⟩ : ∃ L, Hid (L = (W.heap.size + 1)) := ⟨_, rfl⟩
        obtain ⟨Hi, HHi⟩ : ∃ L, Hid (L = w1.heap.size) := ⟨_, rfl⟩
        have HLo1 : Hid (W.heap.size ≤ Lo) := by rw [HLo.out]; show _ ≤ _; omega
        rw [← HLo.out, ← HHi.out] at HE0
        rw [← HHi.out] at HSZ
        obtain ⟨P, HP⟩ : ∃ P, Hid (P = W.heap.size) := ⟨_, rfl⟩
        rw [← HP.out] at HT0
        have HWP' : Hid (W.heap.size ≤ P) := by rw [HP.out]; exact HWP.out
        go_upto_region 2 with fail
        rw [← HV.out, ← HP.out]
        clear HWP HV HP HLo HHi HB1 HE1' hk1
        have HG_V : Hid (Blk V B 2 (fun i => if i = 0 then .int .i64 s else .slice a n cap)) := HG.out.of_block (HBS.out.block _ HG.out.lt)
        have HR_V : Hid (Blk V (B + 1 + 1) 2 (fun i => if i = 0 then .int .i64 0 else .slice none 0 0)) := HR.out.of_block (HBS.out.block _ HR.out.lt)
        have HL_V : Hid (Below w.heap.size w V) := HL.out.trans (HBS.out.mono HL.out.size)
        obtain ⟨c0, c1⟩ := blk_pair_cells HG_V.out
        go_wp2_with fail
        refine (specGOk_any lo hi s a n cap l r V (HA.out.below HL_V.out HH.out) (Nat.le_trans HH.out HL_V.out.size) HN.out (by omega) HS.out).mono ?_
        rintro e w2 ⟨rfl, HB2⟩
        have HG_w2 : Hid (Blk w2 B 2 (fun i => if i = 0 then .int .i64 s else .slice a n cap)) := HG_V.out.of_block (HB2.out.block _ HG_V.out.lt)
        have HR_w2 : Hid (Blk w2 (B + 1 + 1) 2 (fun i => if i = 0 then .int .i64 0 else .slice none 0 0)) := HR_V.out.of_block (HB2.out.block _ HR_V.out.lt)
        have HL_w2 : Hid (Below w.heap.size w w2) := HL_V.out.trans (HB2.out.mono HL_V.out.size)
        have HT_w2 : Hid (Blk w2 P 2 (fun i => if i = 0 then .int .i64 s else .slice a1 m1 cap1)) := HT0.out.of_block (HB2.out.block _ HT0.out.lt)
        have HE_w2 : Hid (EdgesOwn Lo Hi w2 a1 PL) := HE0.out.below HB2.out HSZ.out
        have HSZ2 : Hid (Hi ≤ w2.heap.size) := Nat.le_trans HSZ.out HB2.out.size
        clear c0 c1 HB2 HG_V HR_V HL_V HT0 HE0 HSZ
        rcases Bool.eq_false_or_eq_true r with hs | hs
        · subst hs
          obtain ⟨z0, z1⟩ := blk_pair_cells HT_w2.out
          have hm1 : m1 ≤ 1048576 := by have h40 := (okG_size HS.out.symm).2.2; rw [HN.out] at h40; have := HPLN.out; have := HM1.out; omega
          go_wp2_with fail
          refine (specGOk_any Lo Hi s a1 m1 cap1 PL r2 w2 HE_w2.out.toIn HSZ2.out HM1.out hm1 HS2'.out).mono ?_
          rintro e w3 ⟨rfl, HB3⟩
          have HG_w3 : Hid (Blk w3 B 2 (fun i => if i = 0 then .int .i64 s else .slice a n cap)) := HG_w2.out.of_block (HB3.out.block _ HG_w2.out.lt)
          have HR_w3 : Hid (Blk w3 (B + 1 + 1) 2 (fun i => if i = 0 then .int .i64 0 else .slice none 0 0)) := HR_w2.out.of_block (HB3.out.block _ HR_w2.out.lt)
          have HL_w3 : Hid (Below w.heap.size w w3) := HL_w2.out.trans (HB3.out.mono HL_w2.out.size)
          have HT_w3 : Hid (Blk w3 P 2 (fun i => if i = 0 then .int .i64 s else .slice a1 m1 cap1)) := HT_w2.out.of_block (HB3.out.block _ HT_w2.out.lt)
          have HE_w3 : Hid (EdgesOwn Lo Hi w3 a1 PL) := HE_w2.out.below HB3.out HSZ2.out
          have HSZ3 : Hid (Hi ≤ w3.heap.size) := Nat.le_trans HSZ2.out HB3.out.size
          clear z0 z1 HB3 HG_w2 HR_w2 HL_w2 HT_w2 HE_w2 HSZ2
          rcases Bool.eq_false_or_eq_true r2 with h2 | h2
          · subst h2
            have HGO : Hid (true = gaddOk s l (x0, x1, x2)) := by show _ = _; rw [HGA.out.1]; rfl
            have HGL : Hid (gaddL s l (x0, x1, x2) = PL) := by show _ = _; rw [HGA.out.2]; rfl
            obtain ⟨z0, z1⟩ := blk_pair_cells HT_w3.out
            obtain ⟨r0, r1⟩ := blk_pair_cells HR_w3.out
            have rf0 := HR_w3.out.frozen 0
            have rf1 := HR_w3.out.frozen 1
            have hne : B + 1 + 1 ≠ P := by have := HLR.out; have := HWP'.out; omega
            have HLT : Hid (B + 1 + 1 < Lo) := by have := HLR.out; have := HLo1.out; show _ < _; omega
            go_wp2
            refine bodyPost_ret (v := .tuple #[.agg #[.int .i64 s, .slice a1 m1 cap1], .bool true]) (by simp [results, Try.results57, go_sem, r0, r1]) rfl ?_
            refine ⟨a1, m1, cap1, true, rfl, HGO.out, by show _ = _; rw [HGL.out]; exact HM1.out, ?_, ?_⟩
            · rw [HGL.out]
              have h := ((HE_w3.out.setCell (b := B + 1 + 1) (j := 0) HLT.out (.int .i64 s)).setCell (b := B + 1 + 1) (j := 1) HLT.out (.slice a1 m1 cap1))
              exact h.wide (by have := HB.out; have := HLT.out; omega) (by simpa using HSZ3.out)
            · exact (HL_w3.out.setCell (by rw [HB.out]; simp; omega) _).setCell (by rw [HB.out]; simp; omega) _
          · subst h2
            have HGO : Hid (false = gaddOk s l (x0, x1, x2)) := by show _ = _; rw [HGA.out.1]; rfl
            have HGL : Hid (gaddL s l (x0, x1, x2) = l) := by show _ = _; rw [HGA.out.2]; rfl
            obtain ⟨bc0, bc1⟩ := blk_pair_cells HG_w3.out
            go_wp2_with fail
            refine (l04Copy_any lo hi s a n cap l w3 (HA.out.below HL_w3.out HH.out) (Nat.le_trans HH.out HL_w3.out.size) HN.out (by omega)).mono ?_
            rintro e w9 ⟨a9, cap9, rfl, HO9, HB9⟩
            have HR9 : Hid (Blk w9 (B + 1 + 1) 2 (fun i => if i = 0 then .int .i64 0 else .slice none 0 0)) := HR_w3.out.of_block (HB9.out.block _ HR_w3.out.lt)
            have HE9 : Hid (EdgesOwn w3.heap.size w9.heap.size w9 a9 l) := own_in HO9.out HN.out
            have HL9 : Hid (Below w.heap.size w w9) := HL_w3.out.trans (HB9.out.mono HL_w3.out.size)
            obtain ⟨r0, r1⟩ := blk_pair_cells HR9.out
            have rf0 := HR9.out.frozen 0
            have rf1 := HR9.out.frozen 1
            have HLT : Hid (B + 1 + 1 < w3.heap.size) := HR_w3.out.lt
            clear bc0 bc1 HO9
            go_wp2
            refine bodyPost_ret (v := .tuple #[.agg #[.int .i64 s, .slice a9 n cap9], .bool false]) (by simp [results, Try.results57, go_sem, r0, r1]) rfl ?_
            refine ⟨a9, n, cap9, false, rfl, HGO.out, by show _ = _; rw [HGL.out]; exact HN.out, ?_, ?_⟩
            · rw [HGL.out]
              have h := ((HE9.out.setCell (b := B + 1 + 1) (j := 0) HLT.out (.int .i64 s)).setCell (b := B + 1 + 1) (j := 1) HLT.out (.slice a9 n cap9))
              exact h.wide HL_w3.out.size (by simp)
            · exact (HL9.out.setCell (by rw [HB.out]; simp; omega) _).setCell (by rw [HB.out]; simp; omega) _
        · subst hs
          have HGO : Hid (false = gaddOk s l (x0, x1, x2)) := by show _ = _; rw [HGA.out.1]; rfl
          have HGL : Hid (gaddL s l (x0, x1, x2) = l) := by show _ = _; rw [HGA.out.2]; rfl
          obtain ⟨bc0, bc1⟩ := blk_pair_cells HG_w2.out
          go_wp2_with fail
          refine (l04Copy_any lo hi s a n cap l w2 (HA.out.below HL_w2.out HH.out) (Nat.le_trans HH.out HL_w2.out.size) HN.out (by omega)).mono ?_
          rintro e w9 ⟨a9, cap9, rfl, HO9, HB9⟩
          have HR9 : Hid (Blk w9 (B + 1 + 1) 2 (fun i => if i = 0 then .int .i64 0 else .slice none 0 0)) := HR_w2.out.of_block (HB9.out.block _ HR_w2.out.lt)
          have HE9 : Hid (EdgesOwn w2.heap.size w9.heap.size w9 a9 l) := own_in HO9.out HN.out
          have HL9 : Hid (Below w.heap.size w w9) := HL_w2.out.trans (HB9.out.mono HL_w2.out.size)
          obtain ⟨r0, r1⟩ := blk_pair_cells HR9.out
          have rf0 := HR9.out.frozen 0
          have rf1 := HR9.out.frozen 1
          have HLT : Hid (B + 1 + 1 < w2.heap.size) := HR_w2.out.lt
          clear bc0 bc1 HO9
          go_wp2
          refine bodyPost_ret (v := .tuple #[.agg #[.int .i64 s, .slice a9 n cap9], .bool false]) (by simp [results, Try.results57, go_sem, r0, r1]) rfl ?_
          refine ⟨a9, n, cap9, false, rfl, HGO.out, by show _ = _; rw [HGL.out]; exact HN.out, ?_, ?_⟩
          · rw [HGL.out]
            have h := ((HE9.out.setCell (b := B + 1 + 1) (j := 0) HLT.out (.int .i64 s)).setCell (b := B + 1 + 1) (j := 1) HLT.out (.slice a9 n cap9))
            exact h.wide HL_w2.out.size (by simp)
          · exact (HL9.out.setCell (by rw [HB.out]; simp; omega) _).setCell (by rw [HB.out]; simp; omega) _
      exact AllReadyH.nil
    exact AllReadyH.nil
  exact AllReadyH.nil
end Go.Proofs.Ytdbogikcmfnpdaa

namespace Go.Proofs.Ytdbogikcmfnpdaa
open Go.RowKit

theorem okE_in {s : Int} {x : Ed} (h : edIn s x) : okE s x = true := by
  obtain ⟨h1, h2, h3⟩ := h
  unfold okE inV
  simp only [Bool.and_eq_true, decide_eq_true_eq]
  omega
/-- what a drawn graph is behind j rounds -/
def GDr (s : Int) (L : List Ed) (j : Nat) : Prop := okG s L = true ∧ L.length ≤ j ∧ (1 ≤ j → L ≠ [])
theorem gadd_drawn {s : Int} {L : List Ed} {x : Ed} {j : Nat} (h : GDr s L j) (hx : edIn s x) (hj : j ≤ 9) (h1 : 1 ≤ s) (h2 : s ≤ 12) : GDr s (gaddL s L x) (j + 1) := by
  have hl := putE_len L x
  have hlj := h.2.1
  have ho := okG_iff.1 h.1
  have hp : okG s (putE L x) = true := okG_iff.2 ⟨⟨h1, h2⟩, by omega, fun y hy => by
    rcases mem_putE.1 hy with rfl | hy
    · exact okE_in hx
    · exact ho.2.2.1 y hy, srt_putE ho.2.2.2 x⟩
  have e : gaddL s L x = putE L x := by unfold gaddL gaddOk; rw [h.1, hp]; rfl
  rw [e]
  refine ⟨hp, by omega, fun _ h0 => ?_⟩
  have : x ∈ putE L x := mem_putE.2 (.inl rfl)
  rw [h0] at this
  cases this
/-- what a round leaves -/
def GRel (w wr : World) (p n cap : Nat) (ao : Option Addr) (B B3 : Nat) (s : Int) (j : Nat) (a : Option Addr) (nL cL : Nat) (L : List Ed) : Prop :=
  Hid (EdgesIn (B3 + 1) wr.heap.size wr a L) ∧ Hid (GDr s L j) ∧ Hid (Blk wr B3 2 (fun i => if i = 0 then .int .i64 s else .slice a nL cL)) ∧ Hid (Blk wr B 2 (fun i => if i = 0 then .int .i64 0 else .slice none 0 0)) ∧ Hid (CurL p ao n cap wr) ∧ Hid (KeptBut p w wr)
theorem graph_rel {w w4 : World} {p n cap : Nat} {ao : Option Addr} {B B3 : Nat} {s : Int} {j : Nat} {a a0 : Option Addr} {nL cL n0 c0 : Nat} {L : List Ed} {j' : Nat} (hjj : j' = j) (hl : p < w.heap.size ∧ w.heap.size = B ∧ B < B3) (he : EdgesOwn (B3 + 1) w4.heap.size w4 a L) (hg : Blk w4 B3 2 (fun i => if i = 0 then .int .i64 s else .slice a0 n0 c0)) (hr : Blk w4 B 2 (fun i => if i = 0 then .int .i64 0 else .slice none 0 0)) (hc : CurL p ao n cap w4) (hk : KeptBut p w w4) (hd : GDr s L j) :
    GRel w ((w4.setCell ⟨B3, 0, none⟩ (.int .i64 s)).setCell ⟨B3, 1, none⟩ (.slice a nL cL)) p n cap ao B B3 s j' a nL cL L := by
  subst hjj
  refine ⟨((he.setCell (Nat.lt_succ_self _) _).setCell (Nat.lt_succ_self _) _).toIn.wide (Nat.le_refl _) (by simp), hd, ?_, ?_, ?_, ?_⟩
  · exact ((hg.set 0 (by omega) _).set 1 (by omega) _).congr (fun i hi => by rcases (show i = 0 ∨ i = 1 by omega) with rfl | rfl <;> simp)
  · refine hr.of_block ?_
    rw [Below.heap_setCell _ ⟨B3, 1, none⟩ _ B (by show B ≠ B3; omega), Below.heap_setCell _ ⟨B3, 0, none⟩ _ B (by show B ≠ B3; omega)]
  · exact hc.below (((Below.refl B3 w4).setCell (Nat.le_refl _) _).setCell (Nat.le_refl _) _) (by omega)
  · exact (hk.setOut (by omega) _).setOut (by omega) _

set_option maxHeartbeats 8000000 in
set_option maxRecDepth 100000 in
theorem l04Graph_any (w : World) (p n cap : Nat) (ao : Option Addr) (hc : CurL p ao n cap w) :
    Calls Try.prog 34 #[.pointer (some ⟨p, 0, none⟩)] w fun e w' => ∃ (s : Int) (a : Option Addr) (nL cL : Nat) (L : List Ed), e = .returned (gv s a nL cL) ∧ Hid (L.length = nL) ∧ Hid (EdgesIn w.heap.size w'.heap.size w' a L) ∧ Hid (GDr s L 10 ∧ 2 ≤ s ∧ s ≤ 5) ∧ Hid (CurL p ao n cap w') ∧ Hid (KeptBut p w w') := by
  have HP : Hid (p < w.heap.size) := hc.lt
  obtain ⟨B, HB⟩ : ∃ B, Hid (w.heap.size = B) := ⟨_, rfl⟩
  have HC : Hid (CurL p ao n cap w) := hc
  clear hc
  go_enter Try.func34, Try.ntmps34
  go_wp2_with fail
  rw [HB.out]
  generalize hW : World.alloc _ _ = W
  have HC1 : Hid (CurL p ao n cap W) := by show CurL _ _ _ _ _; rw [← hW]; exact HC.out.below (below1 w _) HP.out
  have HK1 : Hid (KeptBut p w W) := by show KeptBut _ _ _; rw [← hW]; exact (KeptBut.refl p w).below (below1 w _)
  have HR1 : Hid (Blk W B 2 (fun i => if i = 0 then .int .i64 0 else .slice none 0 0)) := by show Blk _ _ _ _; rw [← hW]; exact blk_two w B HB.out.symm _ _ _
  clear hW
  refine (HC1.out.draw 4 (by omega) (by omega)).mono ?_
  rintro e w1 ⟨x0, rfl, x00, x01, HC2, HK2⟩
  obtain ⟨B3, HB3⟩ : ∃ B3, Hid (w1.heap.size = B3) := ⟨_, rfl⟩
  have HR2 : Hid (Blk w1 B 2 (fun i => if i = 0 then .int .i64 0 else .slice none 0 0)) := HR1.out.keptBut HK2.out (by have := HP.out; have := HB.out; omega)
  have HK3 : Hid (KeptBut p w w1) := HK1.out.trans HK2.out
  have HPL : Hid (p < w.heap.size ∧ w.heap.size = B ∧ B < B3) := ⟨HP.out, HB.out, by have := HR2.out.lt; have := HB3.out; omega⟩
  have HPB : Hid (B ≠ p ∧ B3 ≠ p) := by have := HPL.out; exact ⟨by omega, by omega⟩
  have HPP : Hid (p < B3 + 1) := by have := HPL.out; show p < B3 + 1; omega
  clear HC1 HK1 HR1 HK2 HP HC
  go_wp2
  rw [HB3.out]
  go_loopw [4] (fun i wr => ∃ (j : Nat) (a : Option Addr) (nL cL : Nat) (L : List Ed), i = .int .i64 j ∧ j ≤ 10 ∧ Hid (L.length = nL) ∧ GRel w wr p n cap ao B B3 (2 + x0) j a nL cL L) (fun i _ => 10 - (intOf i).toNat)
  case atStart =>
    refine ⟨0, none, 0, 0, [], rfl, by omega, rfl, .inl rfl, ⟨okG_iff.2 ⟨⟨by omega, by omega⟩, by simp, by simp, List.Pairwise.nil⟩, by simp, by omega⟩, ?_, ?_, ?_, ?_⟩
    · exact blk_two w1 B3 HB3.out.symm _ _ _
    · exact HR2.out.alloc _
    · exact HC2.out.below (below1 w1 _) HC2.out.lt
    · exact HK3.out.below (below1 w1 _)
  case round =>
    obtain ⟨j, a, nL, cL, L, rfl, hj, HLN, HE1, HLO, HG1, HR1, HCU1, HKK1⟩ := hrel
    clear HC2 HR2 HK3
    go_wp2_with fail
    refine (HCU1.out.draw 9 (by omega) (by omega)).mono ?_
    rintro e w2 ⟨y, rfl, hy0, hy1, HCU2, HK2⟩
    have HKK2 : Hid (KeptBut p w w2) := HKK1.out.trans HK2.out
    have HG2 : Hid (Blk w2 B3 2 (fun i => if i = 0 then .int .i64 (2 + x0) else .slice a nL cL)) := HG1.out.keptBut HK2.out HPB.out.2
    have HR2 : Hid (Blk w2 B 2 (fun i => if i = 0 then .int .i64 0 else .slice none 0 0)) := HR1.out.keptBut HK2.out HPB.out.1
    have HE2 : Hid (EdgesIn (B3 + 1) w2.heap.size w2 a L) := (HE1.out.keptBut HK2.out HPP.out (Nat.le_refl _)).wide (Nat.le_refl _) HK2.out.size
    obtain ⟨c0, c1⟩ := blk_pair_cells HG2.out
    clear HE1 HG1 HR1 HCU1 HKK1 HK2
    by_cases hlt : (j : Int) < 2 + y
    · have hj9 : j ≤ 9 := by omega
      go_wp2_with fail
      refine wp_region_held_drew (S := fun _ => True) (by kernel_rfl) trivial (fun hHeld => ?_)
      refine wpAnyH_take (i := 1) (oi := { dst := some 18, op := Go.Op.move (Go.Operand.tmp 0), type := 64, pos := "l04_graph.go:136", after := #[], guard := none }) (v := ?_) rfl (by kernel_rfl) (by kernel_rfl) (by kernel_rfl) (fun _ _ _ h => h) (Or.inl ⟨by kernel_rfl, ?_⟩) (by assumption) ?_
      rotate_left
      · intro w hSw; (try dsimp only at hSw); go_simp; try with_reducible rfl
      simp only [Act.put, List.setIfInBounds_toArray, List.set_cons_zero, List.set_cons_succ]
      refine wpAnyH_take (i := 2) (oi := { dst := some 19, op := Go.Op.fieldAddr 26 (Go.Operand.tmp 3) 0, type := 0, pos := "l04_graph.go:136", after := #[], guard := none }) (v := ?_) rfl (by kernel_rfl) (by kernel_rfl) (by kernel_rfl) (fun _ _ _ h => h) (Or.inl ⟨by kernel_rfl, ?_⟩) (by assumption) ?_
      rotate_left
      · intro w hSw; (try dsimp only at hSw); go_simp; try with_reducible rfl
      simp only [Act.put, List.setIfInBounds_toArray, List.set_cons_zero, List.set_cons_succ]
      refine wpAnyH_ready (rs := [0, 3]) (by kernel_rfl) (by simp) ?_
      refine AllReadyH.cons (o := { dst := some 17, op := Go.Op.load 26 (Go.Operand.tmp 3), type := 26, pos := "l04_graph.go:136", after := #[], guard := none }) rfl (fun K hK => ?_) ?_
      · go_simp
        refine hK.out _ _ trivial (fun hHeld => ?_)
        clear hK K
        try simp only [Act.put, List.setIfInBounds_toArray, List.set_cons_zero, List.set_cons_succ]
        refine wpAnyH_ready (rs := [3]) (by kernel_rfl) (by simp) ?_
        refine AllReadyH.cons (o := { dst := some 20, op := Go.Op.load 3 (Go.Operand.tmp 19), type := 3, pos := "l04_graph.go:136", after := #[{ on := 2, ground := Go.Ground.data }], guard := none }) rfl (fun K hK => ?_) ?_
        · go_simp
          refine hK.out _ _ trivial (fun hHeld => ?_)
          clear hK K
          try simp only [Act.put, List.setIfInBounds_toArray, List.set_cons_zero, List.set_cons_succ]
          refine wpAnyH_ready (rs := [4]) (by kernel_rfl) (by simp) ?_
          refine AllReadyH.cons (o := { dst := some 21, op := Go.Op.call { callee := Go.Callee.value (Go.Operand.func 58), args := #[Go.Operand.tmp 18, Go.Operand.tmp 20], argTypes := #[64, 3] }, type := 99, pos := "l04_graph.go:136", after := #[{ on := 1, ground := Go.Ground.data }, { on := 3, ground := Go.Ground.data }], guard := none }) rfl (fun K hK => ?_) ?_
          · go_simp
            go_wp2_with (go_at_call 58; refine (l04Edge_any _ p n cap ao (2 + x0) (by omega) (by omega) (HCU2.out.below ((Below.refl _ _).drew) HCU2.out.lt)).mono ?_; rintro e w3 ⟨x, rfl, HX, HC3, HK3⟩)
            have HK3' : Hid (KeptBut p w2 w3) := ((KeptBut.refl p w2).below ((Below.refl _ _).drew)).trans HK3.out
            have HKK3 : Hid (KeptBut p w w3) := HKK2.out.trans HK3'.out
            have HG3 : Hid (Blk w3 B3 2 (fun i => if i = 0 then .int .i64 (2 + x0) else .slice a nL cL)) := HG2.out.keptBut HK3'.out HPB.out.2
            have HR3 : Hid (Blk w3 B 2 (fun i => if i = 0 then .int .i64 0 else .slice none 0 0)) := HR2.out.keptBut HK3'.out HPB.out.1
            have HE3 : Hid (EdgesIn (B3 + 1) w3.heap.size w3 a L) := (HE2.out.keptBut HK3'.out HPP.out (Nat.le_refl _)).wide (Nat.le_refl _) HK3'.out.size
            obtain ⟨c0, c1⟩ := blk_pair_cells HG3.out
            clear HK3 HK3' HKK2 HG2 HR2 HE2 HCU2
            refine hK.out _ _ trivial (fun hHeld => ?_)
            clear hK K
            try simp only [Act.put, List.setIfInBounds_toArray, List.set_cons_zero, List.set_cons_succ]
            refine wpAnyH_ready (rs := [5]) (by kernel_rfl) (by simp) ?_
            refine AllReadyH.cons (o := { dst := some 22, op := Go.Op.call { callee := Go.Callee.value (Go.Operand.func 57), args := #[Go.Operand.tmp 17, Go.Operand.tmp 21], argTypes := #[26, 99] }, type := 96, pos := "l04_graph.go:136", after := #[{ on := 0, ground := Go.Ground.data }, { on := 4, ground := Go.Ground.data }, { on := 4, ground := Go.Ground.chain }], guard := none }) rfl (fun K hK => ?_) ?_
            · go_simp
              go_wp2_with (go_at_call 57; refine (specGAdd_any (B3 + 1) _ (2 + x0) a nL cL L x w3 HE3.out (Nat.le_refl _) HLN.out (by have := HLN.out; have := HLO.out.2.1; omega)).mono ?_; rintro e w4 ⟨a4, n4, c4, ok4, rfl, HOK4, HN4, HE4, HB4⟩)
              have HC4 : Hid (CurL p ao n cap w4) := HC3.out.below HB4.out HC3.out.lt
              have HKK4 : Hid (KeptBut p w w4) := HKK3.out.below HB4.out
              have HG4 : Hid (Blk w4 B3 2 (fun i => if i = 0 then .int .i64 (2 + x0) else .slice a nL cL)) := HG3.out.of_block (HB4.out.block _ HG3.out.lt)
              have HR4 : Hid (Blk w4 B 2 (fun i => if i = 0 then .int .i64 0 else .slice none 0 0)) := HR3.out.of_block (HB4.out.block _ HR3.out.lt)
              have HE4' : Hid (EdgesOwn (B3 + 1) w4.heap.size w4 a4 (gaddL (2 + x0) L x)) := HE4.out.wide HG3.out.lt (Nat.le_refl _)
              clear HC3 HKK3 HG3 HR3 HE3 HE4 HB4 HOK4 c0 c1
              refine hK.out _ _ trivial (fun hHeld => ?_)
              clear hK K
              try simp only [Act.put, List.setIfInBounds_toArray, List.set_cons_zero, List.set_cons_succ]
              refine wpAnyH_take (i := 6) (oi := { dst := some 16, op := Go.Op.move (Go.Operand.tmp 22), type := 96, pos := "l04_graph.go:136", after := #[{ on := 5, ground := Go.Ground.data }], guard := none }) (v := ?_) rfl (by kernel_rfl) (by kernel_rfl) (by kernel_rfl) (fun _ _ _ h => h) (Or.inl ⟨by kernel_rfl, ?_⟩) (by assumption) ?_
              rotate_left
              · intro w hSw; (try dsimp only at hSw); go_simp; try with_reducible rfl
              simp only [Act.put, List.setIfInBounds_toArray, List.set_cons_zero, List.set_cons_succ]
              refine wpAnyH_take (i := 7) (oi := { dst := some 23, op := Go.Op.extract (Go.Operand.tmp 16) 0, type := 26, pos := "l04_graph.go:136", after := #[{ on := 6, ground := Go.Ground.data }], guard := none }) (v := ?_) rfl (by kernel_rfl) (by kernel_rfl) (by kernel_rfl) (fun _ _ _ h => h) (Or.inl ⟨by kernel_rfl, ?_⟩) (by assumption) ?_
              rotate_left
              · intro w hSw; (try dsimp only at hSw); go_simp; try with_reducible rfl
              simp only [Act.put, List.setIfInBounds_toArray, List.set_cons_zero, List.set_cons_succ]
              refine wpAnyH_take (i := 8) (oi := { dst := some 24, op := Go.Op.extract (Go.Operand.tmp 16) 1, type := 4, pos := "l04_graph.go:136", after := #[{ on := 6, ground := Go.Ground.data }, { on := 9, ground := Go.Ground.gcOnly Go.Departure.lateStores }], guard := none }) (v := ?_) rfl (by kernel_rfl) (by kernel_rfl) (by kernel_rfl) (fun _ _ _ h => h) (Or.inl ⟨by kernel_rfl, ?_⟩) (by assumption) ?_
              rotate_left
              · intro w hSw; (try dsimp only at hSw); go_simp; try with_reducible rfl
              simp only [Act.put, List.setIfInBounds_toArray, List.set_cons_zero, List.set_cons_succ]
              refine wpAnyH_ready (rs := [9]) (by kernel_rfl) (by simp) ?_
              refine AllReadyH.cons (o := { dst := none, op := Go.Op.store 26 (Go.Operand.tmp 3) (Go.Operand.tmp 23), type := 0, pos := "l04_graph.go:136", after := #[{ on := 7, ground := Go.Ground.data }, { on := 5, ground := Go.Ground.chain }, { on := 0, ground := Go.Ground.phase }, { on := 1, ground := Go.Ground.phase }, { on := 2, ground := Go.Ground.phase }, { on := 3, ground := Go.Ground.phase }, { on := 4, ground := Go.Ground.phase }, { on := 5, ground := Go.Ground.phase }, { on := 6, ground := Go.Ground.phase }, { on := 7, ground := Go.Ground.phase }, { on := 8, ground := Go.Ground.textOnly Go.Departure.lateStores }], guard := none }) rfl (fun K hK => ?_) ?_
              · obtain ⟨d0, d1⟩ := blk_pair_cells HG4.out
                have df0 := HG4.out.frozen 0
                have df1 := HG4.out.frozen 1
                go_simp
                refine hK.out _ _ trivial (fun hHeld => ?_)
                clear hK K
                try simp only [Act.put, List.setIfInBounds_toArray, List.set_cons_zero, List.set_cons_succ]
                refine wpAnyH_done (by kernel_rfl) ?_ _
                clear hHeld d0 d1 df0 df1
                go_wp2
                go_roundw
                case rel => exact ⟨j + 1, a4, n4, c4, _, by go_num, by omega, HN4, graph_rel (by omega) HPL.out HE4'.out HG4.out HR4.out HC4.out HKK4.out (gadd_drawn HLO.out HX.out hj9 (by omega) (by omega))⟩
                case measure => simp [intOf]; omega
              exact AllReadyH.nil
            exact AllReadyH.nil
          exact AllReadyH.nil
        exact AllReadyH.nil
      refine AllReadyH.cons (o := { dst := some 20, op := Go.Op.load 3 (Go.Operand.tmp 19), type := 3, pos := "l04_graph.go:136", after := #[{ on := 2, ground := Go.Ground.data }], guard := none }) rfl (fun K hK => ?_) ?_
      · go_simp
        refine hK.out _ _ trivial (fun hHeld => ?_)
        clear hK K
        try simp only [Act.put, List.setIfInBounds_toArray, List.set_cons_zero, List.set_cons_succ]
        refine wpAnyH_ready (rs := [0, 4]) (by kernel_rfl) (by simp) ?_
        refine AllReadyH.cons (o := { dst := some 17, op := Go.Op.load 26 (Go.Operand.tmp 3), type := 26, pos := "l04_graph.go:136", after := #[], guard := none }) rfl (fun K hK => ?_) ?_
        · go_simp
          refine hK.out _ _ trivial (fun hHeld => ?_)
          clear hK K
          try simp only [Act.put, List.setIfInBounds_toArray, List.set_cons_zero, List.set_cons_succ]
          refine wpAnyH_ready (rs := [4]) (by kernel_rfl) (by simp) ?_
          refine AllReadyH.cons (o := { dst := some 21, op := Go.Op.call { callee := Go.Callee.value (Go.Operand.func 58), args := #[Go.Operand.tmp 18, Go.Operand.tmp 20], argTypes := #[64, 3] }, type := 99, pos := "l04_graph.go:136", after := #[{ on := 1, ground := Go.Ground.data }, { on := 3, ground := Go.Ground.data }], guard := none }) rfl (fun K hK => ?_) ?_
          · go_simp
            go_wp2_with (go_at_call 58; refine (l04Edge_any _ p n cap ao (2 + x0) (by omega) (by omega) (HCU2.out.below ((Below.refl _ _).drew) HCU2.out.lt)).mono ?_; rintro e w3 ⟨x, rfl, HX, HC3, HK3⟩)
            have HK3' : Hid (KeptBut p w2 w3) := ((KeptBut.refl p w2).below ((Below.refl _ _).drew)).trans HK3.out
            have HKK3 : Hid (KeptBut p w w3) := HKK2.out.trans HK3'.out
            have HG3 : Hid (Blk w3 B3 2 (fun i => if i = 0 then .int .i64 (2 + x0) else .slice a nL cL)) := HG2.out.keptBut HK3'.out HPB.out.2
            have HR3 : Hid (Blk w3 B 2 (fun i => if i = 0 then .int .i64 0 else .slice none 0 0)) := HR2.out.keptBut HK3'.out HPB.out.1
            have HE3 : Hid (EdgesIn (B3 + 1) w3.heap.size w3 a L) := (HE2.out.keptBut HK3'.out HPP.out (Nat.le_refl _)).wide (Nat.le_refl _) HK3'.out.size
            obtain ⟨c0, c1⟩ := blk_pair_cells HG3.out
            clear HK3 HK3' HKK2 HG2 HR2 HE2 HCU2
            refine hK.out _ _ trivial (fun hHeld => ?_)
            clear hK K
            try simp only [Act.put, List.setIfInBounds_toArray, List.set_cons_zero, List.set_cons_succ]
            refine wpAnyH_ready (rs := [5]) (by kernel_rfl) (by simp) ?_
            refine AllReadyH.cons (o := { dst := some 22, op := Go.Op.call { callee := Go.Callee.value (Go.Operand.func 57), args := #[Go.Operand.tmp 17, Go.Operand.tmp 21], argTypes := #[26, 99] }, type := 96, pos := "l04_graph.go:136", after := #[{ on := 0, ground := Go.Ground.data }, { on := 4, ground := Go.Ground.data }, { on := 4, ground := Go.Ground.chain }], guard := none }) rfl (fun K hK => ?_) ?_
            · go_simp
              go_wp2_with (go_at_call 57; refine (specGAdd_any (B3 + 1) _ (2 + x0) a nL cL L x w3 HE3.out (Nat.le_refl _) HLN.out (by have := HLN.out; have := HLO.out.2.1; omega)).mono ?_; rintro e w4 ⟨a4, n4, c4, ok4, rfl, HOK4, HN4, HE4, HB4⟩)
              have HC4 : Hid (CurL p ao n cap w4) := HC3.out.below HB4.out HC3.out.lt
              have HKK4 : Hid (KeptBut p w w4) := HKK3.out.below HB4.out
              have HG4 : Hid (Blk w4 B3 2 (fun i => if i = 0 then .int .i64 (2 + x0) else .slice a nL cL)) := HG3.out.of_block (HB4.out.block _ HG3.out.lt)
              have HR4 : Hid (Blk w4 B 2 (fun i => if i = 0 then .int .i64 0 else .slice none 0 0)) := HR3.out.of_block (HB4.out.block _ HR3.out.lt)
              have HE4' : Hid (EdgesOwn (B3 + 1) w4.heap.size w4 a4 (gaddL (2 + x0) L x)) := HE4.out.wide HG3.out.lt (Nat.le_refl _)
              clear HC3 HKK3 HG3 HR3 HE3 HE4 HB4 HOK4 c0 c1
              refine hK.out _ _ trivial (fun hHeld => ?_)
              clear hK K
              try simp only [Act.put, List.setIfInBounds_toArray, List.set_cons_zero, List.set_cons_succ]
              refine wpAnyH_take (i := 6) (oi := { dst := some 16, op := Go.Op.move (Go.Operand.tmp 22), type := 96, pos := "l04_graph.go:136", after := #[{ on := 5, ground := Go.Ground.data }], guard := none }) (v := ?_) rfl (by kernel_rfl) (by kernel_rfl) (by kernel_rfl) (fun _ _ _ h => h) (Or.inl ⟨by kernel_rfl, ?_⟩) (by assumption) ?_
              rotate_left
              · intro w hSw; (try dsimp only at hSw); go_simp; try with_reducible rfl
              simp only [Act.put, List.setIfInBounds_toArray, List.set_cons_zero, List.set_cons_succ]
              refine wpAnyH_take (i := 7) (oi := { dst := some 23, op := Go.Op.extract (Go.Operand.tmp 16) 0, type := 26, pos := "l04_graph.go:136", after := #[{ on := 6, ground := Go.Ground.data }], guard := none }) (v := ?_) rfl (by kernel_rfl) (by kernel_rfl) (by kernel_rfl) (fun _ _ _ h => h) (Or.inl ⟨by kernel_rfl, ?_⟩) (by assumption) ?_
              rotate_left
              · intro w hSw; (try dsimp only at hSw); go_simp; try with_reducible rfl
              simp only [Act.put, List.setIfInBounds_toArray, List.set_cons_zero, List.set_cons_succ]
              refine wpAnyH_take (i := 8) (oi := { dst := some 24, op := Go.Op.extract (Go.Operand.tmp 16) 1, type := 4, pos := "l04_graph.go:136", after := #[{ on := 6, ground := Go.Ground.data }, { on := 9, ground := Go.Ground.gcOnly Go.Departure.lateStores }], guard := none }) (v := ?_) rfl (by kernel_rfl) (by kernel_rfl) (by kernel_rfl) (fun _ _ _ h => h) (Or.inl ⟨by kernel_rfl, ?_⟩) (by assumption) ?_
              rotate_left
              · intro w hSw; (try dsimp only at hSw); go_simp; try with_reducible rfl
              simp only [Act.put, List.setIfInBounds_toArray, List.set_cons_zero, List.set_cons_succ]
              refine wpAnyH_ready (rs := [9]) (by kernel_rfl) (by simp) ?_
              refine AllReadyH.cons (o := { dst := none, op := Go.Op.store 26 (Go.Operand.tmp 3) (Go.Operand.tmp 23), type := 0, pos := "l04_graph.go:136", after := #[{ on := 7, ground := Go.Ground.data }, { on := 5, ground := Go.Ground.chain }, { on := 0, ground := Go.Ground.phase }, { on := 1, ground := Go.Ground.phase }, { on := 2, ground := Go.Ground.phase }, { on := 3, ground := Go.Ground.phase }, { on := 4, ground := Go.Ground.phase }, { on := 5, ground := Go.Ground.phase }, { on := 6, ground := Go.Ground.phase }, { on := 7, ground := Go.Ground.phase }, { on := 8, ground := Go.Ground.textOnly Go.Departure.lateStores }], guard := none }) rfl (fun K hK => ?_) ?_
              · obtain ⟨d0, d1⟩ := blk_pair_cells HG4.out
                have df0 := HG4.out.frozen 0
                have df1 := HG4.out.frozen 1
                go_simp
                refine hK.out _ _ trivial (fun hHeld => ?_)
                clear hK K
                try simp only [Act.put, List.setIfInBounds_toArray, List.set_cons_zero, List.set_cons_succ]
                refine wpAnyH_done (by kernel_rfl) ?_ _
                clear hHeld d0 d1 df0 df1
                go_wp2
                go_roundw
                case rel => exact ⟨j + 1, a4, n4, c4, _, by go_num, by omega, HN4, graph_rel (by omega) HPL.out HE4'.out HG4.out HR4.out HC4.out HKK4.out (gadd_drawn HLO.out HX.out hj9 (by omega) (by omega))⟩
                case measure => simp [intOf]; omega
              exact AllReadyH.nil
            exact AllReadyH.nil
          exact AllReadyH.nil
        refine AllReadyH.cons (o := { dst := some 21, op := Go.Op.call { callee := Go.Callee.value (Go.Operand.func 58), args := #[Go.Operand.tmp 18, Go.Operand.tmp 20], argTypes := #[64, 3] }, type := 99, pos := "l04_graph.go:136", after := #[{ on := 1, ground := Go.Ground.data }, { on := 3, ground := Go.Ground.data }], guard := none }) rfl (fun K hK => ?_) ?_
        · go_simp
          go_wp2_with (go_at_call 58; refine (l04Edge_any _ p n cap ao (2 + x0) (by omega) (by omega) (HCU2.out.below ((Below.refl _ _).drew) HCU2.out.lt)).mono ?_; rintro e w3 ⟨x, rfl, HX, HC3, HK3⟩)
          have HK3' : Hid (KeptBut p w2 w3) := ((KeptBut.refl p w2).below ((Below.refl _ _).drew)).trans HK3.out
          have HKK3 : Hid (KeptBut p w w3) := HKK2.out.trans HK3'.out
          have HG3 : Hid (Blk w3 B3 2 (fun i => if i = 0 then .int .i64 (2 + x0) else .slice a nL cL)) := HG2.out.keptBut HK3'.out HPB.out.2
          have HR3 : Hid (Blk w3 B 2 (fun i => if i = 0 then .int .i64 0 else .slice none 0 0)) := HR2.out.keptBut HK3'.out HPB.out.1
          have HE3 : Hid (EdgesIn (B3 + 1) w3.heap.size w3 a L) := (HE2.out.keptBut HK3'.out HPP.out (Nat.le_refl _)).wide (Nat.le_refl _) HK3'.out.size
          obtain ⟨c0, c1⟩ := blk_pair_cells HG3.out
          clear HK3 HK3' HKK2 HG2 HR2 HE2 HCU2
          refine hK.out _ _ trivial (fun hHeld => ?_)
          clear hK K
          try simp only [Act.put, List.setIfInBounds_toArray, List.set_cons_zero, List.set_cons_succ]
          refine wpAnyH_ready (rs := [0]) (by kernel_rfl) (by simp) ?_
          refine AllReadyH.cons (o := { dst := some 17, op := Go.Op.load 26 (Go.Operand.tmp 3), type := 26, pos := "l04_graph.go:136", after := #[], guard := none }) rfl (fun K hK => ?_) ?_
          · go_simp
            refine hK.out _ _ trivial (fun hHeld => ?_)
            clear hK K
            try simp only [Act.put, List.setIfInBounds_toArray, List.set_cons_zero, List.set_cons_succ]
            refine wpAnyH_ready (rs := [5]) (by kernel_rfl) (by simp) ?_
            refine AllReadyH.cons (o := { dst := some 22, op := Go.Op.call { callee := Go.Callee.value (Go.Operand.func 57), args := #[Go.Operand.tmp 17, Go.Operand.tmp 21], argTypes := #[26, 99] }, type := 96, pos := "l04_graph.go:136", after := #[{ on := 0, ground := Go.Ground.data }, { on := 4, ground := Go.Ground.data }, { on := 4, ground := Go.Ground.chain }], guard := none }) rfl (fun K hK => ?_) ?_
            · go_simp
              go_wp2_with (go_at_call 57; refine (specGAdd_any (B3 + 1) _ (2 + x0) a nL cL L x w3 HE3.out (Nat.le_refl _) HLN.out (by have := HLN.out; have := HLO.out.2.1; omega)).mono ?_; rintro e w4 ⟨a4, n4, c4, ok4, rfl, HOK4, HN4, HE4, HB4⟩)
              have HC4 : Hid (CurL p ao n cap w4) := HC3.out.below HB4.out HC3.out.lt
              have HKK4 : Hid (KeptBut p w w4) := HKK3.out.below HB4.out
              have HG4 : Hid (Blk w4 B3 2 (fun i => if i = 0 then .int .i64 (2 + x0) else .slice a nL cL)) := HG3.out.of_block (HB4.out.block _ HG3.out.lt)
              have HR4 : Hid (Blk w4 B 2 (fun i => if i = 0 then .int .i64 0 else .slice none 0 0)) := HR3.out.of_block (HB4.out.block _ HR3.out.lt)
              have HE4' : Hid (EdgesOwn (B3 + 1) w4.heap.size w4 a4 (gaddL (2 + x0) L x)) := HE4.out.wide HG3.out.lt (Nat.le_refl _)
              clear HC3 HKK3 HG3 HR3 HE3 HE4 HB4 HOK4 c0 c1
              refine hK.out _ _ trivial (fun hHeld => ?_)
              clear hK K
              try simp only [Act.put, List.setIfInBounds_toArray, List.set_cons_zero, List.set_cons_succ]
              refine wpAnyH_take (i := 6) (oi := { dst := some 16, op := Go.Op.move (Go.Operand.tmp 22), type := 96, pos := "l04_graph.go:136", after := #[{ on := 5, ground := Go.Ground.data }], guard := none }) (v := ?_) rfl (by kernel_rfl) (by kernel_rfl) (by kernel_rfl) (fun _ _ _ h => h) (Or.inl ⟨by kernel_rfl, ?_⟩) (by assumption) ?_
              rotate_left
              · intro w hSw; (try dsimp only at hSw); go_simp; try with_reducible rfl
              simp only [Act.put, List.setIfInBounds_toArray, List.set_cons_zero, List.set_cons_succ]
              refine wpAnyH_take (i := 7) (oi := { dst := some 23, op := Go.Op.extract (Go.Operand.tmp 16) 0, type := 26, pos := "l04_graph.go:136", after := #[{ on := 6, ground := Go.Ground.data }], guard := none }) (v := ?_) rfl (by kernel_rfl) (by kernel_rfl) (by kernel_rfl) (fun _ _ _ h => h) (Or.inl ⟨by kernel_rfl, ?_⟩) (by assumption) ?_
              rotate_left
              · intro w hSw; (try dsimp only at hSw); go_simp; try with_reducible rfl
              simp only [Act.put, List.setIfInBounds_toArray, List.set_cons_zero, List.set_cons_succ]
              refine wpAnyH_take (i := 8) (oi := { dst := some 24, op := Go.Op.extract (Go.Operand.tmp 16) 1, type := 4, pos := "l04_graph.go:136", after := #[{ on := 6, ground := Go.Ground.data }, { on := 9, ground := Go.Ground.gcOnly Go.Departure.lateStores }], guard := none }) (v := ?_) rfl (by kernel_rfl) (by kernel_rfl) (by kernel_rfl) (fun _ _ _ h => h) (Or.inl ⟨by kernel_rfl, ?_⟩) (by assumption) ?_
              rotate_left
              · intro w hSw; (try dsimp only at hSw); go_simp; try with_reducible rfl
              simp only [Act.put, List.setIfInBounds_toArray, List.set_cons_zero, List.set_cons_succ]
              refine wpAnyH_ready (rs := [9]) (by kernel_rfl) (by simp) ?_
              refine AllReadyH.cons (o := { dst := none, op := Go.Op.store 26 (Go.Operand.tmp 3) (Go.Operand.tmp 23), type := 0, pos := "l04_graph.go:136", after := #[{ on := 7, ground := Go.Ground.data }, { on := 5, ground := Go.Ground.chain }, { on := 0, ground := Go.Ground.phase }, { on := 1, ground := Go.Ground.phase }, { on := 2, ground := Go.Ground.phase }, { on := 3, ground := Go.Ground.phase }, { on := 4, ground := Go.Ground.phase }, { on := 5, ground := Go.Ground.phase }, { on := 6, ground := Go.Ground.phase }, { on := 7, ground := Go.Ground.phase }, { on := 8, ground := Go.Ground.textOnly Go.Departure.lateStores }], guard := none }) rfl (fun K hK => ?_) ?_
              · obtain ⟨d0, d1⟩ := blk_pair_cells HG4.out
                have df0 := HG4.out.frozen 0
                have df1 := HG4.out.frozen 1
                go_simp
                refine hK.out _ _ trivial (fun hHeld => ?_)
                clear hK K
                try simp only [Act.put, List.setIfInBounds_toArray, List.set_cons_zero, List.set_cons_succ]
                refine wpAnyH_done (by kernel_rfl) ?_ _
                clear hHeld d0 d1 df0 df1
                go_wp2
                go_roundw
                case rel => exact ⟨j + 1, a4, n4, c4, _, by go_num, by omega, HN4, graph_rel (by omega) HPL.out HE4'.out HG4.out HR4.out HC4.out HKK4.out (gadd_drawn HLO.out HX.out hj9 (by omega) (by omega))⟩
                case measure => simp [intOf]; omega
              exact AllReadyH.nil
            exact AllReadyH.nil
          exact AllReadyH.nil
        exact AllReadyH.nil
      exact AllReadyH.nil
    · obtain ⟨r0, r1⟩ := blk_pair_cells HR2.out
      have rf0 := HR2.out.frozen 0
      have rf1 := HR2.out.frozen 1
      go_wp2
      refine bodyPost_ret (v := .agg #[.int .i64 (2 + x0), .slice a nL cL]) (by simp [results, Try.results34, go_sem, r0, r1]) rfl ?_
      have hl := HPL.out
      refine ⟨_, a, nL, cL, L, rfl, HLN, ?_, ⟨⟨HLO.out.1, Nat.le_trans HLO.out.2.1 hj, fun _ => HLO.out.2.2 (by omega)⟩, by omega, by omega⟩, ?_, ?_⟩
      · refine (HE2.out.kept (p := fun k => k = B) ?_ (Nat.le_refl _) (fun k h1 _ e => by omega)).wide (by omega) (by simp)
        exact ((KeptP.refl (fun k => k = B) w2).setCell (g := B) rfl _).setCell (g := B) rfl _
      · exact HCU2.out.below (((Below.refl B w2).setCell (Nat.le_refl _) _).setCell (Nat.le_refl _) _) (by omega)
      · exact (HKK2.out.setOut (by omega) _).setOut (by omega) _

set_option maxHeartbeats 1000000 in
set_option maxRecDepth 100000 in
theorem drawGraph_any (w : World) (n cap : Nat) (ao : Option Addr) (hn : n ≤ 1048576) (hc : CodeIn w ao n) :
    Calls Try.prog 8 #[.slice ao n cap] w fun e w' => ∃ (s : Int) (a : Option Addr) (nL cL : Nat) (L : List Ed), e = .returned (gv s a nL cL) ∧ Hid (L.length = nL) ∧ Hid (EdgesIn w.heap.size w'.heap.size w' a L) ∧ Hid (GDr s L 10 ∧ 2 ≤ s ∧ s ≤ 5) ∧ Hid (Below w.heap.size w w') := by
  obtain ⟨B, HB⟩ : ∃ B, Hid (w.heap.size = B) := ⟨_, rfl⟩
  have HC : Hid (CodeIn w ao n) := hc
  clear hc
  go_enter Try.func8, Try.ntmps8
  go_wp2_with fail
  rw [HB.out]
  generalize hW : World.alloc _ _ = W
  have HC1 : Hid (CodeIn W ao n) := by show CodeIn _ _ _; rw [← hW]; exact HC.out.below (below1 w _)
  have HB1 : Hid (Below B w W) := by show Below _ _ _; rw [← hW, ← HB.out]; exact below1 w _
  have HR1 : Hid (Blk W B 2 (fun i => if i = 0 then .int .i64 0 else .slice none 0 0)) := by show Blk _ _ _ _; rw [← hW]; exact blk_two w B HB.out.symm _ _ _
  clear hW
  refine (new_any W ao n cap hn HC1.out).mono ?_
  rintro e w1 ⟨rfl, hc1, hb1⟩
  obtain ⟨p, HP⟩ : ∃ p, Hid (p = W.heap.size) := ⟨_, rfl⟩
  have HCU : Hid (CurL p ao n cap w1) := by rw [HP.out]; exact ⟨hc1, cur_start HC1.out⟩
  have HPB : Hid (B < p) := by show B < p; rw [HP.out]; exact HR1.out.lt
  have HR2 : Hid (Blk w1 B 2 (fun i => if i = 0 then .int .i64 0 else .slice none 0 0)) := HR1.out.of_block (hb1.block _ HR1.out.lt)
  have HB2 : Hid (Below B w w1) := HB1.out.trans (hb1.mono (by have := HPB.out; have := HP.out; omega))
  rw [← HP.out]
  clear hc1 hb1 HR1 HB1 HC1
  go_wp2_with fail
  refine (l04Graph_any w1 p n cap ao HCU.out).mono ?_
  rintro e w2 ⟨s, a, nL, cL, L, rfl, HLN, HE, HGD, HC2, HK2⟩
  have HR3 : Hid (Blk w2 B 2 (fun i => if i = 0 then .int .i64 0 else .slice none 0 0)) := HR2.out.keptBut HK2.out (by have := HPB.out; omega)
  have HB3 : Hid (Below B w w2) := HB2.out.trans (HK2.out.to_below (Nat.le_of_lt HPB.out) (by have := HR2.out.lt; omega))
  have HSZ : Hid (B < w1.heap.size) := HR2.out.lt
  clear HR2 HB2 HCU HC2
  obtain ⟨r0, r1⟩ := blk_pair_cells HR3.out
  have rf0 := HR3.out.frozen 0
  have rf1 := HR3.out.frozen 1
  go_wp2
  refine bodyPost_ret (v := .agg #[.int .i64 s, .slice a nL cL]) (by simp [results, Try.results8, go_sem, r0, r1]) rfl ?_
  have hl := HB.out
  have hz := HSZ.out
  refine ⟨s, a, nL, cL, L, rfl, HLN, ?_, HGD, ?_⟩
  · refine (HE.out.kept (p := fun k => k = B) ?_ (Nat.le_refl _) (fun k h1 _ e => by omega)).wide (by omega) (by simp)
    exact ((KeptP.refl (fun k => k = B) w2).setCell (g := B) rfl _).setCell (g := B) rfl _
  · rw [hl]; exact (HB3.out.setCell (Nat.le_refl _) _).setCell (Nat.le_refl _) _
end Go.Proofs.Ytdbogikcmfnpdaa
