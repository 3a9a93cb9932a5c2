/-
  Texts that are drawn: l01Text, l01Long, DrawHex.
-/
import Derived.Test.YtelikebpddhncaaDrawC
namespace Go.Proofs.Ytelikebpddhncaa
open Go.RowKit

theorem KeptBut.grown {g : Nat} {w w1 w2 : World} {row : Option Nat} (h : KeptBut g w w1) (hg : w1.grownBy w2 row) (hr : ∀ k, row = some k → w.heap.size ≤ k) : KeptBut g w w2 :=
  ⟨hg.os.trans h.os, hg.tape.trans h.tape, hg.output.trans h.output, Nat.le_trans h.size hg.size, fun k hk hne => (hg.block k (Nat.lt_of_lt_of_le hk h.size) (by intro e; have := hr k e.symm; omega)).trans (h.block k hk hne)⟩
theorem Cur.code {p n cap : Nat} {ao : Option Addr} {w : World} (h : Cur p ao n cap w) : CodeAt w p ao n := by
  obtain ⟨i, x, hc⟩ := h
  exact hc.code
theorem Cur.grown {p n cap : Nat} {ao : Option Addr} {w w1 w2 : World} {row : Option Nat} (h : Cur p ao n cap w1) (hc : CodeAt w p ao n) (hk : KeptBut p w w2) (hg : w1.grownBy w2 row) (hp : row ≠ some p) : Cur p ao n cap w2 := by
  obtain ⟨i, x, h1⟩ := h
  exact ⟨i, x, (hg.block p h1.lt (fun e => hp e.symm)).trans h1.blk, h1.le, h1.small, hc.keep hk⟩

/-- a slice of bytes of the call's own made to a string -/
theorem run_string_any {w : World} {base n : Nat} {v : Value} {l : List UInt8} (h : w.ownsRow base 5 1 v n (l.map bv)) :
    (convert 22 9 v).run Try.prog w = .ok (.string ⟨l.toArray⟩) w := by
  rcases h.2 with ⟨rfl, hn⟩ | ⟨g, cap, cur, rfl, _⟩
  · have hl : l = [] := by have := h.1; rw [hn] at this; simpa using this
    subst hl
    have := run_convert_bytes_nil (P := Try.prog) w 22 5 Try.underlying22 Try.underlying5 0 0 9 Try.underlying9
    rw [this]; rfl
  · have hn : n = l.length := by have := h.1; simp at this; omega
    subst hn
    refine run_convert_bytes_back w 22 9 5 ⟨g, 0, none⟩ cap l Try.underlying22 Try.underlying5 Try.underlying9 fun j hj => ?_
    have := h.cellAt j (by omega)
    have e : (⟨g, 0, none⟩ : Addr).add j = ⟨g, j, none⟩ := by unfold Addr.add; split <;> simp_all
    rw [e, this]
    simp [bv, hj]
theorem own_snocD {w1 : World} {B k : Nat} {v x : Value} {pre : List UInt8} {b : UInt8} (h : w1.ownsRow B 5 1 v k (pre.map bv ++ [x])) (hx : bv b = x) : w1.ownsRow B 5 1 v k ((pre ++ [b]).map bv) := by
  subst hx; simpa using h

/-- at the head of each round of l01Text -/
structure TAt (w : World) (p : Nat) (ao : Option Addr) (n cap m j : Nat) (v : Value) (l : List UInt8) (wr : World) : Prop where
  le : j ≤ m
  own : wr.ownsRow w.heap.size 5 1 v j (l.map bv)
  cur : Cur p ao n cap wr
  kept : KeptBut p w wr

set_option maxHeartbeats 1000000 in
set_option maxRecDepth 100000 in
theorem text_cur (w : World) (p n cap : Nat) (ao : Option Addr) (m : Nat) (hm : m ≤ 5000) (hc : Cur p ao n cap w) :
    Calls Try.prog 99 #[.pointer (some ⟨p, 0, none⟩), .int .i64 (m : Int)] w fun e w' => ∃ t : ByteArray, e = .returned (.string t) ∧ t.size = m ∧ Cur p ao n cap w' ∧ KeptBut p w w' := by
  obtain ⟨i0, hi, hz0, hz1, hz2⟩ := info_parts Try.info5
  have HC : Hid (Cur p ao n cap w) := hc
  have hpw := hc.lt
  have hm5 : ¬ (5000 : Int) < (m : Int) := by omega
  clear hc
  go_enter Try.func99, Try.ntmps99
  go_wp2
  go_loopw [5, 6] (fun v i wr => ∃ (j : Nat) (l : List UInt8), i = .int .i64 j ∧ TAt w p ao n cap m j v l wr) (fun _ i _ => m - (intOf i).toNat)
  case atStart => exact ⟨0, [], rfl, by omega, World.ownsRow_made w #[] 0 (Nat.le_refl _) (Nat.zero_le _) rfl, HC.out.keep ((Below.refl _ w).alloc (Nat.le_refl _) _), (KeptBut.refl p w).alloc _⟩
  case round =>
    obtain ⟨j, l, rfl, hT⟩ := hrel
    have HT : Hid (TAt w p ao n cap m j u5 l wr) := hT
    have hle := hT.le
    clear hT
    by_cases hlt : j < m
    · have hlt1 : (j : Int) < (m : Int) := by omega
      go_wp2_with fail
      refine (byte_cur _ p n cap ao HT.out.cur).mono ?_
      rintro e w1 ⟨x, rfl, hx0, hx1, hc1, hk1⟩
      obtain ⟨y, rfl⟩ := Int.eq_ofNat_of_zero_le hx0
      have hne : u5.ownBlock ≠ some p := fun e => by have := (HT.out.own.lt p e).1; omega
      have hown := hk1.own HT.out.own hne
      have hsz : w.heap.size ≤ w1.heap.size := Nat.le_trans HT.out.kept.size hk1.size
      have HNE : Hid (u5.ownBlock ≠ some p) := hne
      have HC1 : Hid (Cur p ao n cap w1) := hc1
      have HK1 : Hid (KeptBut p w w1) := HT.out.kept.trans hk1
      have HY : Hid (bv (UInt8.ofNat y) = .int .u8 (y : Int)) := by
        show bv (UInt8.ofNat y) = .int .u8 (y : Int)
        simp [bv]; omega
      clear hc1 hk1 hne
      go_wp2_with (at_builtin; refine wpList_append_lies _ rfl (.tmp 15) (.tmp 19) 22 rfl w.heap.size 5 i0 (.int .u8 0) 1 1 Try.underlying22 hi hz0 hz1 hz2 rfl (by decide) _ j (l.map bv) rfl (hown.alloc _) ⟨w1.heap.size, 0, none⟩ 1 1 [.int .u8 (y : Int)] rfl rfl (cell_one_new _ _ _) (by simp [Value.oneCell']) (by decide) (by unfold maxLen; omega) (by omega) (by simp; omega) _ rfl ?_; intro g cap2 w2 hown2 hgrow2 _ _)
      go_roundw
      case rel =>
        have hk2 : KeptBut p w w2 := (HK1.out.alloc _).grown hgrow2 fun k hk => (HT.out.own.lt k hk).1
        exact ⟨j + 1, _, by go_num, by omega, own_snocD hown2 HY.out, (HC1.out.keep ((Below.refl _ w1).alloc (Nat.le_refl _) _)).grown HC.out.code hk2 hgrow2 HNE.out, hk2⟩
      case measure => simp [intOf]; omega
    · have hjm : j = m := by omega
      have hstr := run_string_any HT.out.own
      have HL : Hid (l.length = m) := by
        have := HT.out.own.1
        simp at this
        show l.length = m
        omega
      clear hjm
      go_wp2
      go_ret
      exact ⟨_, rfl, by simp [ByteArray.size]; exact HL.out, HT.out.cur, HT.out.kept⟩
end Go.Proofs.Ytelikebpddhncaa
