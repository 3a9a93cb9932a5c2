/-
  The program's text of a path: a kid, all kids, a piece.
-/
import Derived.Test.YtkcflhlipdnbnaaShP
namespace Go.Proofs.Ytkcflhlipdnbnaa
open Go.RowKit

/-- the shower as a value: the pieces, and the texts of those ahead -/
def shwV (b : Option Addr) (m mc : Nat) (a : Option Addr) (k c : Nat) : Value := .agg #[.slice b m mc, .slice a k c]
theorem kidT_le {TS : List Tx} {ps : List Pc} {x z : Int} (h : (tat TS z.toNat).size ≤ 20) : (kidT TS ps x z).size ≤ 22 := by
  unfold kidT
  split
  · rw [paren_size]; omega
  · omega

set_option maxHeartbeats 2000000 in
set_option maxRecDepth 100000 in
theorem kid_any (lo hi lo2 hi2 : Nat) (b : Option Addr) (m mc : Nat) (ps : List Pc) (a : Option Addr) (k ct : Nat) (TS : List Tx) (z : Nat) (x : Int) (t : Tx) (w : World) (ha : PathIn lo hi w b ps) (hh : hi ≤ w.heap.size) (hn : ps.length = m) (hz : z < k) (hk : k ≤ m) (hT : FlIn 1 lo2 hi2 w a k (tC TS)) (hh2 : hi2 ≤ w.heap.size) (hs : (tat TS z).size ≤ 20) (ht : t = kidT TS ps x (z : Int)) :
    Calls Try.prog 105 #[shwV b m mc a k ct, .int .i64 (z : Int), .int .i64 x] w fun e w' => e = .returned (.string t) ∧ Hid (Below w.heap.size w w') := by
  obtain ⟨bb, oo, rfl, _, hbh, _⟩ := ha.piece (k := z) (by omega)
  obtain ⟨p0, _⟩ := ha.op (i := z) (by omega)
  obtain ⟨tb, tt, rfl, _, hth, hc⟩ := hT.at hz
  have t0 := hc 0 (by omega)
  rw [tC0] at t0
  simp only [Nat.add_zero, Nat.mul_one] at t0
  obtain ⟨y, HY⟩ : ∃ y, Hid (y = (pat ps z).1) := ⟨_, rfl⟩
  obtain ⟨s, HS⟩ : ∃ s, Hid (s = tat TS z) := ⟨_, rfl⟩
  rw [← HY.out] at p0
  rw [← HS.out] at t0 hs
  have HT : Hid (t = if inPar x y = true then parenT s else s) := by show _ = _; rw [ht, HY.out, HS.out]; unfold kidT; simp
  obtain ⟨B, HB⟩ : ∃ B, Hid (B = w.heap.size) := ⟨_, rfl⟩
  obtain ⟨W, HW⟩ : ∃ W, Hid (W = w.alloc (.cells #[.slice (some ⟨bb, oo, none⟩) m mc, .slice (some ⟨tb, tt, none⟩) k ct] 118)) := ⟨_, rfl⟩
  have HBW : Hid (Below w.heap.size w W) := by rw [HW.out]; exact below1 w _
  have HXB : Hid (Blk W B 2 (fun i => if i = 0 then .slice (some ⟨bb, oo, none⟩) m mc else .slice (some ⟨tb, tt, none⟩) k ct)) := by rw [HW.out]; exact blk_two _ B HB.out _ _ _
  have c0 : W.cell? ⟨B, 0, none⟩ = some (.slice (some ⟨bb, oo, none⟩) m mc) := HXB.out.cell (i := 0) (by omega)
  have c1 : W.cell? ⟨B, 1, none⟩ = some (.slice (some ⟨tb, tt, none⟩) k ct) := HXB.out.cell (i := 1) (by omega)
  have c2 := cell_below p0 HBW.out (by omega)
  have c3 := cell_below t0 HBW.out (by omega)
  have hz0 : (0 : Int) ≤ (z : Int) := by omega
  have hz1 : (z : Int) < (m : Int) := by omega
  have hz2 : (z : Int) < (k : Int) := by omega
  have hov1 : ¬ (9223372036854775807 < 1 + s.size) := by omega
  have hov2 : ¬ (9223372036854775807 < (⟨#[40]⟩ : ByteArray).size + s.size) := by show ¬ (_ < 1 + s.size); omega
  have hov3 : ¬ (9223372036854775807 < 1 + s.size + 1) := by omega
  have hov4 : ¬ (9223372036854775807 < ((⟨#[40]⟩ : ByteArray) ++ s).size + (⟨#[41]⟩ : ByteArray).size) := by rw [size_app]; show ¬ (_ < 1 + s.size + 1); omega
  clear ha hh hn hT hh2 ht hc p0 t0 hbh hth
  unfold shwV
  go_enter Try.func105, Try.ntmps105
  go_upto_region 1 with fail
  rw [← HB.out]
  first | rw [← HW.out] | (rw [show _ = W from HW.out.symm])
  clear HW
  by_cases hy3 : y = 3
  · subst hy3
    have HE : Hid (t = parenT s) := by show _ = _; rw [HT.out]; rfl
    go_wp2
    go_ret
    exact ⟨by rw [HE.out]; rfl, HBW⟩
  · have hd3 : decide (y = 3) = false := decide_eq_false hy3
    have hb3 : (y == 3) = false := by simpa using hy3
    by_cases hy2 : y = 2
    · subst hy2
      by_cases hx3 : x = 3
      · subst hx3
        have HE : Hid (t = s) := by show _ = _; rw [HT.out]; rfl
        go_wp2
        go_ret
        exact ⟨by rw [HE.out]; rfl, HBW⟩
      · have hdx : decide (x = 3) = false := decide_eq_false hx3
        have hbx : (x == 3) = false := by simpa using hx3
        have HE : Hid (t = parenT s) := by show _ = _; rw [HT.out]; unfold inPar; rw [hdx]; rfl
        go_wp2
        go_ret
        exact ⟨by rw [HE.out]; rfl, HBW⟩
    · have hd2 : decide (y = 2) = false := decide_eq_false hy2
      have hb2 : (y == 2) = false := by simpa using hy2
      have HE : Hid (t = s) := by show _ = _; rw [HT.out]; unfold inPar; rw [hd3, hd2]; rfl
      go_wp2
      go_ret
      exact ⟨by rw [HE.out]; rfl, HBW⟩
end Go.Proofs.Ytkcflhlipdnbnaa
