/-
  spec.l01Var.
-/
import Derived.Test.YtfeimdlkpiacoaaSBase
namespace Go.Proofs.Ytfeimdlkpiacoaa.sp
open Go.RowKit

/-- a number below this has at most f + 1 bytes -/
def lim (f : Nat) : Nat := 128 ^ (f + 1)
theorem lim_step {m f : Nat} (h : m < lim f) (hm : 127 < m) : ∃ f', f = f' + 1 ∧ m / 128 < lim f' := by
  cases f with
  | zero => simp [lim] at h; omega
  | succ f => exact ⟨f, rfl, by simp only [lim] at h ⊢; rw [Nat.pow_succ] at h; omega⟩
theorem lim_max {n : Nat} (h : n ≤ 9223372036854775807) : n < lim 9 := by simp only [lim]; omega

theorem own_snoc {w1 : World} {B k : Nat} {v x : Value} {pre : List UInt8} {b : UInt8} (h : w1.ownsRow B 5 1 v k (pre.map bv ++ [x])) (hx : bv b = x) : w1.ownsRow B 5 1 v k ((pre ++ [b]).map bv) := by
  subst hx; simpa using h
/-- the world behind an append onto what the call owns -/
theorem below_app {w wr w1 : World} {v : Value} {k : Nat} {xs : List Value} {o : Obj} (hbel : Below w.heap.size w wr) (hown : wr.ownsRow w.heap.size 5 1 v k xs) (hg : (wr.alloc o).grownBy w1 v.ownBlock) : Below w.heap.size w w1 :=
  (hbel.alloc hbel.size o).grown hg (by have := hbel.size; simp; omega) fun j hj => (hown.lt j hj).1

/-- what holds at the head of each round: pre is told, m is left -/
def VarRel (w : World) (N : Nat) (nv v : Value) (wr : World) : Prop :=
  ∃ (m f k : Nat) (pre : List UInt8), nv = .int .i64 m ∧ m < lim f ∧ m ≤ 9223372036854775807 ∧ k + f = 9 ∧ wr.ownsRow w.heap.size 5 1 v k (pre.map bv) ∧ pre ++ varB f m = varB 9 N ∧ Below w.heap.size w wr

set_option maxHeartbeats 400000 in
set_option maxRecDepth 100000 in
theorem l01Var_any (n : Nat) (w : World) (hn : n ≤ 9223372036854775807) :
    Calls Try.prog 48 #[.int .i64 n] w fun e w' => e = .returned (.string ⟨(varB 9 n).toArray⟩) ∧ Below w.heap.size w w' := by
  obtain ⟨i0, hi, hz0, hz1, hz2⟩ := info_parts Try.info5
  go_enter Try.func48, Try.ntmps48
  go_wp2
  go_loopw [0, 3] (fun nv v wr => VarRel w n nv v wr) (fun nv _ _ => (intOf nv).toNat)
  case atStart => exact ⟨n, 9, 0, [], rfl, lim_max hn, hn, rfl, World.ownsRow_made w #[] 0 (Nat.le_refl _) (Nat.zero_le _) rfl, rfl, (Below.refl _ _).alloc (Nat.le_refl _) _⟩
  case round =>
    obtain ⟨m, f, k, pre, rfl, hm, hmx, hk, hown, heq, hbel⟩ := hrel
    have hsz := hbel.size
    by_cases hlt : 127 < m
    · obtain ⟨f', rfl, hm'⟩ := lim_step hm hlt
      have hb : bv (UInt8.ofNat (m % 128 + 128)) = .int .u8 ((m : Int) % 128 + 128) := by simp [bv]; omega
      have HQ : Hid (pre ++ varB (f' + 1) m = varB 9 n) := heq
      have HB : Hid (bv (UInt8.ofNat (m % 128 + 128)) = .int .u8 ((m : Int) % 128 + 128)) := hb
      clear hm heq hb
      go_wp2_with (at_builtin; refine wpList_append_lies _ rfl (.tmp 7) (.tmp 12) 65 rfl w.heap.size 5 i0 (.int .u8 0) 1 1 Try.underlying65 hi hz0 hz1 hz2 rfl (by decide) _ k (pre.map bv) rfl (hown.alloc _) ⟨wr.heap.size, 0, none⟩ 1 1 [.int .u8 ((m : Int) % 128 + 128)] rfl rfl (cell_one_new _ _ _) (by simp [Value.oneCell']) (by decide) (by unfold maxLen; omega) (by omega) (by simp; omega) _ rfl ?_; intro g cap w1 hown1 hgrow1 _ _)
      go_roundw
      case rel => exact ⟨m / 128, f', k + 1, pre ++ [UInt8.ofNat (m % 128 + 128)], by go_num, hm', by omega, by omega, own_snoc hown1 HB.out, by rw [← HQ.out, varB_big _ _ hlt]; simp, below_app hbel hown hgrow1⟩
      case measure => simp [intOf]; omega
    · have hb : bv (UInt8.ofNat m) = .int .u8 (m : Int) := by simp [bv]; omega
      have HQ : Hid (pre ++ varB f m = varB 9 n) := heq
      have HB : Hid (bv (UInt8.ofNat m) = .int .u8 (m : Int)) := hb
      clear hm heq hb
      go_wp2_with (at_builtin; refine wpList_append_lies _ rfl (.tmp 16) (.tmp 19) 65 rfl w.heap.size 5 i0 (.int .u8 0) 1 1 Try.underlying65 hi hz0 hz1 hz2 rfl (by decide) _ k (pre.map bv) rfl (hown.alloc _) ⟨wr.heap.size, 0, none⟩ 1 1 [.int .u8 (m : Int)] rfl rfl (cell_one_new _ _ _) (by simp [Value.oneCell']) (by decide) (by unfold maxLen; omega) (by omega) (by simp; omega) _ rfl ?_; intro g cap w1 hown1 hgrow1 _ _; have hstr := run_string_own (own_snoc hown1 HB.out))
      go_ret
      rw [varB_small _ _ (by omega)] at HQ
      exact ⟨by rw [HQ.out]; rfl, below_app hbel hown hgrow1⟩
set_option maxHeartbeats 400000 in
set_option maxRecDepth 100000 in
theorem VarText_yes (n : Nat) (w : World) (hn : n ≤ 1000000000) :
    Calls Try.prog 70 #[.int .i64 n] w fun e w' => e = .returned (.tuple #[.string ⟨(varB 9 n).toArray⟩, .bool true]) ∧ Below w.heap.size w w' := by
  obtain ⟨i0, hi, hz0, hz1, hz2⟩ := info_parts Try.info5
  go_enter Try.func70, Try.ntmps70
  go_wp2
  go_loopw [0, 4] (fun nv v wr => VarRel w n nv v wr) (fun nv _ _ => (intOf nv).toNat)
  case atStart => exact ⟨n, 9, 0, [], rfl, lim_max (by omega), by omega, rfl, World.ownsRow_made w #[] 0 (Nat.le_refl _) (Nat.zero_le _) rfl, rfl, (Below.refl _ _).alloc (Nat.le_refl _) _⟩
  case round =>
    obtain ⟨m, f, k, pre, rfl, hm, hmx, hk, hown, heq, hbel⟩ := hrel
    have hsz := hbel.size
    by_cases hlt : 127 < m
    · obtain ⟨f', rfl, hm'⟩ := lim_step hm hlt
      have hb : bv (UInt8.ofNat (m % 128 + 128)) = .int .u8 ((m : Int) % 128 + 128) := by simp [bv]; omega
      have HQ : Hid (pre ++ varB (f' + 1) m = varB 9 n) := heq
      have HB : Hid (bv (UInt8.ofNat (m % 128 + 128)) = .int .u8 ((m : Int) % 128 + 128)) := hb
      clear hm heq hb
      go_wp2_with (at_builtin; refine wpList_append_lies _ rfl (.tmp 14) (.tmp 19) 65 rfl w.heap.size 5 i0 (.int .u8 0) 1 1 Try.underlying65 hi hz0 hz1 hz2 rfl (by decide) _ k (pre.map bv) rfl (hown.alloc _) ⟨wr.heap.size, 0, none⟩ 1 1 [.int .u8 ((m : Int) % 128 + 128)] rfl rfl (cell_one_new _ _ _) (by simp [Value.oneCell']) (by decide) (by unfold maxLen; omega) (by omega) (by simp; omega) _ rfl ?_; intro g cap w1 hown1 hgrow1 _ _)
      go_roundw
      case rel => exact ⟨m / 128, f', k + 1, pre ++ [UInt8.ofNat (m % 128 + 128)], by go_num, hm', by omega, by omega, own_snoc hown1 HB.out, by rw [← HQ.out, varB_big _ _ hlt]; simp, below_app hbel hown hgrow1⟩
      case measure => simp [intOf]; omega
    · have hb : bv (UInt8.ofNat m) = .int .u8 (m : Int) := by simp [bv]; omega
      have HQ : Hid (pre ++ varB f m = varB 9 n) := heq
      have HB : Hid (bv (UInt8.ofNat m) = .int .u8 (m : Int)) := hb
      clear hm heq hb
      go_wp2_with (at_builtin; refine wpList_append_lies _ rfl (.tmp 23) (.tmp 26) 65 rfl w.heap.size 5 i0 (.int .u8 0) 1 1 Try.underlying65 hi hz0 hz1 hz2 rfl (by decide) _ k (pre.map bv) rfl (hown.alloc _) ⟨wr.heap.size, 0, none⟩ 1 1 [.int .u8 (m : Int)] rfl rfl (cell_one_new _ _ _) (by simp [Value.oneCell']) (by decide) (by unfold maxLen; omega) (by omega) (by simp; omega) _ rfl ?_; intro g cap w1 hown1 hgrow1 _ _; have hstr := run_string_own (own_snoc hown1 HB.out))
      go_ret2
      rw [varB_small _ _ (by omega)] at HQ
      exact ⟨by rw [HQ.out]; rfl, below_app hbel hown hgrow1⟩

set_option maxHeartbeats 400000 in
set_option maxRecDepth 100000 in
theorem VarText_no (n : Int) (w : World) (hn : n < 0 ∨ 1000000000 < n) :
    Calls Try.prog 70 #[.int .i64 n] w fun e w' => e = .returned (.tuple #[.string ⟨#[]⟩, .bool false]) ∧ Below w.heap.size w w' := by
  rcases hn with hn | hn
  · go_enter Try.func70, Try.ntmps70
    go_wp2
    go_ret2
    exact ⟨rfl, Below.refl _ _⟩
  · have h0 : ¬ n < 0 := by omega
    go_enter Try.func70, Try.ntmps70
    go_wp2
    go_ret2
    exact ⟨rfl, Below.refl _ _⟩

set_option maxHeartbeats 400000 in
set_option maxRecDepth 100000 in
theorem l01In_yes (x a b : Int) (w : World) (h1 : a ≤ x) (h2 : x ≤ b) :
    Calls Try.prog 31 #[.int .i64 x, .int .i64 a, .int .i64 b] w fun e w' => e = .returned (.bool true) ∧ w = w' := by
  have d1 : decide (a ≤ x) = true := by simp [h1]
  have d2 : decide (x ≤ b) = true := by simp [h2]
  go_enter Try.func31, Try.ntmps31
  go_wp2
  go_ret
  exact ⟨rfl, rfl⟩

set_option maxHeartbeats 400000 in
set_option maxRecDepth 100000 in
theorem l01In_no (x a b : Int) (w : World) (h : x < a ∨ b < x) :
    Calls Try.prog 31 #[.int .i64 x, .int .i64 a, .int .i64 b] w fun e w' => e = .returned (.bool false) ∧ w = w' := by
  by_cases h1 : a ≤ x
  · have h2 : b < x := by omega
    have d1 : decide (a ≤ x) = true := by simp [h1]
    have d2 : decide (x ≤ b) = false := by simp; omega
    go_enter Try.func31, Try.ntmps31
    go_wp2
    go_ret
    exact ⟨rfl, rfl⟩
  · have d1 : decide (a ≤ x) = false := by simp; omega
    go_enter Try.func31, Try.ntmps31
    go_wp2
    go_ret
    exact ⟨rfl, rfl⟩

end Go.Proofs.Ytfeimdlkpiacoaa.sp
