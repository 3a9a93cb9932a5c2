/-
  impl.Hex.
-/
import Derived.Test.YtcbebilhbghclaaHex
namespace Go.Proofs.Ytcbebilhbghclaa
open Go.RowKit

/-- the figures, as the program has them -/
def figs : ByteArray := ⟨#[48, 49, 50, 51, 52, 53, 54, 55, 56, 57, 97, 98, 99, 100, 101, 102]⟩
theorem figs_at (x : Nat) (h : x < 16) : (figs[x]'h) = fig x := by
  match x, h with
  | 0, _ => rfl
  | 1, _ => rfl
  | 2, _ => rfl
  | 3, _ => rfl
  | 4, _ => rfl
  | 5, _ => rfl
  | 6, _ => rfl
  | 7, _ => rfl
  | 8, _ => rfl
  | 9, _ => rfl
  | 10, _ => rfl
  | 11, _ => rfl
  | 12, _ => rfl
  | 13, _ => rfl
  | 14, _ => rfl
  | 15, _ => rfl
  | n + 16, h => omega

theorem fig_cell (x y : Nat) (hy : y < 16) (e : y = x) : bv (fig x) = .int .u8 ((figs[y]'hy).toNat : Int) := by
  subst e; rw [figs_at]; rfl

set_option maxHeartbeats 1000000 in
set_option maxRecDepth 100000 in
theorem Hex_any (s : ByteArray) (w : World) (hs : s.size ≤ 20000) :
    Calls Try.prog 18 #[.string s] w fun e w' => e = .returned (.tuple #[.string ⟨(hexL s.data.toList).toArray⟩, .bool true]) ∧ Below w.heap.size w w' := by
  obtain ⟨i0, hi, hz0, hz1, hz2⟩ := info_parts Try.info5
  go_enter Try.func18, Try.ntmps18
  go_wp2_with (at_make; refine wpList_make_own _ rfl _ _ 34 rfl w.heap.size 5 i0 (.int .u8 0) 1 Try.underlying34 hi hz0 hz1 .i64 .i64 (2 * (s.size : Int)) (2 * s.size) rfl rfl (by omega) (by rw [hz2]; omega) (by unfold maxLen; omega) (Nat.le_refl _) ?_; intro w0 hown0 hgrow0)
  go_loopw [4, 5] (fun v p wr => ∃ i : Nat, p = .int .i64 i ∧ HAt w s i v wr) (fun _ p _ => s.size - (intOf p).toNat)
  case atStart => exact ⟨0, rfl, by omega, by simpa [hexL] using hown0, (Below.refl _ _).grown hgrow0 (Nat.le_refl _) (by simp)⟩
  case round =>
    obtain ⟨i, rfl, hU⟩ := hrel
    have HU : Hid (HAt w s i u4 wr) := hU
    have hown := hU.own
    have hsz := hU.bel.size
    by_cases hlt : i < s.size
    · clear hU
      have hc : (s[i].toNat : Int) < 256 := by have := s[i].toNat_lt; omega
      have hi1 : (i : Int) < (s.size : Int) := by omega
      have hi2 : (0 : Int) ≤ (i : Int) := by omega
      have hq1 : (s[i].toNat : Int) / 16 < 16 := by omega
      have hq2 : (0 : Int) ≤ (s[i].toNat : Int) / 16 := by omega
      have hq3 : (s[i].toNat : Int) % 16 < 16 := by omega
      have hq4 : (0 : Int) ≤ (s[i].toNat : Int) % 16 := by omega
      have hv1 : IntKind.u8.wrap ((s[i].toNat : Int) / 16) = (s[i].toNat : Int) / 16 := by rw [IntKind.wrap_u8]; omega
      have hv2 : IntKind.u8.wrap ((s[i].toNat : Int) % 16) = (s[i].toNat : Int) % 16 := by rw [IntKind.wrap_u8]; omega
      have hw4 : (s[i].toNat : Int).tmod 16 = (s[i].toNat : Int) % 16 := Int.tmod_eq_emod_of_nonneg (by omega)
      go_wp2_with fail
      go_region_held_law (fun _ => True) (trivial) ((refine step_append_lies _ rfl (.tmp 19) (.tmp 30) 34 rfl w.heap.size 5 i0 (.int .u8 0) 1 1 Try.underlying34 hi hz0 hz1 hz2 rfl (by decide) _ (2 * i) ((hexL (s.data.toList.take i)).map bv) rfl (by exact (hown.alloc _).drew) ⟨wr.heap.size, 0, none⟩ 2 2 _ rfl ?_ (World.news_of_block (by exact heap_alloc_new wr _)) ?_ (by decide) (by unfold maxLen; omega) (by omega) (by simp; omega) _ rfl ?_; rfl; (intro u hu; simp at hu; rcases hu with rfl | rfl <;> rfl); intro g cap w1 hown1 hgrow1 _ _))
      all_goals go_wp2
      all_goals go_roundw
      all_goals (try (case measure => simp [intOf]; omega))
      all_goals (case rel => exact ⟨i + 1, by go_num, HU.out.next (w0 := wr.drew) hlt (by exact hown1) (fig_cell _ _ _ (by omega)) (fig_cell _ _ _ (by omega)) ((Below.refl _ _).drew) (by exact hgrow1)⟩)
    · have HD : Hid (hexL (s.data.toList.take i) = hexL s.data.toList) := by
        show hexL (s.data.toList.take i) = hexL s.data.toList
        rw [List.take_of_length_le (by have : s.data.size = s.size := rfl; simp; omega)]
      have hstr := run_string_any hown
      clear hU
      go_wp2
      go_ret2
      exact ⟨by rw [← HD.out]; rfl, HU.out.bel⟩

set_option maxHeartbeats 400000 in
theorem sHex_no (s : ByteArray) (w : World) (hs : (20000 : Int) < (s.size : Int)) :
    Calls Try.prog 17 #[.string s] w fun e w' => e = .returned (.tuple #[.string ⟨#[]⟩, .bool false]) ∧ Below w.heap.size w w' := by
  go_enter Try.func17, Try.ntmps17
  go_wp2
  go_ret2
  exact ⟨rfl, Below.refl _ _⟩
set_option maxHeartbeats 400000 in
theorem Hex_no (s : ByteArray) (w : World) (hs : (20000 : Int) < (s.size : Int)) :
    Calls Try.prog 18 #[.string s] w fun e w' => e = .returned (.tuple #[.string ⟨#[]⟩, .bool false]) ∧ Below w.heap.size w w' := by
  go_enter Try.func18, Try.ntmps18
  go_wp2
  go_ret2
  exact ⟨rfl, Below.refl _ _⟩
end Go.Proofs.Ytcbebilhbghclaa
