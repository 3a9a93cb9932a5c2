/-
  Graphs: their marks, read back.
-/
import Derived.Test.YtfeimdlkpiacoaaEdC
namespace Go.Proofs.Ytfeimdlkpiacoaa
open Go.RowKit

set_option maxHeartbeats 2000000 in
set_option maxRecDepth 100000 in
theorem heldEdges_any (lo hi : Nat) (a : Option Addr) (n cap K : Nat) (w : World) (ha : EdgesIn lo hi w a (marksE K n)) (hm : n ≤ 1048576) (hK : K ≤ 1099511627776) :
    Calls Try.prog 44 #[.slice a n cap, .int .i64 (K : Int)] w fun e w' => e = .returned (.int .i64 ((K + n * 3 : Nat) : Int)) ∧ w = w' := by
  have HA : Hid (EdgesIn lo hi w a (marksE K n)) := ha
  clear ha
  go_enter Try.func44, Try.ntmps44
  go_wp2
  go_loop [5, 1] (fun i s => ∃ k : Nat, i = .int .i64 k ∧ s = .int .i64 ((K + k * 3 : Nat) : Int) ∧ k ≤ n) (fun i _ => n - (intOf i).toNat)
  case atStart => exact ⟨0, rfl, by simp, by omega⟩
  case round =>
    obtain ⟨k, rfl, rfl, hk⟩ := hrel
    by_cases hlt : k < n
    · have hlt1 : (k : Int) < (n : Int) := by omega
      obtain ⟨b, o, rfl, _, _, hc⟩ := HA.out.edge (k := k) (by rw [marksE_len]; exact hlt)
      rw [marksE_at hlt] at hc
      obtain ⟨c0, c1, c2⟩ := hc
      dsimp only at c0 c1 c2
      go_wp2
      go_roundw
      case rel => exact ⟨k + 1, by go_num, by go_num, by omega⟩
      case measure => simp [intOf]; omega
    · obtain rfl : k = n := by omega
      go_wp2
      go_ret
      exact ⟨rfl, rfl⟩

set_option maxHeartbeats 1000000 in
theorem heldGraph_any (lo hi : Nat) (s : Int) (a : Option Addr) (n cap K : Nat) (w : World) (ha : EdgesIn lo hi w a (marksE K n)) (hh : hi ≤ w.heap.size) (hm : n ≤ 1048576) (hK : K ≤ 1099511627776) :
    Calls Try.prog 18 #[gv s a n cap, .int .i64 (K : Int)] w fun e w' => ∃ m : Nat, e = .returned (.int .i64 (m : Int)) ∧ Hid (m = K + n * 3) ∧ Hid (Below w.heap.size w w') := by
  have HA : Hid (EdgesIn lo hi w a (marksE K n)) := ha
  have HH : Hid (hi ≤ w.heap.size) := hh
  clear ha hh
  go_enter Try.func18, Try.ntmps18
  go_wp2_with fail
  refine (heldEdges_any lo hi a n cap K _ (HA.out.below (below1 w _) HH.out) hm hK).mono ?_
  rintro e w1 ⟨rfl, rfl⟩
  obtain ⟨m, HM⟩ : ∃ m : Nat, Hid (m = K + n * 3) := ⟨_, rfl⟩
  rw [← HM.out]
  have hnn : ¬ (m : Int) < 0 := by omega
  go_wp2
  go_ret
  exact ⟨m, rfl, HM, below1 w _⟩

end Go.Proofs.Ytfeimdlkpiacoaa
