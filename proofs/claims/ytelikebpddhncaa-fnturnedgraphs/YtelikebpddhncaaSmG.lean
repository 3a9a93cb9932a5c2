/-
  laws.sameGraph at equal graphs; laws.in.
-/
import Derived.Test.YtelikebpddhncaaGIdx
import Derived.Test.YtelikebpddhncaaNxS
namespace Go.Proofs.Ytelikebpddhncaa
open Go.RowKit

set_option maxRecDepth 100000 in
theorem neq_edge (x0 x1 x2 : Int) (w : World) : (binOp .neq 42 (.agg #[.int .i64 x0, .int .u8 x1, .int .i64 x2]) (.agg #[.int .i64 x0, .int .u8 x1, .int .i64 x2])).run Try.prog w = .ok (.bool false) w := by
  have u3 := Try.underlying3
  have a3 := Try.isAgg3
  have z3 := Try.sizeOf3
  have u5 := Try.underlying5
  have a5 := Try.isAgg5
  have z5 := Try.sizeOf5
  have hS : Try.prog.underlying 42 = some (.struct (Try.prog.fieldsOf 42)) := by kernel_rfl
  have hp : Try.prog.stoodInHeld 42 = false := by kernel_rfl
  rw [run_neq_struct, show (10000 : Nat) = 9999 + 1 from rfl, run_equalIn_agg w 9999 42 _ _ hS hp]
  simp only [Program.fieldsOf, Try.underlying42]
  go_simp
  try simp

set_option maxHeartbeats 2000000 in
set_option maxRecDepth 100000 in
theorem sameGraph_any (lo hi lo' hi' : Nat) (s : Int) (a a' : Option Addr) (n cap cap' : Nat) (l : List Ed) (w : World) (ha : EdgesIn lo hi w a l) (hb : EdgesIn lo' hi' w a' l) (hh : hi ≤ w.heap.size) (hh' : hi' ≤ w.heap.size) (hn : l.length = n) (hm : n ≤ 1048576) :
    Calls Try.prog 29 #[gv s a n cap, gv s a' n cap'] w fun e w' => e = .returned (.bool true) ∧ Hid (Below w.heap.size w w') := by
  have HN : Hid (l.length = n) := hn
  have HA : Hid (EdgesIn lo hi w a l) := ha
  have HBB : Hid (EdgesIn lo' hi' w a' l) := hb
  have HH : Hid (hi ≤ w.heap.size ∧ hi' ≤ w.heap.size) := ⟨hh, hh'⟩
  obtain ⟨B, HB⟩ : ∃ B, Hid (B = w.heap.size) := ⟨_, rfl⟩
  clear ha hb hn hh hh'
  have HK0 : Hid (Blk ((w.alloc (.cells #[.int .i64 s, .slice a n cap] 37)).alloc (.cells #[.int .i64 s, .slice a' n cap'] 37)) B 2 (fun i => if i = 0 then .int .i64 s else .slice a n cap)) := (blk_two w B HB.out _ _ _).alloc _
  have HK1 : Hid (Blk ((w.alloc (.cells #[.int .i64 s, .slice a n cap] 37)).alloc (.cells #[.int .i64 s, .slice a' n cap'] 37)) (B + 1) 2 (fun i => if i = 0 then .int .i64 s else .slice a' n cap')) := blk_two _ (B + 1) (by rw [HB.out]; simp) _ _ _
  go_enter Try.func29, Try.ntmps29
  go_wp2
  rw [← HB.out]
  go_loopw [5] (fun i wr => ∃ k : Nat, i = .int .i64 k ∧ k ≤ n ∧ Hid (Blk wr B 2 (fun i => if i = 0 then .int .i64 s else .slice a n cap)) ∧ Hid (Blk wr (B + 1) 2 (fun i => if i = 0 then .int .i64 s else .slice a' n cap')) ∧ Hid (Below w.heap.size w wr)) (fun i _ => n - (intOf i).toNat)
  case atStart => exact ⟨0, rfl, by omega, HK0, HK1, below2 w _ _⟩
  case round =>
    obtain ⟨k, rfl, hk, HKA, HKB, HL⟩ := hrel
    have q0 : wr.cell? ⟨B, 1, none⟩ = some (.slice a n cap) := HKA.out.cell (i := 1) (by omega)
    have q1 : wr.cell? ⟨B + 1, 1, none⟩ = some (.slice a' n cap') := HKB.out.cell (i := 1) (by omega)
    by_cases hlt : k < n
    · have hlt1 : (k : Int) < (n : Int) := by omega
      have hlt0 : (0 : Int) ≤ (k : Int) := by omega
      obtain ⟨b, o, rfl, _, _, hx⟩ := (HA.out.below HL.out HH.out.1).edge (k := k) (by rw [HN.out]; exact hlt)
      obtain ⟨b', o', rfl, _, _, hx'⟩ := (HBB.out.below HL.out HH.out.2).edge (k := k) (by rw [HN.out]; exact hlt)
      obtain ⟨x, HXX⟩ : ∃ x : Ed, Hid (x = eat l k) := ⟨_, rfl⟩
      rw [← HXX.out] at hx hx'
      obtain ⟨x0, x1, x2⟩ := x
      obtain ⟨p0, p1, p2⟩ := hx
      obtain ⟨p0', p1', p2'⟩ := hx'
      dsimp only at p0 p1 p2 p0' p1' p2'
      have hq := fun w => neq_edge x0 x1 x2 w
      go_wp2
      go_quiet (fail)
      go_wp2
      go_round
      case rel => exact ⟨k + 1, by go_num, by omega, HKA.out.of_block rfl, HKB.out.of_block rfl, below_drewN HL.out _⟩
      case measure => simp [intOf]; omega
    · obtain rfl : k = n := by omega
      go_wp2
      go_ret
      exact ⟨rfl, HL⟩

set_option maxHeartbeats 1000000 in
set_option maxRecDepth 100000 in
theorem in_any (lo hi : Nat) (a : Option Addr) (n cap : Nat) (l : List Int) (x : Int) (w : World) (ha : RowIn lo hi w a l) (hn : l.length = n) (hm : n ≤ 1048576) (hx : x ∈ l) :
    Calls Try.prog 26 #[.slice a n cap, .int .i64 x] w fun e w' => e = .returned (.bool true) ∧ Hid (Below w.heap.size w w') := by
  obtain ⟨j, hj, hjx⟩ := List.getElem_of_mem hx
  rcases ha with h0 | ⟨b, o, rfl, _, _, hc⟩
  · subst h0; simp at hj
  have HC : Hid (∀ i, i < l.length → w.cell? ⟨b, o + i, none⟩ = some (.int .i64 (l.getD i 0))) := fun i hi => hc i hi
  have HJ : Hid (l.getD j 0 = x) := by show _ = _; rw [← hjx]; simp [List.getD, hj]
  have HN : Hid (l.length = n) := hn
  have hj' : j < n := by omega
  clear hc hx hjx hj hn
  go_enter Try.func26, Try.ntmps26
  go_wp2
  go_loop [5] (fun i => ∃ k : Nat, i = .int .i64 k ∧ k ≤ j) (fun i => n - (intOf i).toNat)
  case atStart => exact ⟨0, rfl, by omega⟩
  case round =>
    obtain ⟨k, rfl, hk⟩ := hrel
    have hlt1 : (k : Int) < (n : Int) := by omega
    have hlt0 : (0 : Int) ≤ (k : Int) := by omega
    obtain ⟨z, HZ⟩ : ∃ z : Int, Hid (z = l.getD k 0) := ⟨_, rfl⟩
    have hcell : w.cell? ⟨b, o + k, none⟩ = some (.int .i64 z) := by rw [HZ.out]; exact HC.out k (by rw [HN.out]; omega)
    by_cases he : z = x
    · subst he
      go_wp2
      go_ret
      exact ⟨rfl, Below.refl _ _⟩
    · have hne : k < j := by
        rcases Nat.lt_or_ge k j with h | h
        · exact h
        · obtain rfl : k = j := by omega
          exact absurd (HZ.out.trans HJ.out) he
      go_wp2
      go_round
      case rel => exact ⟨k + 1, by go_num, by omega⟩
      case measure => simp [intOf]; omega
end Go.Proofs.Ytelikebpddhncaa
