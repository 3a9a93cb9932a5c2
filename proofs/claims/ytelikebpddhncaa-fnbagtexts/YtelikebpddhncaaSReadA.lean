/-
  impl.ReadVar.
-/
import Derived.Test.YtelikebpddhncaaSVar
import Derived.Test.YtelikebpddhncaaSNum
namespace Go.Proofs.Ytelikebpddhncaa.sp
open Go.RowKit

def rdRes : Option (Nat × Nat) → Value
  | none => .tuple #[.int .i64 0, .int .i64 0, .bool false]
  | some x => .tuple #[.int .i64 (x.1 : Int), .int .i64 (x.2 : Int), .bool true]

/-- at the head of each round: j bytes are behind -/
def RdRel (s : ByteArray) (a : Nat) (j : Nat) (n : Nat) : Prop :=
  a + j ≤ s.size ∧ j ≤ 5 ∧ n < 128 ^ j ∧ rd (5 - j) n (128 ^ j) j (s.data.toList.drop (a + j)) = rd 5 0 1 0 (s.data.toList.drop a)

theorem RdRel.next {s : ByteArray} {a j m : Nat} (h : RdRel s a j m) (hj : j < 5) (hlt : a + j < s.size) (hb : (127 : Int) < (s[a + j].toNat : Int)) : RdRel s a (j + 1) (m + s[a + j].toNat % 128 * 128 ^ j) := by
  obtain ⟨h1, h2, h3, h4⟩ := h
  refine ⟨by omega, by omega, ?_, ?_⟩
  · rw [Nat.pow_succ]
    have : s[a + j].toNat % 128 * 128 ^ j ≤ 127 * 128 ^ j := Nat.mul_le_mul_right _ (by omega)
    omega
  · rw [← h4, show 5 - j = (5 - (j + 1)) + 1 by omega, rd_cons _ _ _ _ _ _ (by simpa using hlt), if_neg (by show ¬ s[a + j].toNat < 128; omega)]
    rw [Nat.pow_succ]; rfl

theorem RdRel.none_of {s : ByteArray} {a j m : Nat} (h : RdRel s a j m) (hj : j < 5) (hlt : a + j < s.size) (hb : (s[a + j].toNat : Int) ≤ 127) (hn : (s[a + j].toNat = 0 ∧ 0 < j) ∨ 1000000000 < m + s[a + j].toNat % 128 * 128 ^ j) : rdv s a = none := by
  obtain ⟨h1, h2, h3, h4⟩ := h
  unfold rdv
  rw [← h4, show 5 - j = (5 - (j + 1)) + 1 by omega, rd_cons _ _ _ _ _ _ (by simpa using hlt), if_pos (by show s[a + j].toNat < 128; omega), if_pos (by exact hn)]
  rfl

theorem RdRel.some_of {s : ByteArray} {a j m : Nat} (h : RdRel s a j m) (hj : j < 5) (hlt : a + j < s.size) (hb : (s[a + j].toNat : Int) ≤ 127) (hn : ¬ ((s[a + j].toNat = 0 ∧ 0 < j) ∨ 1000000000 < m + s[a + j].toNat % 128 * 128 ^ j)) : rdv s a = some (m + s[a + j].toNat % 128 * 128 ^ j, a + (j + 1)) := by
  obtain ⟨h1, h2, h3, h4⟩ := h
  unfold rdv
  rw [← h4, show 5 - j = (5 - (j + 1)) + 1 by omega, rd_cons _ _ _ _ _ _ (by simpa using hlt), if_pos (by show s[a + j].toNat < 128; omega), if_neg (by exact hn)]
  rfl

theorem RdRel.at_end {s : ByteArray} {a j m : Nat} (h : RdRel s a j m) (hlt : ¬ a + j < s.size) : rdv s a = none := by
  obtain ⟨h1, h2, h3, h4⟩ := h
  unfold rdv
  rw [← h4, rd_end _ _ _ _ _ _ (by have : s.data.size = s.size := rfl; simp; omega)]
  rfl

theorem RdRel.at_five {s : ByteArray} {a m : Nat} (h : RdRel s a 5 m) : rdv s a = none := by
  obtain ⟨h1, h2, h3, h4⟩ := h
  unfold rdv
  rw [← h4]
  rfl

theorem ret_none {s : ByteArray} {a : Nat} (h : rdv s a = none) : Ending.returned (.tuple #[.int .i64 0, .int .i64 0, .bool false]) = .returned (rdRes (rdv s a)) := by rw [h]; rfl
theorem ret_some {s : ByteArray} {a x y : Nat} {n p : Int} (h : rdv s a = some (x, y)) (hn : n = x) (hp : p = y) : Ending.returned (.tuple #[.int .i64 n, .int .i64 p, .bool true]) = .returned (rdRes (rdv s a)) := by rw [h, hn, hp]; rfl

set_option maxHeartbeats 1000000 in
set_option maxRecDepth 100000 in
theorem ReadVar_any (s : ByteArray) (a : Nat) (w : World) (hs : s.size ≤ 1048576) (ha : a ≤ s.size) :
    Calls Try.prog 95 #[.string s, .int .i64 a] w fun e w' => e = .returned (rdRes (rdv s a)) ∧ Below w.heap.size w w' := by
  have h0 : ¬ (a : Int) < 0 := by omega
  go_enter Try.func95, Try.ntmps95
  go_wp2
  go_loop [7, 8, 9] (fun n sh p => ∃ j m : Nat, n = .int .i64 m ∧ sh = .int .i64 (7 * j : Nat) ∧ p = .int .i64 (a + j : Nat) ∧ RdRel s a j m) (fun _ _ p => s.size + 5 - (intOf p).toNat)
  case atStart => exact ⟨0, 0, rfl, rfl, rfl, ha, by omega, by simp, rfl⟩
  case round =>
    obtain ⟨j, m, rfl, rfl, rfl, hR⟩ := hrel
    have hj5 := hR.2.1
    by_cases hlt : a + j < s.size
    · rcases (show j = 0 ∨ j = 1 ∨ j = 2 ∨ j = 3 ∨ j = 4 ∨ j = 5 by omega) with rfl | rfl | rfl | rfl | rfl | rfl
      · have HR : Hid (RdRel s a 0 m) := hR
        clear hR
        simp only [Nat.add_zero] at hlt
        have hm : m < 1 := HR.out.2.2.1
        have hc : (s[a].toNat : Int) < 256 := by have := s[a].toNat_lt; omega
        go_wp2
        all_goals first
          | (go_round; (case rel => exact ⟨1, m + s[a].toNat % 128 * 128 ^ 0, by go_num, by go_num, by go_num, HR.out.next (by omega) (by exact hlt) (by assumption)⟩); (case measure => simp [intOf]; omega))
          | (have hN : rdv s a = none := HR.out.none_of (by omega) (by exact hlt) (by assumption) (by show (s[a].toNat = 0 ∧ 0 < 0) ∨ 1000000000 < m + s[a].toNat % 128 * 128 ^ 0; simp only [Nat.reducePow]; omega); go_ret3; exact ⟨ret_none hN, Below.refl _ _⟩)
          | (have hS : rdv s a = some (m + s[a].toNat % 128 * 128 ^ 0, a + 1) := HR.out.some_of (by omega) (by exact hlt) (by assumption) (by show ¬ ((s[a].toNat = 0 ∧ 0 < 0) ∨ 1000000000 < m + s[a].toNat % 128 * 128 ^ 0); simp only [Nat.reducePow]; omega); go_ret3; exact ⟨ret_some hS (by simp only [Nat.reducePow]; omega) (by omega), Below.refl _ _⟩)
      · have HR : Hid (RdRel s a 1 m) := hR
        clear hR
        have hm : m < 128 := HR.out.2.2.1
        have hc : (s[a + 1].toNat : Int) < 256 := by have := s[a + 1].toNat_lt; omega
        go_wp2
        all_goals first
          | (go_round; (case rel => exact ⟨2, m + s[a + 1].toNat % 128 * 128 ^ 1, by go_num, by go_num, by go_num, HR.out.next (by omega) (by exact hlt) (by assumption)⟩); (case measure => simp [intOf]; omega))
          | (have hN : rdv s a = none := HR.out.none_of (by omega) (by exact hlt) (by assumption) (by show (s[a + 1].toNat = 0 ∧ 0 < 1) ∨ 1000000000 < m + s[a + 1].toNat % 128 * 128 ^ 1; simp only [Nat.reducePow]; omega); go_ret3; exact ⟨ret_none hN, Below.refl _ _⟩)
          | (have hS := HR.out.some_of (by omega) (by exact hlt) (by assumption) (by show ¬ ((s[a + 1].toNat = 0 ∧ 0 < 1) ∨ 1000000000 < m + s[a + 1].toNat % 128 * 128 ^ 1); simp only [Nat.reducePow]; omega); go_ret3; exact ⟨ret_some hS (by simp only [Nat.reducePow]; omega) (by omega), Below.refl _ _⟩)
      · have HR : Hid (RdRel s a 2 m) := hR
        clear hR
        have hm : m < 16384 := HR.out.2.2.1
        have hc : (s[a + 2].toNat : Int) < 256 := by have := s[a + 2].toNat_lt; omega
        go_wp2
        all_goals first
          | (go_round; (case rel => exact ⟨3, m + s[a + 2].toNat % 128 * 128 ^ 2, by go_num, by go_num, by go_num, HR.out.next (by omega) (by exact hlt) (by assumption)⟩); (case measure => simp [intOf]; omega))
          | (have hN : rdv s a = none := HR.out.none_of (by omega) (by exact hlt) (by assumption) (by show (s[a + 2].toNat = 0 ∧ 0 < 2) ∨ 1000000000 < m + s[a + 2].toNat % 128 * 128 ^ 2; simp only [Nat.reducePow]; omega); go_ret3; exact ⟨ret_none hN, Below.refl _ _⟩)
          | (have hS := HR.out.some_of (by omega) (by exact hlt) (by assumption) (by show ¬ ((s[a + 2].toNat = 0 ∧ 0 < 2) ∨ 1000000000 < m + s[a + 2].toNat % 128 * 128 ^ 2); simp only [Nat.reducePow]; omega); go_ret3; exact ⟨ret_some hS (by simp only [Nat.reducePow]; omega) (by omega), Below.refl _ _⟩)
      · have HR : Hid (RdRel s a 3 m) := hR
        clear hR
        have hm : m < 2097152 := HR.out.2.2.1
        have hc : (s[a + 3].toNat : Int) < 256 := by have := s[a + 3].toNat_lt; omega
        go_wp2
        all_goals first
          | (go_round; (case rel => exact ⟨4, m + s[a + 3].toNat % 128 * 128 ^ 3, by go_num, by go_num, by go_num, HR.out.next (by omega) (by exact hlt) (by assumption)⟩); (case measure => simp [intOf]; omega))
          | (have hN : rdv s a = none := HR.out.none_of (by omega) (by exact hlt) (by assumption) (by show (s[a + 3].toNat = 0 ∧ 0 < 3) ∨ 1000000000 < m + s[a + 3].toNat % 128 * 128 ^ 3; simp only [Nat.reducePow]; omega); go_ret3; exact ⟨ret_none hN, Below.refl _ _⟩)
          | (have hS := HR.out.some_of (by omega) (by exact hlt) (by assumption) (by show ¬ ((s[a + 3].toNat = 0 ∧ 0 < 3) ∨ 1000000000 < m + s[a + 3].toNat % 128 * 128 ^ 3); simp only [Nat.reducePow]; omega); go_ret3; exact ⟨ret_some hS (by simp only [Nat.reducePow]; omega) (by omega), Below.refl _ _⟩)
      · have HR : Hid (RdRel s a 4 m) := hR
        clear hR
        have hm : m < 268435456 := HR.out.2.2.1
        have hc : (s[a + 4].toNat : Int) < 256 := by have := s[a + 4].toNat_lt; omega
        go_wp2
        all_goals first
          | (go_round; (case rel => exact ⟨5, m + s[a + 4].toNat % 128 * 128 ^ 4, by go_num, by go_num, by go_num, HR.out.next (by omega) (by exact hlt) (by assumption)⟩); (case measure => simp [intOf]; omega))
          | (have hN : rdv s a = none := HR.out.none_of (by omega) (by exact hlt) (by assumption) (by show (s[a + 4].toNat = 0 ∧ 0 < 4) ∨ 1000000000 < m + s[a + 4].toNat % 128 * 128 ^ 4; simp only [Nat.reducePow]; omega); go_ret3; exact ⟨ret_none hN, Below.refl _ _⟩)
          | (have hS := HR.out.some_of (by omega) (by exact hlt) (by assumption) (by show ¬ ((s[a + 4].toNat = 0 ∧ 0 < 4) ∨ 1000000000 < m + s[a + 4].toNat % 128 * 128 ^ 4); simp only [Nat.reducePow]; omega); go_ret3; exact ⟨ret_some hS (by simp only [Nat.reducePow]; omega) (by omega), Below.refl _ _⟩)
      · have HR : Hid (rdv s a = none) := hR.at_five
        clear hR
        go_wp2
        go_ret3
        exact ⟨by rw [HR.out]; rfl, Below.refl _ _⟩
    · have HR : Hid (rdv s a = none) := hR.at_end hlt
      clear hR
      go_wp2
      go_ret3
      exact ⟨by rw [HR.out]; rfl, Below.refl _ _⟩
end Go.Proofs.Ytelikebpddhncaa.sp
