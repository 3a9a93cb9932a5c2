/-
  Rows held against one another (slices.Compare, RowLess), rows that are right (itemOk, l03Row), how long they are (szIntS, szItem).
-/
import Derived.Test.YtelikebpddhncaaRow
namespace Go.Proofs.Ytelikebpddhncaa
open Go.RowKit

/-- -1, 0 or 1: a row ahead of another, the same, behind it -/
def cmpRow : List Int → List Int → Int
  | [], [] => 0
  | [], _ :: _ => -1
  | _ :: _, [] => 1
  | x :: xs, y :: ys => if x < y then -1 else if y < x then 1 else cmpRow xs ys

/-- a row ahead of another -/
def rowLt (l m : List Int) : Bool := decide (cmpRow l m < 0)

theorem cmpRow_step {l m : List Int} {k : Nat} (h : k < l.length) (h' : k < m.length) :
    cmpRow (l.drop k) (m.drop k) = if l.getD k 0 < m.getD k 0 then -1 else if m.getD k 0 < l.getD k 0 then 1 else cmpRow (l.drop (k + 1)) (m.drop (k + 1)) := by
  rw [List.drop_eq_getElem_cons h, List.drop_eq_getElem_cons h']
  simp [cmpRow, List.getD, h, h']

theorem cmpRow_behind {l m : List Int} {k : Nat} (h : k < l.length) (h' : m.length ≤ k) : cmpRow (l.drop k) (m.drop k) = 1 := by
  rw [List.drop_eq_getElem_cons h, List.drop_eq_nil_of_le h']
  simp [cmpRow]

theorem cmpRow_end {l m : List Int} {k : Nat} (h : l.length ≤ k) (h' : k < m.length) : cmpRow (l.drop k) (m.drop k) = -1 := by
  rw [List.drop_eq_nil_of_le h, List.drop_eq_getElem_cons h']
  simp [cmpRow]

theorem cmpRow_both {l m : List Int} {k : Nat} (h : l.length ≤ k) (h' : m.length ≤ k) : cmpRow (l.drop k) (m.drop k) = 0 := by
  rw [List.drop_eq_nil_of_le h, List.drop_eq_nil_of_le h']
  rfl

set_option maxHeartbeats 400000 in
theorem isNaN_any (x : Int) (w : World) : Calls Try.prog 125 #[.int .i64 x] w fun e w' => e = .returned (.bool false) ∧ w = w' := by
  go_enter Try.func125, Try.ntmps125
  go_wp2
  go_ret
  exact ⟨rfl, rfl⟩

/-- of two ints -/
def cmpI (x y : Int) : Int := if x < y then -1 else if y < x then 1 else 0

set_option maxHeartbeats 400000 in
theorem compare_any (x y : Int) (w : World) : Calls Try.prog 108 #[.int .i64 x, .int .i64 y] w fun e w' => e = .returned (.int .i64 (cmpI x y)) ∧ w = w' := by
  by_cases h1 : x < y
  · have hd : decide (x < y) = true := decide_eq_true h1
    have hr : cmpI x y = -1 := by unfold cmpI; rw [if_pos h1]
    rw [hr]
    clear hr
    go_enter Try.func108, Try.ntmps108
    go_wp2_with fail
    refine (isNaN_any x w).mono ?_
    rintro e w' ⟨rfl, rfl⟩
    go_wp2_with fail
    refine (isNaN_any y w).mono ?_
    rintro e w' ⟨rfl, rfl⟩
    go_wp2
    go_ret
    exact ⟨rfl, rfl⟩
  · have hd : decide (x < y) = false := decide_eq_false h1
    by_cases h2 : y < x
    · have hd2 : decide (y < x) = true := decide_eq_true h2
      have hr : cmpI x y = 1 := by unfold cmpI; rw [if_neg h1, if_pos h2]
      rw [hr]
      clear hr
      go_enter Try.func108, Try.ntmps108
      go_wp2_with fail
      refine (isNaN_any x w).mono ?_
      rintro e w' ⟨rfl, rfl⟩
      go_wp2_with fail
      refine (isNaN_any y w).mono ?_
      rintro e w' ⟨rfl, rfl⟩
      go_wp2
      go_ret
      exact ⟨rfl, rfl⟩
    · have hd2 : decide (y < x) = false := decide_eq_false h2
      have hr : cmpI x y = 0 := by unfold cmpI; rw [if_neg h1, if_neg h2]
      rw [hr]
      clear hr
      go_enter Try.func108, Try.ntmps108
      go_wp2_with fail
      refine (isNaN_any x w).mono ?_
      rintro e w' ⟨rfl, rfl⟩
      go_wp2_with fail
      refine (isNaN_any y w).mono ?_
      rintro e w' ⟨rfl, rfl⟩
      go_wp2
      go_ret
      exact ⟨rfl, rfl⟩

theorem cmpRow_none {l m : List Int} (h : l = []) : cmpRow l m = if 0 < m.length then -1 else 0 := by
  subst h; cases m <;> simp [cmpRow]

set_option maxHeartbeats 1000000 in
set_option maxRecDepth 100000 in
theorem cmpRows_any (lo hi lo' hi' : Nat) (a a' : Option Addr) (n n' cap cap' : Nat) (l l' : List Int) (w : World) (ha : RowIn lo hi w a l) (hb : RowIn lo' hi' w a' l') (hn : l.length = n) (hn' : l'.length = n') (hm : n ≤ 1048576) (hm' : n' ≤ 1048576) :
    Calls Try.prog 101 #[.slice a n cap, .slice a' n' cap'] w fun e w' => (∃ r : Int, e = .returned (.int .i64 r) ∧ Hid (r = cmpRow l l')) ∧ w = w' := by
  have HN : Hid (l.length = n) := hn
  have HN' : Hid (l'.length = n') := hn'
  by_cases h0 : n = 0
  · have hl : l = [] := List.length_eq_zero_iff.1 (by omega)
    have HR : Hid (cmpRow l l' = if 0 < n' then -1 else 0) := by rw [← hn']; exact cmpRow_none hl
    subst h0
    clear ha hb hl hn hn'
    by_cases hp : 0 < n'
    · have hd : decide ((0 : Int) < (n' : Int)) = true := by simp; omega
      go_enter Try.func101, Try.ntmps101
      go_wp2
      go_loop [11] (fun i => i = .int .i64 0) (fun _ => 0)
      case atStart => rfl
      case round =>
        subst hrel
        go_wp2
        go_ret
        exact ⟨⟨-1, rfl, by rw [HR.out, if_pos hp]; rfl⟩, rfl⟩
    · have hd : decide ((0 : Int) < (n' : Int)) = false := by simp; omega
      go_enter Try.func101, Try.ntmps101
      go_wp2
      go_loop [11] (fun i => i = .int .i64 0) (fun _ => 0)
      case atStart => rfl
      case round =>
        subst hrel
        go_wp2
        go_ret
        exact ⟨⟨0, rfl, by rw [HR.out, if_neg hp]; rfl⟩, rfl⟩
  · obtain ⟨b, o, rfl, _, _, hc⟩ : ∃ b o, a = some ⟨b, o, none⟩ ∧ lo ≤ b ∧ b < hi ∧ ∀ i, i < l.length → w.cell? ⟨b, o + i, none⟩ = some (.int .i64 (l.getD i 0)) := by
      rcases ha with rfl | h
      · exact absurd HN.out (by simp; omega)
      · exact h
    have HC : Hid (∀ i, i < n → w.cell? ⟨b, o + i, none⟩ = some (.int .i64 (l.getD i 0))) := by intro i hi; exact hc i (by omega)
    have HB : Hid (RowIn lo' hi' w a' l') := hb
    clear ha hb hc hn hn'
    go_enter Try.func101, Try.ntmps101
    go_wp2
    go_loop [11] (fun i => ∃ k : Nat, i = .int .i64 k ∧ k ≤ n ∧ k ≤ n' ∧ Hid (cmpRow l l' = cmpRow (l.drop k) (l'.drop k))) (fun i => n - (intOf i).toNat)
    case atStart => exact ⟨0, rfl, by omega, by omega, rfl⟩
    case round =>
      obtain ⟨k, rfl, hk, hk', HE⟩ := hrel
      by_cases hlt : k < n
      · have hca := HC.out k hlt
        obtain ⟨x, hx⟩ : ∃ x, x = l.getD k 0 := ⟨_, rfl⟩
        rw [← hx] at hca
        have HX : Hid (x = l.getD k 0) := hx
        clear hx
        have hlt1 : (k : Int) < (n : Int) := by omega
        by_cases hlt' : k < n'
        · obtain ⟨b', o', rfl, _, _, hc'⟩ : ∃ b o, a' = some ⟨b, o, none⟩ ∧ lo' ≤ b ∧ b < hi' ∧ ∀ i, i < l'.length → w.cell? ⟨b, o + i, none⟩ = some (.int .i64 (l'.getD i 0)) := by
            rcases HB.out with rfl | h
            · exact absurd HN'.out (by simp; omega)
            · exact h
          have hcb := hc' k (by rw [HN'.out]; exact hlt')
          clear hc'
          obtain ⟨y, hy⟩ : ∃ y, y = l'.getD k 0 := ⟨_, rfl⟩
          rw [← hy] at hcb
          have HY : Hid (y = l'.getD k 0) := hy
          clear hy
          have hg : ¬ (n' : Int) ≤ (k : Int) := by omega
          have HS : Hid (cmpRow l l' = if x < y then -1 else if y < x then 1 else cmpRow (l.drop (k + 1)) (l'.drop (k + 1))) := by
            show _ = _
            rw [HE.out, cmpRow_step (by rw [HN.out]; exact hlt) (by rw [HN'.out]; exact hlt'), ← HX.out, ← HY.out]
          go_wp2_with fail
          refine (compare_any x y w).mono ?_
          rintro e w' ⟨rfl, rfl⟩
          by_cases h1 : x < y
          · have hr : cmpI x y = -1 := by unfold cmpI; rw [if_pos h1]
            rw [hr]
            go_wp2
            go_ret
            exact ⟨⟨-1, rfl, by show _ = _; rw [HS.out, if_pos h1]⟩, rfl⟩
          · by_cases h2 : y < x
            · have hr : cmpI x y = 1 := by unfold cmpI; rw [if_neg h1, if_pos h2]
              rw [hr]
              go_wp2
              go_ret
              exact ⟨⟨1, rfl, by show _ = _; rw [HS.out, if_neg (by omega), if_pos (by omega)]⟩, rfl⟩
            · have hr : cmpI x y = 0 := by unfold cmpI; rw [if_neg h1, if_neg h2]
              rw [hr]
              go_wp2
              go_roundw
              case rel => exact ⟨k + 1, by go_num, by omega, by omega, by show _ = _; rw [HS.out, if_neg (by omega), if_neg (by omega)]⟩
              case measure => simp [intOf]; omega
        · have hg : (n' : Int) ≤ (k : Int) := by omega
          go_wp2
          go_ret
          exact ⟨⟨1, rfl, by show _ = _; rw [HE.out, cmpRow_behind (by rw [HN.out]; exact hlt) (by rw [HN'.out]; omega)]⟩, rfl⟩
      · by_cases hlt' : n < n'
        · have hd : decide ((n : Int) < (n' : Int)) = true := by simp; omega
          go_wp2
          go_ret
          exact ⟨⟨-1, rfl, by show _ = _; rw [HE.out, cmpRow_end (by rw [HN.out]; omega) (by rw [HN'.out]; omega)]⟩, rfl⟩
        · have hd : decide ((n : Int) < (n' : Int)) = false := by simp; omega
          go_wp2
          go_ret
          exact ⟨⟨0, rfl, by show _ = _; rw [HE.out, cmpRow_both (by rw [HN.out]; omega) (by rw [HN'.out]; omega)]⟩, rfl⟩

set_option maxHeartbeats 400000 in
theorem rowLess_any (lo hi lo' hi' : Nat) (a a' : Option Addr) (n n' cap cap' : Nat) (l l' : List Int) (w : World) (ha : RowIn lo hi w a l) (hb : RowIn lo' hi' w a' l') (hn : l.length = n) (hn' : l'.length = n') (hm : n ≤ 1048576) (hm' : n' ≤ 1048576) :
    Calls Try.prog 69 #[.slice a n cap, .slice a' n' cap'] w fun e w' => e = .returned (.bool (rowLt l l')) ∧ w = w' := by
  have hc := cmpRows_any lo hi lo' hi' a a' n n' cap cap' l l' w ha hb hn hn' hm hm'
  clear ha hb hn hn'
  go_enter Try.func69, Try.ntmps69
  go_wp2_with fail
  refine hc.mono ?_
  rintro e w' ⟨⟨r, rfl, HR⟩, rfl⟩
  go_wp2
  go_ret
  exact ⟨by unfold rowLt; rw [← HR.out]; rfl, rfl⟩
end Go.Proofs.Ytelikebpddhncaa
