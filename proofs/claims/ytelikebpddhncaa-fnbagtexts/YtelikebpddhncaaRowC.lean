/-
  Rows: slices.Equal, the model's RowLess; rows that are right (itemOk, l03Row); how long they are (szIntS, szItem).
-/
import Derived.Test.YtelikebpddhncaaRowB
namespace Go.Proofs.Ytelikebpddhncaa
open Go.RowKit

theorem rowLt_none {l m : List Int} (h : l = []) : rowLt l m = decide (0 < m.length) := by
  subst h; cases m <;> simp [rowLt, cmpRow]

theorem rowLt_of {l m : List Int} {c : Int} (h : cmpRow l m = c) : rowLt l m = decide (c < 0) := by unfold rowLt; rw [h]

set_option maxHeartbeats 1000000 in
set_option maxRecDepth 100000 in
theorem specLess_any_q (lo hi lo' hi' : Nat) (a a' : Option Addr) (n n' cap cap' : Nat) (l l' : List Int) (r : Bool) (w : World) (ha : RowIn lo hi w a l) (hb : RowIn lo' hi' w a' l') (hn : l.length = n) (hn' : l'.length = n') (hm : n ≤ 1048576) (hm' : n' ≤ 1048576) (hr : r = rowLt l l') :
    Calls Try.prog 67 #[.slice a n cap, .slice a' n' cap'] w fun e w' => e = .returned (.bool r) ∧ Drawn w w' := by
  have HN : Hid (l.length = n) := hn
  have HN' : Hid (l'.length = n') := hn'
  have HR : Hid (r = rowLt l l') := hr
  have HA : Hid (RowIn lo hi w a l) := ha
  have HB : Hid (RowIn lo' hi' w a' l') := hb
  clear ha hb hn hn' hr
  go_enter Try.func67, Try.ntmps67
  go_wp2
  go_loopw [5] (fun i wr => ∃ k : Nat, i = .int .i64 k ∧ k ≤ n ∧ k ≤ n' ∧ Hid (cmpRow l l' = cmpRow (l.drop k) (l'.drop k)) ∧ ∃ q, wr = w.drewN q) (fun i _ => n - (intOf i).toNat)
  case atStart => exact ⟨0, rfl, by omega, by omega, rfl, 0, rfl⟩
  case round =>
    obtain ⟨k, rfl, hk, hk', HE, q, rfl⟩ := hrel
    by_cases hlt : k < n
    · have hlt1 : (k : Int) < (n : Int) := by omega
      by_cases hlt' : k < n'
      · have hlt2 : (k : Int) < (n' : Int) := by omega
        obtain ⟨b, o, rfl, _, _, hc⟩ : ∃ b o, a = some ⟨b, o, none⟩ ∧ lo ≤ b ∧ b < hi ∧ ∀ i, i < l.length → w.cell? ⟨b, o + i, none⟩ = some (.int .i64 (l.getD i 0)) := by
          rcases HA.out with rfl | h
          · exact absurd HN.out (by simp; omega)
          · exact h
        obtain ⟨b', o', rfl, _, _, hc'⟩ : ∃ b o, a' = some ⟨b, o, none⟩ ∧ lo' ≤ b ∧ b < hi' ∧ ∀ i, i < l'.length → w.cell? ⟨b, o + i, none⟩ = some (.int .i64 (l'.getD i 0)) := by
          rcases HB.out with rfl | h
          · exact absurd HN'.out (by simp; omega)
          · exact h
        have hca := hc k (by rw [HN.out]; exact hlt)
        have hcb := hc' k (by rw [HN'.out]; exact hlt')
        clear hc hc'
        obtain ⟨x, hx⟩ : ∃ x, x = l.getD k 0 := ⟨_, rfl⟩
        obtain ⟨y, hy⟩ : ∃ y, y = l'.getD k 0 := ⟨_, rfl⟩
        rw [← hx] at hca
        rw [← hy] at hcb
        have HS : Hid (cmpRow l l' = if x < y then -1 else if y < x then 1 else cmpRow (l.drop (k + 1)) (l'.drop (k + 1))) := by
          show _ = _
          rw [HE.out, cmpRow_step (by rw [HN.out]; exact hlt) (by rw [HN'.out]; exact hlt'), ← hx, ← hy]
        clear hx hy
        by_cases hxy : x = y
        · subst hxy
          go_wp2_with fail
          go_quiet (fail)
          go_wp2
          go_roundw
          case rel => exact ⟨k + 1, by go_num, by omega, by omega, by show _ = _; rw [HS.out, if_neg (by omega), if_neg (by omega)], _, rfl⟩
          case measure => simp [intOf]; omega
        · by_cases h1 : x < y
          · have hd : decide (x < y) = true := decide_eq_true h1
            go_wp2_with fail
            go_quiet (fail)
            go_wp2_with fail
            go_quiet (fail)
            go_wp2
            go_ret
            refine ⟨?_, (((Drawn.refl _).drewN _).drewN _).drewN _⟩
            rw [HR.out, rowLt_of (c := -1) (by rw [HS.out, if_pos (by omega)])]; rfl
          · have hd : decide (x < y) = false := decide_eq_false h1
            go_wp2_with fail
            go_quiet (fail)
            go_wp2_with fail
            go_quiet (fail)
            go_wp2
            go_ret
            refine ⟨?_, (((Drawn.refl _).drewN _).drewN _).drewN _⟩
            rw [HR.out, rowLt_of (c := 1) (by rw [HS.out, if_neg (by omega), if_pos (by omega)])]; rfl
      · have hd : decide ((n : Int) < (n' : Int)) = false := by simp; omega
        have hd2 : decide ((k : Int) < (n' : Int)) = false := by simp; omega
        have hd3 : decide (n < n') = false := by simp; omega
        go_wp2
        go_ret
        refine ⟨?_, (Drawn.refl _).drewN _⟩
        rw [HR.out, rowLt_of (c := 1) (by rw [HE.out, cmpRow_behind (by rw [HN.out]; exact hlt) (by rw [HN'.out]; omega)])]; rfl
    · by_cases hlt' : n < n'
      · have hd : decide ((n : Int) < (n' : Int)) = true := by simp; omega
        go_wp2
        go_ret
        refine ⟨?_, (Drawn.refl _).drewN _⟩
        rw [HR.out, rowLt_of (c := -1) (by rw [HE.out, cmpRow_end (by rw [HN.out]; omega) (by rw [HN'.out]; omega)])]; rfl
      · have hd : decide ((n : Int) < (n' : Int)) = false := by simp; omega
        go_wp2
        go_ret
        refine ⟨?_, (Drawn.refl _).drewN _⟩
        rw [HR.out, rowLt_of (c := 0) (by rw [HE.out, cmpRow_both (by rw [HN.out]; omega) (by rw [HN'.out]; omega)])]; rfl

theorem specLess_any (lo hi lo' hi' : Nat) (a a' : Option Addr) (n n' cap cap' : Nat) (l l' : List Int) (r : Bool) (w : World) (ha : RowIn lo hi w a l) (hb : RowIn lo' hi' w a' l') (hn : l.length = n) (hn' : l'.length = n') (hm : n ≤ 1048576) (hm' : n' ≤ 1048576) (hr : r = rowLt l l') :
    Calls Try.prog 67 #[.slice a n cap, .slice a' n' cap'] w fun e w' => e = .returned (.bool r) ∧ Below w.heap.size w w' :=
  (specLess_any_q lo hi lo' hi' a a' n n' cap cap' l l' r w ha hb hn hn' hm hm' hr).mono fun _ _ h => ⟨h.1, h.2.below⟩

set_option maxHeartbeats 400000 in
theorem l01In_any (x lo hi : Int) (w : World) : Calls Try.prog 66 #[.int .i64 x, .int .i64 lo, .int .i64 hi] w fun e w' => e = .returned (.bool (decide (lo ≤ x) && decide (x ≤ hi))) ∧ w = w' := by
  by_cases h1 : lo ≤ x
  · have hd1 : decide (lo ≤ x) = true := decide_eq_true h1
    by_cases h2 : x ≤ hi
    · have hd : decide (x ≤ hi) = true := decide_eq_true h2
      rw [hd1, hd]
      go_enter Try.func66, Try.ntmps66
      go_wp2
      go_ret
      exact ⟨rfl, rfl⟩
    · have hd : decide (x ≤ hi) = false := decide_eq_false h2
      rw [hd1, hd]
      go_enter Try.func66, Try.ntmps66
      go_wp2
      go_ret
      exact ⟨rfl, rfl⟩
  · have hd1 : decide (lo ≤ x) = false := decide_eq_false h1
    rw [hd1]
    go_enter Try.func66, Try.ntmps66
    go_wp2
    go_ret
    exact ⟨by simp, rfl⟩

/-- the numbers of a row are right -/
def okNums (l : List Int) : Bool := l.all fun x => decide (0 ≤ x) && decide (x ≤ 99)
/-- a row is right -/
def okRow (l : List Int) : Bool := okNums l && decide (l.length ≤ 4)
/-- an item is right -/
def okItem (l : List Int) (t : Int) : Bool := okRow l && (decide (1 ≤ t) && decide (t ≤ 1000000))

theorem okNums_step {l : List Int} {k : Nat} (h : k < l.length) : okNums (l.drop k) = ((decide (0 ≤ l.getD k 0) && decide (l.getD k 0 ≤ 99)) && okNums (l.drop (k + 1))) := by
  have e : l.getD k 0 = l[k] := by simp [List.getD, h]
  rw [e, List.drop_eq_getElem_cons h]; rfl
theorem okNums_end {l : List Int} {k : Nat} (h : l.length ≤ k) : okNums (l.drop k) = true := by
  rw [List.drop_eq_nil_of_le h]; rfl

set_option maxHeartbeats 1000000 in
set_option maxRecDepth 100000 in
theorem l03Row_any (lo hi : Nat) (a : Option Addr) (n cap : Nat) (l : List Int) (w : World) (ha : RowIn lo hi w a l) (hn : l.length = n) (hm : n ≤ 1048576) :
    Calls Try.prog 65 #[.slice a n cap] w fun e w' => e = .returned (.bool (okRow l)) ∧ w = w' := by
  have HN : Hid (l.length = n) := hn
  have HA : Hid (RowIn lo hi w a l) := ha
  clear ha hn
  go_enter Try.func65, Try.ntmps65
  go_wp2
  go_loop [3] (fun i => ∃ k : Nat, i = .int .i64 k ∧ k ≤ n ∧ Hid (okNums l = okNums (l.drop k))) (fun i => n - (intOf i).toNat)
  case atStart => exact ⟨0, rfl, by omega, rfl⟩
  case round =>
    obtain ⟨k, rfl, hk, HE⟩ := hrel
    by_cases hlt : k < n
    · have hlt1 : (k : Int) < (n : Int) := by omega
      obtain ⟨b, o, rfl, _, _, hc⟩ : ∃ b o, a = some ⟨b, o, none⟩ ∧ lo ≤ b ∧ b < hi ∧ ∀ i, i < l.length → w.cell? ⟨b, o + i, none⟩ = some (.int .i64 (l.getD i 0)) := by
        rcases HA.out with rfl | h
        · exact absurd HN.out (by simp; omega)
        · exact h
      have hca := hc k (by rw [HN.out]; exact hlt)
      clear hc
      obtain ⟨x, hx⟩ : ∃ x, x = l.getD k 0 := ⟨_, rfl⟩
      rw [← hx] at hca
      have HS : Hid (okNums l = ((decide (0 ≤ x) && decide (x ≤ 99)) && okNums (l.drop (k + 1)))) := by
        show _ = _
        rw [HE.out, okNums_step (by rw [HN.out]; exact hlt), ← hx]
      clear hx
      go_wp2_with fail
      refine (l01In_any x 0 99 w).mono ?_
      rintro e w' ⟨rfl, rfl⟩
      rcases hv : (decide (0 ≤ x) && decide (x ≤ 99)) with _ | _
      · go_wp2
        go_ret
        refine ⟨?_, rfl⟩
        unfold okRow; rw [HS.out, hv]; rfl
      · go_wp2
        go_roundw
        case rel => exact ⟨k + 1, by go_num, by omega, by show _ = _; rw [HS.out, hv, Bool.true_and]⟩
        case measure => simp [intOf]; omega
    · by_cases h4 : n ≤ 4
      · have hd : decide ((n : Int) ≤ 4) = true := by simp; omega
        go_wp2
        go_ret
        refine ⟨?_, rfl⟩
        unfold okRow; rw [HE.out, okNums_end (by rw [HN.out]; omega), HN.out]; simp; omega
      · have hd : decide ((n : Int) ≤ 4) = false := by simp; omega
        go_wp2
        go_ret
        refine ⟨?_, rfl⟩
        unfold okRow; rw [HE.out, okNums_end (by rw [HN.out]; omega), HN.out]; simp; omega
end Go.Proofs.Ytelikebpddhncaa
