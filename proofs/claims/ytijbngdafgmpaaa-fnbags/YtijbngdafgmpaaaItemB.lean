/-
  Lists of items: how long they are (szItemS, szBag), made new (toItemS, toBag), held against one another (eqItemS, eqBag); lists of items that are owned.
-/
import Derived.Test.YtijbngdafgmpaaaItemA
import Derived.Laws.MakeOwn
namespace Go.Proofs.Ytijbngdafgmpaaa
open Go.RowKit

/-- the item at a place -/
abbrev at' (l : List It) (i : Nat) : It := l.getD i ([], 0)
/-- the numbers of all rows ahead of place k -/
def rowsLen (l : List It) : Nat → Nat
  | 0 => 0
  | k + 1 => rowsLen l k + (at' l k).1.length
theorem rowsLen_mono (l : List It) {i k : Nat} (h : i ≤ k) : rowsLen l i ≤ rowsLen l k := by
  induction k with
  | zero => obtain rfl : i = 0 := by omega
            exact Nat.le_refl _
  | succ k ih =>
    rcases Nat.lt_or_ge i (k + 1) with h1 | h1
    · have := ih (by omega); simp [rowsLen]; omega
    · obtain rfl : i = k + 1 := by omega
      exact Nat.le_refl _
theorem row_le (l : List It) {i k : Nat} (h : i < k) : (at' l i).1.length ≤ rowsLen l k := by
  have := rowsLen_mono l (i := i + 1) (k := k) (by omega)
  simp only [rowsLen] at this
  omega

set_option maxHeartbeats 1000000 in
set_option maxRecDepth 100000 in
theorem szItems_any (lo hi : Nat) (a : Option Addr) (n cap L : Nat) (l : List It) (w : World) (ha : BagIn lo hi w a l) (hh : hi ≤ w.heap.size) (hn : l.length = n) (hm : n ≤ maxLen) (hr : ∀ i, i < n → (at' l i).1.length ≤ maxLen) (hL : L ≤ 1048576) :
    Calls Try.prog 75 #[.slice a n cap, .int .i64 (L : Int)] w fun e w' => ∃ r : Int, e = .returned (.int .i64 r) ∧ Hid (r = -1 ∨ (0 ≤ r ∧ ((n + rowsLen l n : Nat) : Int) + r = L)) ∧ Hid (Below w.heap.size w w') := by
  have HN : Hid (l.length = n) := hn
  have HA : Hid (BagIn lo hi w a l) := ha
  have HH : Hid (hi ≤ w.heap.size) := hh
  have HR : Hid (∀ i, i < n → (at' l i).1.length ≤ maxLen) := hr
  have hm' : n ≤ 9223372036854775807 := by simpa [maxLen] using hm
  clear ha hn hh hr hm
  by_cases h0 : L < n
  · have hd : (L : Int) - (n : Int) < 0 := by omega
    go_enter Try.func75, Try.ntmps75
    go_wp2
    go_ret
    exact ⟨-1, rfl, .inl rfl, Below.refl _ _⟩
  · have hd : ¬ (L : Int) - (n : Int) < 0 := by omega
    go_enter Try.func75, Try.ntmps75
    go_wp2
    go_loopw [5, 1] (fun i s wr => ∃ k m : Nat, i = .int .i64 k ∧ s = .int .i64 (m : Int) ∧ k ≤ n ∧ Hid (n + rowsLen l k + m = L) ∧ Hid (Below w.heap.size w wr)) (fun i _ _ => n - (intOf i).toNat)
    case atStart => exact ⟨0, L - n, rfl, by simp; omega, by omega, by show _ = _; simp [rowsLen]; omega, Below.refl _ _⟩
    case round =>
      obtain ⟨k, m, rfl, rfl, hk, HE, HL⟩ := hrel
      have hmL : m ≤ 1048576 := by have := HE.out; omega
      by_cases hlt : k < n
      · have hlt1 : (k : Int) < (n : Int) := by omega
        obtain ⟨b, o, rfl, h1, h2, ra, rc, hc1, _, hc2⟩ := (HA.out.below HL.out HH.out).item (k := k) (by rw [HN.out]; exact hlt)
        have hq : (at' l k).1.length ≤ 9223372036854775807 := by have := HR.out k hlt; simpa [maxLen] using this
        obtain ⟨q, HQ⟩ : ∃ q : Nat, Hid (q = (at' l k).1.length) := ⟨_, rfl⟩
        obtain ⟨t, HT⟩ : ∃ t : Int, Hid (t = (at' l k).2) := ⟨_, rfl⟩
        change wr.cell? _ = some (.slice ra (at' l k).1.length rc) at hc1
        change wr.cell? _ = some (.int .i64 (at' l k).2) at hc2
        rw [← HQ.out] at hc1 hq
        rw [← HT.out] at hc2
        by_cases hfit : q ≤ m
        · go_wp2_with fail
          refine (szItem_yes ra q rc m t wr hq hmL hfit).mono ?_
          rintro e w1 ⟨rfl, hb1⟩
          have hd2 : ¬ ((m - q : Nat) : Int) < 0 := by omega
          go_wp2
          go_roundw
          case rel => exact ⟨k + 1, m - q, by go_num, rfl, by omega, by have := HE.out; have := HQ.out; show _ = _; simp only [rowsLen]; omega, HL.out.trans (hb1.mono HL.out.size)⟩
          case measure => simp [intOf]; omega
        · go_wp2_with fail
          refine (szItem_no ra q rc m t wr hq hmL (by omega)).mono ?_
          rintro e w1 ⟨rfl, hb1⟩
          go_wp2
          go_ret
          exact ⟨-1, rfl, .inl rfl, HL.out.trans (hb1.mono HL.out.size)⟩
      · obtain rfl : k = n := by omega
        go_wp2
        go_ret
        exact ⟨m, rfl, .inr ⟨by omega, by have := HE.out; omega⟩, HL.out⟩

set_option maxHeartbeats 1000000 in
theorem szBag_any (lo hi : Nat) (a : Option Addr) (n cap L : Nat) (l : List It) (w : World) (ha : BagIn lo hi w a l) (hh : hi ≤ w.heap.size) (hn : l.length = n) (hm : n ≤ maxLen) (hr : ∀ i, i < n → (at' l i).1.length ≤ maxLen) (hL : L ≤ 1048576) :
    Calls Try.prog 41 #[.agg #[.slice a n cap], .int .i64 (L : Int)] w fun e w' => ∃ r : Int, e = .returned (.int .i64 r) ∧ Hid (r = -1 ∨ (0 ≤ r ∧ ((n + rowsLen l n : Nat) : Int) + r = L)) ∧ Hid (Below w.heap.size w w') := by
  have HC := fun o => szItems_any lo hi a n cap L l (w.alloc o) (ha.below ((Below.refl _ _).alloc (Nat.le_refl _) _) hh) (by simp; omega) hn hm hr hL
  have HC' : Hid (∀ o, Calls Try.prog 75 #[.slice a n cap, .int .i64 (L : Int)] (w.alloc o) fun e w' => ∃ r : Int, e = .returned (.int .i64 r) ∧ Hid (r = -1 ∨ (0 ≤ r ∧ ((n + rowsLen l n : Nat) : Int) + r = L)) ∧ Hid (Below (w.alloc o).heap.size (w.alloc o) w')) := HC
  clear HC ha hh hn hm hr
  go_enter Try.func41, Try.ntmps41
  go_wp2_with fail
  refine (HC'.out _).mono ?_
  rintro e w1 ⟨r, rfl, H1, H2⟩
  have HB : Hid (Below w.heap.size w w1) := ((Below.refl _ _).alloc (Nat.le_refl _) _).trans (H2.out.mono (by simp))
  clear H2
  by_cases hr : r < 0
  · go_wp2
    go_ret
    exact ⟨-1, rfl, .inl rfl, HB⟩
  · go_wp2
    go_ret
    exact ⟨r, rfl, H1, HB⟩
end Go.Proofs.Ytijbngdafgmpaaa
