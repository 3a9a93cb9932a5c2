import Derived.Test.YtbepmeipjdpipaaGreatJo01
import Derived.Deep.DeepCutAuto
namespace Go.Proofs.YtbepmeipjdpipaaGreat
open Go.RowKit
set_option maxHeartbeats 1000000 in
theorem szAtom_any (x0 : ByteArray) (x1 : ByteArray) (x2 : ByteArray) (L : Nat) (w : World) (hL : L ≤ 1048576) (h0 : x0.size ≤ 9223372036854775807) (h1 : x1.size ≤ 9223372036854775807) (h2 : x2.size ≤ 9223372036854775807) :
  Calls Tryz.prog 39 #[.agg #[.string x0, .string x1, .string x2], .int .i64 (L : Int)] w fun e w' => ∃ x : Int, e = .returned (.int .i64 x) ∧ Hid (x < 0 ∨ ∃ m : Nat, x = (m : Int) ∧ m ≤ L ∧ x0.size ≤ L ∧ x1.size ≤ L ∧ x2.size ≤ L) ∧ Hid (Below w.heap.size w w') := by
 by_cases c0 : (L : Int) - (x0.size : Int) < 0
 ·go_enter Tryz.func39, Tryz.ntmps39
  go_wp2
  go_ret
  exact ⟨-1, rfl, .inl (by omega), below1 w _⟩
 by_cases c1 : (L : Int) - (x0.size : Int) - (x1.size : Int) < 0
 ·go_enter Tryz.func39, Tryz.ntmps39
  go_wp2
  go_ret
  exact ⟨-1, rfl, .inl (by omega), below1 w _⟩
 by_cases c2 : (L : Int) - (x0.size : Int) - (x1.size : Int) - (x2.size : Int) < 0
 ·go_enter Tryz.func39, Tryz.ntmps39
  go_wp2
  go_ret
  exact ⟨-1, rfl, .inl (by omega), below1 w _⟩
 obtain ⟨m, hm⟩ : ∃ m : Nat, (L : Int) - (x0.size : Int) - (x1.size : Int) - (x2.size : Int) = (m : Int) := ⟨((L : Int) - (x0.size : Int) - (x1.size : Int) - (x2.size : Int)).toNat, by omega⟩
 have HM : Hid (∃ m' : Nat, (m : Int) = (m' : Int) ∧ m' ≤ L ∧ x0.size ≤ L ∧ x1.size ≤ L ∧ x2.size ≤ L) := ⟨m, rfl, by omega, by omega, by omega, by omega⟩
 go_enter Tryz.func39, Tryz.ntmps39
 go_wp2
 go_ret
 exact ⟨(m : Int), by first | rfl | rw [hm] | simp [hm], .inr HM.out, below1 w _⟩
set_option maxHeartbeats 1000000 in
theorem szFilter_any (x0 : ByteArray) (x1 : Int) (x2 : ByteArray) (x3 : Int) (L : Nat) (w : World) (hL : L ≤ 1048576) (h0 : x0.size ≤ 9223372036854775807) (h2 : x2.size ≤ 9223372036854775807) :
  Calls Tryz.prog 40 #[.agg #[.string x0, .int .i64 x1, .string x2, .int .i64 x3], .int .i64 (L : Int)] w fun e w' => ∃ x : Int, e = .returned (.int .i64 x) ∧ Hid (x < 0 ∨ ∃ m : Nat, x = (m : Int) ∧ m ≤ L ∧ x0.size ≤ L ∧ x2.size ≤ L) ∧ Hid (Below w.heap.size w w') := by
 by_cases c0 : (L : Int) - (x0.size : Int) < 0
 ·go_enter Tryz.func40, Tryz.ntmps40
  go_wp2
  go_ret
  exact ⟨-1, rfl, .inl (by omega), below1 w _⟩
 by_cases c2 : (L : Int) - (x0.size : Int) - (x2.size : Int) < 0
 ·go_enter Tryz.func40, Tryz.ntmps40
  go_wp2
  go_ret
  exact ⟨-1, rfl, .inl (by omega), below1 w _⟩
 obtain ⟨m, hm⟩ : ∃ m : Nat, (L : Int) - (x0.size : Int) - (x2.size : Int) = (m : Int) := ⟨((L : Int) - (x0.size : Int) - (x2.size : Int)).toNat, by omega⟩
 have HM : Hid (∃ m' : Nat, (m : Int) = (m' : Int) ∧ m' ≤ L ∧ x0.size ≤ L ∧ x2.size ≤ L) := ⟨m, rfl, by omega, by omega, by omega⟩
 go_enter Tryz.func40, Tryz.ntmps40
 go_wp2
 go_ret
 exact ⟨(m : Int), by first | rfl | rw [hm] | simp [hm], .inr HM.out, below1 w _⟩
set_option maxHeartbeats 2000000 in
set_option maxRecDepth 100000 in
theorem szStringS_any (lo hi : Nat) (a : Option Addr) (n cap : Nat) (l : List Tx) (L : Nat) (w : World) (ha : FlIn 1 lo hi w a n (tC l)) (hh : hi ≤ w.heap.size) (hm : n ≤ 9223372036854775807) (hz : ∀ i, i < n → ((tat l i)).size ≤ 9223372036854775807) (hL : L ≤ 1048576) :
  Calls Tryz.prog 17 #[.slice a n cap, .int .i64 (L : Int)] w fun e w' => ∃ x : Int, e = .returned (.int .i64 x) ∧ Hid (x < 0 ∨ ∃ m : Nat, x = (m : Int) ∧ m ≤ L ∧ n ≤ L ∧ ∀ i, i < n → ((tat l i)).size ≤ L) ∧ Hid (Below w.heap.size w w') := by
 have HA : Hid (FlIn 1 lo hi w a n (tC l)) := ha
 have HH : Hid (hi ≤ w.heap.size) := hh
 have HZ : Hid (∀ i, i < n → ((tat l i)).size ≤ 9223372036854775807) := hz
 clear ha hh hz
 by_cases c : (L : Int) - (n : Int) < 0
 ·go_enter Tryz.func17, Tryz.ntmps17
  go_wp2
  go_ret
  exact ⟨-1, rfl, .inl (by omega), Below.refl _ _⟩
 ·obtain ⟨m0, hm0⟩ : ∃ m : Nat, (L : Int) - (n : Int) = (m : Int) := ⟨L - n, by omega⟩
  have hnL : n ≤ L := by omega
  have hmL : m0 ≤ L := by omega
  go_enter Tryz.func17, Tryz.ntmps17
  go_wp2
  go_loopw [5, 1] (fun i x wr => ∃ k m : Nat, i = .int .i64 (k : Int) ∧ x = .int .i64 (m : Int) ∧ k ≤ n ∧ m ≤ L ∧ Hid (∀ i, i < k → ((tat l i)).size ≤ L) ∧ Hid (Below w.heap.size w wr)) (fun i _ _ => n - (intOf i).toNat)
  case atStart => exact ⟨0, m0, rfl, by first | rfl | rw [hm0], by omega, hmL, fun i hi => absurd hi (by omega), Below.refl _ _⟩
  case round =>
   obtain ⟨k, m, rfl, rfl, hk, hmm, HP, HB⟩ := hrel
   by_cases hlt : k < n
   ·have hlt1 : (k : Int) < (n : Int) := by omega
    have hlt0 : (0 : Int) ≤ (k : Int) := by omega
    obtain ⟨b, o, rfl, _, _, hc⟩ := (HA.out.below HB.out HH.out).at hlt
    obtain ⟨x, HX⟩ : ∃ x, Hid (x = tat l k) := ⟨_, rfl⟩
    have hzk := HZ.out k hlt
    rw [← HX.out] at hzk
    have HSTEP : Hid (((x)).size ≤ L → ∀ i, i < k + 1 → ((tat l i)).size ≤ L) := fun h i hi => by
     by_cases e : i = k
     ·subst e; rw [← HX.out]; exact h
     ·exact HP.out i (by omega)
    have p0 := hc 0 (by omega)
    rw [tC0, ← HX.out] at p0
    clear hc
    rw [Nat.mul_one, Nat.add_zero] at p0
    by_cases c1 : (m : Int) - (x.size : Int) < 0
    ·go_wp2
     go_ret
     exact ⟨-1, rfl, .inl (by omega), HB⟩
    ·obtain ⟨m2, hm2⟩ : ∃ m2 : Nat, (m : Int) - (x.size : Int) = (m2 : Int) := ⟨m - x.size, by omega⟩
     have hm2' : m2 ≤ L := by omega
     have HS2 : Hid (x.size ≤ L) := by show _ ≤ _; omega
     go_wp2
     go_roundw
     case rel => exact ⟨k + 1, m2, by go_num, by first | rfl | rw [hm2], by omega, hm2', HSTEP.out HS2.out, HB⟩
     case measure => simp [intOf]; omega
   ·obtain rfl : k = n := by omega
    go_wp2
    go_ret
    exact ⟨(m : Int), rfl, .inr ⟨m, rfl, hmm, hnL, HP.out⟩, HB⟩
set_option maxHeartbeats 2000000 in
set_option maxRecDepth 100000 in
theorem szAtomS_any (lo hi : Nat) (a : Option Addr) (n cap : Nat) (l : List At) (L : Nat) (w : World) (ha : FlIn 3 lo hi w a n (aC l)) (hh : hi ≤ w.heap.size) (hm : n ≤ 9223372036854775807) (hz : ∀ i, i < n → ((aat l i).1).size ≤ 9223372036854775807 ∧ ((aat l i).2.1).size ≤ 9223372036854775807 ∧ ((aat l i).2.2).size ≤ 9223372036854775807) (hL : L ≤ 1048576) :
  Calls Tryz.prog 18 #[.slice a n cap, .int .i64 (L : Int)] w fun e w' => ∃ x : Int, e = .returned (.int .i64 x) ∧ Hid (x < 0 ∨ ∃ m : Nat, x = (m : Int) ∧ m ≤ L ∧ n ≤ L ∧ ∀ i, i < n → ((aat l i).1).size ≤ L ∧ ((aat l i).2.1).size ≤ L ∧ ((aat l i).2.2).size ≤ L) ∧ Hid (Below w.heap.size w w') := by
 have HA : Hid (FlIn 3 lo hi w a n (aC l)) := ha
 have HH : Hid (hi ≤ w.heap.size) := hh
 have HZ : Hid (∀ i, i < n → ((aat l i).1).size ≤ 9223372036854775807 ∧ ((aat l i).2.1).size ≤ 9223372036854775807 ∧ ((aat l i).2.2).size ≤ 9223372036854775807) := hz
 clear ha hh hz
 by_cases c : (L : Int) - (n : Int) < 0
 ·go_enter Tryz.func18, Tryz.ntmps18
  go_wp2
  go_ret
  exact ⟨-1, rfl, .inl (by omega), Below.refl _ _⟩
 ·obtain ⟨m0, hm0⟩ : ∃ m : Nat, (L : Int) - (n : Int) = (m : Int) := ⟨L - n, by omega⟩
  have hnL : n ≤ L := by omega
  have hmL : m0 ≤ L := by omega
  go_enter Tryz.func18, Tryz.ntmps18
  go_wp2
  go_loopw [5, 1] (fun i x wr => ∃ k m : Nat, i = .int .i64 (k : Int) ∧ x = .int .i64 (m : Int) ∧ k ≤ n ∧ m ≤ L ∧ Hid (∀ i, i < k → ((aat l i).1).size ≤ L ∧ ((aat l i).2.1).size ≤ L ∧ ((aat l i).2.2).size ≤ L) ∧ Hid (Below w.heap.size w wr)) (fun i _ _ => n - (intOf i).toNat)
  case atStart => exact ⟨0, m0, rfl, by first | rfl | rw [hm0], by omega, hmL, fun i hi => absurd hi (by omega), Below.refl _ _⟩
  case round =>
   obtain ⟨k, m, rfl, rfl, hk, hmm, HP, HB⟩ := hrel
   by_cases hlt : k < n
   ·have hlt1 : (k : Int) < (n : Int) := by omega
    have hlt0 : (0 : Int) ≤ (k : Int) := by omega
    obtain ⟨b, o, rfl, _, _, hc⟩ := (HA.out.below HB.out HH.out).at hlt
    obtain ⟨x, HX⟩ : ∃ x, Hid (x = aat l k) := ⟨_, rfl⟩
    have hzk := HZ.out k hlt
    rw [← HX.out] at hzk
    have HSTEP : Hid (((x).1).size ≤ L ∧ ((x).2.1).size ≤ L ∧ ((x).2.2).size ≤ L → ∀ i, i < k + 1 → ((aat l i).1).size ≤ L ∧ ((aat l i).2.1).size ≤ L ∧ ((aat l i).2.2).size ≤ L) := fun h i hi => by
     by_cases e : i = k
     ·subst e; rw [← HX.out]; exact h
     ·exact HP.out i (by omega)
    have p0 := hc 0 (by omega)
    rw [aC0, ← HX.out] at p0
    have p1 := hc 1 (by omega)
    rw [aC1, ← HX.out] at p1
    have p2 := hc 2 (by omega)
    rw [aC2, ← HX.out] at p2
    clear hc
    obtain ⟨x0, x1, x2⟩ := x
    dsimp only at p0 p1 p2 hzk
    simp only [Nat.add_zero] at p0
    rw [← Nat.add_assoc] at p1; rw [← Nat.add_assoc] at p2
    go_wp2_with fail
    refine (szAtom_any x0 x1 x2 m _ (by omega) hzk.1 hzk.2.1 hzk.2.2).mono ?_
    rintro e w1 ⟨z, rfl, HZ1, HB1⟩
    have HB2 : Hid (Below w.heap.size w w1) := HB.out.trans (HB1.out.mono HB.out.size)
    clear HB1 p0 p1 p2
    by_cases c1 : z < 0
    ·go_wp2
     go_ret
     exact ⟨-1, rfl, .inl (by omega), HB2⟩
    ·have HZ3 : Hid (∃ m2 : Nat, z = (m2 : Int) ∧ m2 ≤ m ∧ x0.size ≤ m ∧ x1.size ≤ m ∧ x2.size ≤ m) := by
      rcases HZ1.out with h | h
      ·omega
      ·exact h
     obtain ⟨m2, rfl, hm2, hs2⟩ := HZ3.out
     have HS2 : Hid (x0.size ≤ L ∧ x1.size ≤ L ∧ x2.size ≤ L) := by show _ ∧ _; omega
     go_wp2
     go_roundw
     case rel => exact ⟨k + 1, m2, by go_num, rfl, by omega, by omega, HSTEP.out HS2.out, HB2⟩
     case measure => simp [intOf]; omega
   ·obtain rfl : k = n := by omega
    go_wp2
    go_ret
    exact ⟨(m : Int), rfl, .inr ⟨m, rfl, hmm, hnL, HP.out⟩, HB⟩
set_option maxHeartbeats 2000000 in
set_option maxRecDepth 100000 in
theorem szFilterS_any (lo hi : Nat) (a : Option Addr) (n cap : Nat) (l : List Fl) (L : Nat) (w : World) (ha : FlIn 4 lo hi w a n (fC l)) (hh : hi ≤ w.heap.size) (hm : n ≤ 9223372036854775807) (hz : ∀ i, i < n → ((fat l i).1).size ≤ 9223372036854775807 ∧ ((fat l i).2.2.1).size ≤ 9223372036854775807) (hL : L ≤ 1048576) :
  Calls Tryz.prog 19 #[.slice a n cap, .int .i64 (L : Int)] w fun e w' => ∃ x : Int, e = .returned (.int .i64 x) ∧ Hid (x < 0 ∨ ∃ m : Nat, x = (m : Int) ∧ m ≤ L ∧ n ≤ L ∧ ∀ i, i < n → ((fat l i).1).size ≤ L ∧ ((fat l i).2.2.1).size ≤ L) ∧ Hid (Below w.heap.size w w') := by
 have HA : Hid (FlIn 4 lo hi w a n (fC l)) := ha
 have HH : Hid (hi ≤ w.heap.size) := hh
 have HZ : Hid (∀ i, i < n → ((fat l i).1).size ≤ 9223372036854775807 ∧ ((fat l i).2.2.1).size ≤ 9223372036854775807) := hz
 clear ha hh hz
 by_cases c : (L : Int) - (n : Int) < 0
 ·go_enter Tryz.func19, Tryz.ntmps19
  go_wp2
  go_ret
  exact ⟨-1, rfl, .inl (by omega), Below.refl _ _⟩
 ·obtain ⟨m0, hm0⟩ : ∃ m : Nat, (L : Int) - (n : Int) = (m : Int) := ⟨L - n, by omega⟩
  have hnL : n ≤ L := by omega
  have hmL : m0 ≤ L := by omega
  go_enter Tryz.func19, Tryz.ntmps19
  go_wp2
  go_loopw [5, 1] (fun i x wr => ∃ k m : Nat, i = .int .i64 (k : Int) ∧ x = .int .i64 (m : Int) ∧ k ≤ n ∧ m ≤ L ∧ Hid (∀ i, i < k → ((fat l i).1).size ≤ L ∧ ((fat l i).2.2.1).size ≤ L) ∧ Hid (Below w.heap.size w wr)) (fun i _ _ => n - (intOf i).toNat)
  case atStart => exact ⟨0, m0, rfl, by first | rfl | rw [hm0], by omega, hmL, fun i hi => absurd hi (by omega), Below.refl _ _⟩
  case round =>
   obtain ⟨k, m, rfl, rfl, hk, hmm, HP, HB⟩ := hrel
   by_cases hlt : k < n
   ·have hlt1 : (k : Int) < (n : Int) := by omega
    have hlt0 : (0 : Int) ≤ (k : Int) := by omega
    obtain ⟨b, o, rfl, _, _, hc⟩ := (HA.out.below HB.out HH.out).at hlt
    obtain ⟨x, HX⟩ : ∃ x, Hid (x = fat l k) := ⟨_, rfl⟩
    have hzk := HZ.out k hlt
    rw [← HX.out] at hzk
    have HSTEP : Hid (((x).1).size ≤ L ∧ ((x).2.2.1).size ≤ L → ∀ i, i < k + 1 → ((fat l i).1).size ≤ L ∧ ((fat l i).2.2.1).size ≤ L) := fun h i hi => by
     by_cases e : i = k
     ·subst e; rw [← HX.out]; exact h
     ·exact HP.out i (by omega)
    have p0 := hc 0 (by omega)
    rw [fC0, ← HX.out] at p0
    have p1 := hc 1 (by omega)
    rw [fC1, ← HX.out] at p1
    have p2 := hc 2 (by omega)
    rw [fC2, ← HX.out] at p2
    have p3 := hc 3 (by omega)
    rw [fC3, ← HX.out] at p3
    clear hc
    obtain ⟨x0, x1, x2, x3⟩ := x
    dsimp only at p0 p1 p2 p3 hzk
    simp only [Nat.add_zero] at p0
    rw [← Nat.add_assoc] at p1; rw [← Nat.add_assoc] at p2; rw [← Nat.add_assoc] at p3
    go_wp2_with fail
    refine (szFilter_any x0 x1 x2 x3 m _ (by omega) hzk.1 hzk.2).mono ?_
    rintro e w1 ⟨z, rfl, HZ1, HB1⟩
    have HB2 : Hid (Below w.heap.size w w1) := HB.out.trans (HB1.out.mono HB.out.size)
    clear HB1 p0 p1 p2 p3
    by_cases c1 : z < 0
    ·go_wp2
     go_ret
     exact ⟨-1, rfl, .inl (by omega), HB2⟩
    ·have HZ3 : Hid (∃ m2 : Nat, z = (m2 : Int) ∧ m2 ≤ m ∧ x0.size ≤ m ∧ x2.size ≤ m) := by
      rcases HZ1.out with h | h
      ·omega
      ·exact h
     obtain ⟨m2, rfl, hm2, hs2⟩ := HZ3.out
     have HS2 : Hid (x0.size ≤ L ∧ x2.size ≤ L) := by show _ ∧ _; omega
     go_wp2
     go_roundw
     case rel => exact ⟨k + 1, m2, by go_num, rfl, by omega, by omega, HSTEP.out HS2.out, HB2⟩
     case measure => simp [intOf]; omega
   ·obtain rfl : k = n := by omega
    go_wp2
    go_ret
    exact ⟨(m : Int), rfl, .inr ⟨m, rfl, hmm, hnL, HP.out⟩, HB⟩
set_option maxHeartbeats 1000000 in
theorem toAtom_any (x0 : ByteArray) (x1 : ByteArray) (x2 : ByteArray) (w : World) : Calls Tryz.prog 44 #[.agg #[.string x0, .string x1, .string x2]] w fun e w' => e = .returned (.agg #[.string x0, .string x1, .string x2]) ∧ Hid (Below w.heap.size w w') := by
 go_enter Tryz.func44, Tryz.ntmps44
 go_wp2
 generalize hW : World.alloc _ _ = W6
 have HB : Hid (Below w.heap.size w W6) := by
  show Below _ _ _
  rw [← hW]
  exact below3 w _ _ _
 have hk : Blk W6 (w.heap.size + 1) 3 (fun i => if i = 0 then .string x0 else if i = 1 then .string x1 else .string x2) := by
  rw [← hW]
  exact (blk_three (w.alloc _) (w.heap.size + 1) (by simp) _ _ _ _).alloc _
 have c0 : W6.cell? ⟨w.heap.size + 1, 0, none⟩ = some (.string x0) := hk.cell (i := 0) (by omega)
 have c1 : W6.cell? ⟨w.heap.size + 1, 1, none⟩ = some (.string x1) := hk.cell (i := 1) (by omega)
 have c2 : W6.cell? ⟨w.heap.size + 1, 2, none⟩ = some (.string x2) := hk.cell (i := 2) (by omega)
 clear hW hk
 refine bodyPost_ret (v := .agg #[.string x0, .string x1, .string x2]) (by simp [results, Tryz.results44, go_sem, c0, c1, c2]) rfl ?_
 exact ⟨rfl, HB⟩
set_option maxHeartbeats 1000000 in
theorem toFilter_any (x0 : ByteArray) (x1 : Int) (x2 : ByteArray) (x3 : Int) (w : World) : Calls Tryz.prog 45 #[.agg #[.string x0, .int .i64 x1, .string x2, .int .i64 x3]] w fun e w' => e = .returned (.agg #[.string x0, .int .i64 x1, .string x2, .int .i64 x3]) ∧ Hid (Below w.heap.size w w') := by
 go_enter Tryz.func45, Tryz.ntmps45
 go_wp2
 generalize hW : World.alloc _ _ = W6
 have HB : Hid (Below w.heap.size w W6) := by
  show Below _ _ _
  rw [← hW]
  exact below3 w _ _ _
 have hk : Blk W6 (w.heap.size + 1) 4 (fun i => if i = 0 then .string x0 else if i = 1 then .int .i64 x1 else if i = 2 then .string x2 else .int .i64 x3) := by
  rw [← hW]
  exact (blk_four (w.alloc _) (w.heap.size + 1) (by simp) _ _ _ _ _).alloc _
 have c0 : W6.cell? ⟨w.heap.size + 1, 0, none⟩ = some (.string x0) := hk.cell (i := 0) (by omega)
 have c1 : W6.cell? ⟨w.heap.size + 1, 1, none⟩ = some (.int .i64 x1) := hk.cell (i := 1) (by omega)
 have c2 : W6.cell? ⟨w.heap.size + 1, 2, none⟩ = some (.string x2) := hk.cell (i := 2) (by omega)
 have c3 : W6.cell? ⟨w.heap.size + 1, 3, none⟩ = some (.int .i64 x3) := hk.cell (i := 3) (by omega)
 clear hW hk
 refine bodyPost_ret (v := .agg #[.string x0, .int .i64 x1, .string x2, .int .i64 x3]) (by simp [results, Tryz.results45, go_sem, c0, c1, c2, c3]) rfl ?_
 exact ⟨rfl, HB⟩
def zFl (j : Nat) : Value := if j % 2 = 0 then .string ⟨#[]⟩ else .int .i64 0
theorem madeT (n j : Nat) (h : j < n * 1) : (madeCells (Value.string ⟨#[]⟩).cells (n * 1))[j]? = some (.string ⟨#[]⟩) := by
 unfold madeCells
 rw [Array.getElem?_map, Array.getElem?_eq_getElem (by simpa using h)]
 simp only [Array.getElem_range, Option.map_some, Option.some.injEq]
 change (#[Value.string ⟨#[]⟩] : Array Value)[j % 1]! = _
 rw [show j % 1 = 0 by omega]; rfl
theorem madeA (n j : Nat) (h : j < n * 3) : (madeCells (Value.agg #[.string ⟨#[]⟩, .string ⟨#[]⟩, .string ⟨#[]⟩]).cells (n * 3))[j]? = some (.string ⟨#[]⟩) := by
 unfold madeCells
 rw [Array.getElem?_map, Array.getElem?_eq_getElem (by simpa using h)]
 simp only [Array.getElem_range, Option.map_some, Option.some.injEq]
 change (#[Value.string ⟨#[]⟩, Value.string ⟨#[]⟩, Value.string ⟨#[]⟩] : Array Value)[j % 3]! = _
 rcases (show j % 3 = 0 ∨ j % 3 = 1 ∨ j % 3 = 2 by omega) with e | e | e <;> rw [e] <;> rfl
theorem madeF (n j : Nat) (h : j < n * 4) : (madeCells (Value.agg #[.string ⟨#[]⟩, .int .i64 0, .string ⟨#[]⟩, .int .i64 0]).cells (n * 4))[j]? = some (zFl j) := by
 unfold madeCells zFl
 rw [Array.getElem?_map, Array.getElem?_eq_getElem (by simpa using h)]
 simp only [Array.getElem_range, Option.map_some, Option.some.injEq]
 change (#[Value.string ⟨#[]⟩, Value.int .i64 0, Value.string ⟨#[]⟩, Value.int .i64 0] : Array Value)[j % 4]! = _
 rcases (show j % 4 = 0 ∨ j % 4 = 1 ∨ j % 4 = 2 ∨ j % 4 = 3 by omega) with e | e | e | e <;> rw [e]
 ·rw [if_pos (by omega)]; rfl
 ·rw [if_neg (by omega)]; rfl
 ·rw [if_pos (by omega)]; rfl
 ·rw [if_neg (by omega)]; rfl
theorem Tryz.infoQt : (Tryz.prog.info? 9).map (fun i => (i.zero, i.size, i.bytes)) = some (some (.string ⟨#[]⟩), 1, 16) := by kernel_rfl
set_option maxHeartbeats 2000000 in
set_option maxRecDepth 100000 in
theorem toStringS_any (lo hi : Nat) (a : Option Addr) (n cap : Nat) (l : List Tx) (w : World) (ha : FlIn 1 lo hi w a n (tC l)) (hh : hi ≤ w.heap.size) (hm : n ≤ 1048576) :
  Calls Tryz.prog 24 #[.slice a n cap] w fun e w' => ∃ g : Nat, e = .returned (.slice (some ⟨g, 0, none⟩) n n) ∧ Hid (FlOwn 1 w.heap.size w'.heap.size w' (some ⟨g, 0, none⟩) n (tC l)) ∧ Hid (Below w.heap.size w w') := by
 have HA : Hid (FlIn 1 lo hi w a n (tC l)) := ha
 have HH : Hid (hi ≤ w.heap.size) := hh
 obtain ⟨i0, hi0, hz0, hz1, hz2⟩ := info_parts Tryz.infoQt
 have hmk := Go.run_make (P := Tryz.prog) w 22 9 i0 _ Tryz.underlying22 hi0 hz0 .i64 .i64 (n : Int) (n : Int) (by omega) (by omega) (by rw [hz2]; omega) (by omega)
 rw [hz1] at hmk
 obtain ⟨cs, hcs⟩ : ∃ cs, cs = madeCells (Value.string ⟨#[]⟩).cells ((n : Int).toNat * 1) := ⟨_, rfl⟩
 rw [← hcs, Int.toNat_natCast] at hmk
 have HZ : Hid (cs = madeCells (Value.string ⟨#[]⟩).cells (n * 1)) := by show _ = _; rw [hcs, Int.toNat_natCast]
 clear ha hh hcs hi0 hz0 hz1 hz2
 go_enter Tryz.func24, Tryz.ntmps24
 go_wp2
 go_loopw [4] (fun i wr => ∃ k : Nat, i = .int .i64 k ∧ k ≤ n ∧ Hid (Blk wr w.heap.size (n * 1) (fun j => if j < k * 1 then tC l j else Value.string ⟨#[]⟩)) ∧ Hid (Below w.heap.size w wr) ∧ Hid (w.heap.size < wr.heap.size)) (fun i _ => n - (intOf i).toNat)
 case atStart =>
  refine ⟨0, rfl, by omega, ?_, (Below.refl _ _).alloc (Nat.le_refl _) _, by show _ < _; simp⟩
  have hs : cs.size = n * 1 := by rw [HZ.out, size_madeCells]
  have := blk_new w cs 9 (fun _ => .string ⟨#[]⟩) (fun i hi => by rw [HZ.out]; exact madeT n i (by omega))
  rw [hs] at this
  exact this.congr (fun j hj => by rw [if_neg (by omega)])
 case round =>
  obtain ⟨k, rfl, hk, HP, HL, HS⟩ := hrel
  by_cases hlt : k < n
  ·have hlt1 : (k : Int) < (n : Int) := by omega
   have hlt0 : (0 : Int) ≤ (k : Int) := by omega
   obtain ⟨b, o, rfl, h1, h2, hc⟩ := (HA.out.below HL.out HH.out).at hlt
   obtain ⟨x, HX⟩ : ∃ x, Hid (x = tat l k) := ⟨_, rfl⟩
   have p0 := hc 0 (by omega)
   rw [tC0, ← HX.out] at p0
   have HC0 := tC0 l k
   rw [← HX.out] at HC0
   rw [Nat.mul_one, Nat.add_zero] at p0
   rw [Nat.mul_one, Nat.add_zero] at HC0
   have HC0' : Hid (tC l k = .string x) := HC0
   have hd0 := HP.out.cell (i := k) (by omega)
   have hf0 := Blk.frozen HP.out k
   clear hc h1 h2 HC0
   go_wp2
   go_roundw
   case rel =>
    refine ⟨k + 1, by go_num, by omega, (Blk.set HP.out k (by omega) _).congr fun j hj => ?_, set_above HL.out (Nat.le_refl _) _, by have := HS.out; show _ < _; simp; omega⟩
    by_cases e : j = k
    ·subst e; rw [if_pos rfl, if_pos (by omega)]; exact HC0'.out.symm
    ·rw [if_neg e]
     by_cases e2 : j < k * 1
     ·rw [if_pos e2, if_pos (by omega)]
     ·rw [if_neg e2, if_neg (by omega)]
   case measure => simp [intOf]; omega
  ·obtain rfl : k = n := by omega
   go_wp2
   go_ret
   exact ⟨w.heap.size, rfl, .inr ⟨_, rfl, Nat.le_refl _, HS.out, HP.out.congr fun j hj => by rw [if_pos hj]⟩, HL⟩
theorem Tryz.infoQa : (Tryz.prog.info? 49).map (fun i => (i.zero, i.size, i.bytes)) = some (some (.agg #[.string ⟨#[]⟩, .string ⟨#[]⟩, .string ⟨#[]⟩]), 3, 48) := by kernel_rfl
set_option maxHeartbeats 2000000 in
set_option maxRecDepth 100000 in
theorem toAtomS_any (lo hi : Nat) (a : Option Addr) (n cap : Nat) (l : List At) (w : World) (ha : FlIn 3 lo hi w a n (aC l)) (hh : hi ≤ w.heap.size) (hm : n ≤ 1048576) :
  Calls Tryz.prog 25 #[.slice a n cap] w fun e w' => ∃ g : Nat, e = .returned (.slice (some ⟨g, 0, none⟩) n n) ∧ Hid (FlOwn 3 w.heap.size w'.heap.size w' (some ⟨g, 0, none⟩) n (aC l)) ∧ Hid (Below w.heap.size w w') := by
 have HA : Hid (FlIn 3 lo hi w a n (aC l)) := ha
 have HH : Hid (hi ≤ w.heap.size) := hh
 obtain ⟨i0, hi0, hz0, hz1, hz2⟩ := info_parts Tryz.infoQa
 have hmk := Go.run_make (P := Tryz.prog) w 29 49 i0 _ Tryz.underlying29 hi0 hz0 .i64 .i64 (n : Int) (n : Int) (by omega) (by omega) (by rw [hz2]; omega) (by omega)
 rw [hz1] at hmk
 obtain ⟨cs, hcs⟩ : ∃ cs, cs = madeCells (Value.agg #[.string ⟨#[]⟩, .string ⟨#[]⟩, .string ⟨#[]⟩]).cells ((n : Int).toNat * 3) := ⟨_, rfl⟩
 rw [← hcs, Int.toNat_natCast] at hmk
 have HZ : Hid (cs = madeCells (Value.agg #[.string ⟨#[]⟩, .string ⟨#[]⟩, .string ⟨#[]⟩]).cells (n * 3)) := by show _ = _; rw [hcs, Int.toNat_natCast]
 clear ha hh hcs hi0 hz0 hz1 hz2
 go_enter Tryz.func25, Tryz.ntmps25
 go_wp2
 go_loopw [4] (fun i wr => ∃ k : Nat, i = .int .i64 k ∧ k ≤ n ∧ Hid (Blk wr w.heap.size (n * 3) (fun j => if j < k * 3 then aC l j else Value.string ⟨#[]⟩)) ∧ Hid (Below w.heap.size w wr) ∧ Hid (w.heap.size < wr.heap.size)) (fun i _ => n - (intOf i).toNat)
 case atStart =>
  refine ⟨0, rfl, by omega, ?_, (Below.refl _ _).alloc (Nat.le_refl _) _, by show _ < _; simp⟩
  have hs : cs.size = n * 3 := by rw [HZ.out, size_madeCells]
  have := blk_new w cs 49 (fun _ => .string ⟨#[]⟩) (fun i hi => by rw [HZ.out]; exact madeA n i (by omega))
  rw [hs] at this
  exact this.congr (fun j hj => by rw [if_neg (by omega)])
 case round =>
  obtain ⟨k, rfl, hk, HP, HL, HS⟩ := hrel
  by_cases hlt : k < n
  ·have hlt1 : (k : Int) < (n : Int) := by omega
   have hlt0 : (0 : Int) ≤ (k : Int) := by omega
   obtain ⟨b, o, rfl, h1, h2, hc⟩ := (HA.out.below HL.out HH.out).at hlt
   obtain ⟨x, HX⟩ : ∃ x, Hid (x = aat l k) := ⟨_, rfl⟩
   have p0 := hc 0 (by omega)
   rw [aC0, ← HX.out] at p0
   have HC0 := aC0 l k
   rw [← HX.out] at HC0
   have p1 := hc 1 (by omega)
   rw [aC1, ← HX.out] at p1
   have HC1 := aC1 l k
   rw [← HX.out] at HC1
   have p2 := hc 2 (by omega)
   rw [aC2, ← HX.out] at p2
   have HC2 := aC2 l k
   rw [← HX.out] at HC2
   obtain ⟨x0, x1, x2⟩ := x
   dsimp only at p0 p1 p2 HC0 HC1 HC2
   simp only [Nat.add_zero] at p0
   rw [← Nat.add_assoc] at p1; rw [← Nat.add_assoc] at p2
   have HD0 : Hid (aC l (k * 3 + 0) = .string x0) := HC0
   have HD1 : Hid (aC l (k * 3 + 1) = .string x1) := HC1
   have HD2 : Hid (aC l (k * 3 + 2) = .string x2) := HC2
   clear hc h1 h2 HC0 HC1 HC2
   go_wp2_with fail
   refine (toAtom_any x0 x1 x2 wr).mono ?_
   rintro e w1 ⟨rfl, B1⟩
   have HS1 : Hid (wr.heap.size ≤ w1.heap.size) := B1.out.size
   have HB1 : Hid (Below w.heap.size w w1) := HL.out.trans (B1.out.mono HL.out.size)
   have HBK : Hid (Blk w1 w.heap.size (n * 3) (fun j => if j < k * 3 then aC l j else Value.string ⟨#[]⟩)) := HP.out.of_block (B1.out.block _ HS.out)
   clear B1 p0 p1 p2
   have hd0 := HBK.out.cell (i := k * 3) (by omega)
   have hf0 := Blk.frozen HBK.out (k * 3)
   have hd1 := HBK.out.cell (i := k * 3 + 1) (by omega)
   have hf1 := Blk.frozen HBK.out (k * 3 + 1)
   have hd2 := HBK.out.cell (i := k * 3 + 2) (by omega)
   have hf2 := Blk.frozen HBK.out (k * 3 + 2)
   go_wp2
   go_roundw
   case rel =>
    refine ⟨k + 1, by go_num, by omega, Blk.congr (Blk.set (Blk.set (Blk.set HBK.out (k * 3) (by omega) (.string x0)) (k * 3 + 1) (by omega) (.string x1)) (k * 3 + 2) (by omega) (.string x2)) fun j hj => ?_, (set_above (set_above (set_above HB1.out (Nat.le_refl _) _) (Nat.le_refl _) _) (Nat.le_refl _) _), by have := HS.out; have := HS1.out; show _ < _; simp; omega⟩
    by_cases e2 : j = k * 3 + 2
    ·subst e2; rw [if_pos rfl, if_pos (by omega)]; exact (HD2.out).symm
    rw [if_neg e2]
    by_cases e1 : j = k * 3 + 1
    ·subst e1; rw [if_pos rfl, if_pos (by omega)]; exact (HD1.out).symm
    rw [if_neg e1]
    by_cases e0 : j = k * 3
    ·subst e0; rw [if_pos rfl, if_pos (by omega)]; exact (HD0.out).symm
    rw [if_neg e0]
    by_cases e9 : j < k * 3
    ·rw [if_pos e9, if_pos (by omega)]
    ·rw [if_neg e9, if_neg (by omega)]
   case measure => simp [intOf]; omega
  ·obtain rfl : k = n := by omega
   go_wp2
   go_ret
   exact ⟨w.heap.size, rfl, .inr ⟨_, rfl, Nat.le_refl _, HS.out, HP.out.congr fun j hj => by rw [if_pos hj]⟩, HL⟩
theorem Tryz.infoQf : (Tryz.prog.info? 53).map (fun i => (i.zero, i.size, i.bytes)) = some (some (.agg #[.string ⟨#[]⟩, .int .i64 0, .string ⟨#[]⟩, .int .i64 0]), 4, 48) := by kernel_rfl
set_option maxHeartbeats 2000000 in
set_option maxRecDepth 100000 in
theorem toFilterS_any (lo hi : Nat) (a : Option Addr) (n cap : Nat) (l : List Fl) (w : World) (ha : FlIn 4 lo hi w a n (fC l)) (hh : hi ≤ w.heap.size) (hm : n ≤ 1048576) :
  Calls Tryz.prog 26 #[.slice a n cap] w fun e w' => ∃ g : Nat, e = .returned (.slice (some ⟨g, 0, none⟩) n n) ∧ Hid (FlOwn 4 w.heap.size w'.heap.size w' (some ⟨g, 0, none⟩) n (fC l)) ∧ Hid (Below w.heap.size w w') := by
 have HA : Hid (FlIn 4 lo hi w a n (fC l)) := ha
 have HH : Hid (hi ≤ w.heap.size) := hh
 obtain ⟨i0, hi0, hz0, hz1, hz2⟩ := info_parts Tryz.infoQf
 have hmk := Go.run_make (P := Tryz.prog) w 30 53 i0 _ Tryz.underlying30 hi0 hz0 .i64 .i64 (n : Int) (n : Int) (by omega) (by omega) (by rw [hz2]; omega) (by omega)
 rw [hz1] at hmk
 obtain ⟨cs, hcs⟩ : ∃ cs, cs = madeCells (Value.agg #[.string ⟨#[]⟩, .int .i64 0, .string ⟨#[]⟩, .int .i64 0]).cells ((n : Int).toNat * 4) := ⟨_, rfl⟩
 rw [← hcs, Int.toNat_natCast] at hmk
 have HZ : Hid (cs = madeCells (Value.agg #[.string ⟨#[]⟩, .int .i64 0, .string ⟨#[]⟩, .int .i64 0]).cells (n * 4)) := by show _ = _; rw [hcs, Int.toNat_natCast]
 clear ha hh hcs hi0 hz0 hz1 hz2
 go_enter Tryz.func26, Tryz.ntmps26
 go_wp2
 go_loopw [4] (fun i wr => ∃ k : Nat, i = .int .i64 k ∧ k ≤ n ∧ Hid (Blk wr w.heap.size (n * 4) (fun j => if j < k * 4 then fC l j else zFl j)) ∧ Hid (Below w.heap.size w wr) ∧ Hid (w.heap.size < wr.heap.size)) (fun i _ => n - (intOf i).toNat)
 case atStart =>
  refine ⟨0, rfl, by omega, ?_, (Below.refl _ _).alloc (Nat.le_refl _) _, by show _ < _; simp⟩
  have hs : cs.size = n * 4 := by rw [HZ.out, size_madeCells]
  have := blk_new w cs 53 zFl (fun i hi => by rw [HZ.out]; exact madeF n i (by omega))
  rw [hs] at this
  exact this.congr (fun j hj => by rw [if_neg (by omega)])
 case round =>
  obtain ⟨k, rfl, hk, HP, HL, HS⟩ := hrel
  by_cases hlt : k < n
  ·have hlt1 : (k : Int) < (n : Int) := by omega
   have hlt0 : (0 : Int) ≤ (k : Int) := by omega
   obtain ⟨b, o, rfl, h1, h2, hc⟩ := (HA.out.below HL.out HH.out).at hlt
   obtain ⟨x, HX⟩ : ∃ x, Hid (x = fat l k) := ⟨_, rfl⟩
   have p0 := hc 0 (by omega)
   rw [fC0, ← HX.out] at p0
   have HC0 := fC0 l k
   rw [← HX.out] at HC0
   have p1 := hc 1 (by omega)
   rw [fC1, ← HX.out] at p1
   have HC1 := fC1 l k
   rw [← HX.out] at HC1
   have p2 := hc 2 (by omega)
   rw [fC2, ← HX.out] at p2
   have HC2 := fC2 l k
   rw [← HX.out] at HC2
   have p3 := hc 3 (by omega)
   rw [fC3, ← HX.out] at p3
   have HC3 := fC3 l k
   rw [← HX.out] at HC3
   obtain ⟨x0, x1, x2, x3⟩ := x
   dsimp only at p0 p1 p2 p3 HC0 HC1 HC2 HC3
   simp only [Nat.add_zero] at p0
   rw [← Nat.add_assoc] at p1; rw [← Nat.add_assoc] at p2; rw [← Nat.add_assoc] at p3
   have HD0 : Hid (fC l (k * 4 + 0) = .string x0) := HC0
   have HD1 : Hid (fC l (k * 4 + 1) = .int .i64 x1) := HC1
   have HD2 : Hid (fC l (k * 4 + 2) = .string x2) := HC2
   have HD3 : Hid (fC l (k * 4 + 3) = .int .i64 x3) := HC3
   clear hc h1 h2 HC0 HC1 HC2 HC3
   go_wp2_with fail
   refine (toFilter_any x0 x1 x2 x3 wr).mono ?_
   rintro e w1 ⟨rfl, B1⟩
   have HS1 : Hid (wr.heap.size ≤ w1.heap.size) := B1.out.size
   have HB1 : Hid (Below w.heap.size w w1) := HL.out.trans (B1.out.mono HL.out.size)
   have HBK : Hid (Blk w1 w.heap.size (n * 4) (fun j => if j < k * 4 then fC l j else zFl j)) := HP.out.of_block (B1.out.block _ HS.out)
   clear B1 p0 p1 p2 p3
   have hd0 := HBK.out.cell (i := k * 4) (by omega)
   have hf0 := Blk.frozen HBK.out (k * 4)
   have hd1 := HBK.out.cell (i := k * 4 + 1) (by omega)
   have hf1 := Blk.frozen HBK.out (k * 4 + 1)
   have hd2 := HBK.out.cell (i := k * 4 + 2) (by omega)
   have hf2 := Blk.frozen HBK.out (k * 4 + 2)
   have hd3 := HBK.out.cell (i := k * 4 + 3) (by omega)
   have hf3 := Blk.frozen HBK.out (k * 4 + 3)
   go_wp2
   go_roundw
   case rel =>
    refine ⟨k + 1, by go_num, by omega, Blk.congr (Blk.set (Blk.set (Blk.set (Blk.set HBK.out (k * 4) (by omega) (.string x0)) (k * 4 + 1) (by omega) (.int .i64 x1)) (k * 4 + 2) (by omega) (.string x2)) (k * 4 + 3) (by omega) (.int .i64 x3)) fun j hj => ?_, (set_above (set_above (set_above (set_above HB1.out (Nat.le_refl _) _) (Nat.le_refl _) _) (Nat.le_refl _) _) (Nat.le_refl _) _), by have := HS.out; have := HS1.out; show _ < _; simp; omega⟩
    by_cases e3 : j = k * 4 + 3
    ·subst e3; rw [if_pos rfl, if_pos (by omega)]; exact (HD3.out).symm
    rw [if_neg e3]
    by_cases e2 : j = k * 4 + 2
    ·subst e2; rw [if_pos rfl, if_pos (by omega)]; exact (HD2.out).symm
    rw [if_neg e2]
    by_cases e1 : j = k * 4 + 1
    ·subst e1; rw [if_pos rfl, if_pos (by omega)]; exact (HD1.out).symm
    rw [if_neg e1]
    by_cases e0 : j = k * 4
    ·subst e0; rw [if_pos rfl, if_pos (by omega)]; exact (HD0.out).symm
    rw [if_neg e0]
    by_cases e9 : j < k * 4
    ·rw [if_pos e9, if_pos (by omega)]
    ·rw [if_neg e9, if_neg (by omega)]
   case measure => simp [intOf]; omega
  ·obtain rfl : k = n := by omega
   go_wp2
   go_ret
   exact ⟨w.heap.size, rfl, .inr ⟨_, rfl, Nat.le_refl _, HS.out, HP.out.congr fun j hj => by rw [if_pos hj]⟩, HL⟩
end Go.Proofs.YtbepmeipjdpipaaGreat

namespace Go.Proofs.YtbepmeipjdpipaaGreat
open Go.RowKit
def pos (K : Nat) (l : List It) (i : Nat) : Nat := K + rowsLen l i + i
def mkAt (K : Nat) (l : List It) (i : Nat) : It := (marks (pos K l i) (at' l i).1.length, ((pos K l i + (at' l i).1.length : Nat) : Int))
def mkTo (K : Nat) (l : List It) (k : Nat) : List It := (List.range l.length).map fun i => if i < k then mkAt K l i else at' l i
theorem ne_nil_len {r r' : List Int} (h : r.length = r'.length) : r ≠ [] ↔ r' ≠ [] := by
 constructor
 ·intro h1 h2; subst h2; exact h1 (List.length_eq_zero_iff.1 (by simpa using h))
 ·intro h1 h2; subst h2; exact h1 (List.length_eq_zero_iff.1 (by simpa using h.symm))
theorem below1' (w : World) (o1 : Obj) : Below w.heap.size w (w.alloc o1) := (Below.refl _ _).alloc (Nat.le_refl _) _
theorem PartOwn.turned {lo hi b n k : Nat} {w w1 : World} {l l' : List It} {f : Nat → Value} {R : Nat → Option Addr} {C : Nat → Nat} {r' : List Int} {t' : Int}
  (h1 : Blk w b (n * 2) f)
  (h2 : ∀ i, i < n → f (i * 2) = .slice (R i) (at' l i).1.length (C i) ∧ f (i * 2 + 1) = .int .i64 (at' l i).2 ∧ RowOwn lo hi w (R i) (at' l i).1 ∧ ((at' l i).1 ≠ [] → (∀ c, R i = some ⟨c, 0, none⟩ → c ≠ b) ∧ ∀ j, j < i → (at' l j).1 ≠ [] → R j ≠ R i))
  (hk : k < n) (hK : KeptP (fun c => (at' l k).1 ≠ [] ∧ R k = some ⟨c, 0, none⟩) w w1) (hr : RowOwn lo hi w1 (R k) r') (hl : r'.length = (at' l k).1.length)
  (e1 : at' l' k = (r', t')) (e2 : ∀ i, i < n → i ≠ k → at' l' i = at' l i) : PartOwn lo hi (w1.setCell ⟨b, k * 2 + 1, none⟩ (.int .i64 t')) b l' n n := by
 have hrow : ∀ i, i < n → (at' l' i).1.length = (at' l i).1.length := by
  intro i hi
  by_cases e : i = k
  ·subst e; rw [e1]; exact hl
  ·rw [e2 i hi e]
 have hne : ∀ i, i < n → ((at' l' i).1 ≠ [] ↔ (at' l i).1 ≠ []) := fun i hi => ne_nil_len (hrow i hi)
 have hb1 : Blk w1 b (n * 2) f := hK.blk h1 (fun ⟨h3, h4⟩ => ((h2 k hk).2.2.2 h3).1 b h4 rfl)
 refine ⟨_, R, C, hb1.set (k * 2 + 1) (by omega) _, fun i hin => ?_⟩
 obtain ⟨p1, p2, p3, p4⟩ := h2 i hin
 have n1 : ¬ i * 2 = k * 2 + 1 := by omega
 refine ⟨by simp only [n1, if_false]; rw [p1, hrow i hin], ?_, ?_, ?_⟩
 ·by_cases e : i = k
  ·subst e; rw [e1]; simp
  ·have n2 : ¬ i * 2 + 1 = k * 2 + 1 := by omega
   simp only [n2, if_false]; rw [p2, e2 i hin e]
 ·have base : RowOwn lo hi w1 (R i) (at' l' i).1 := by
   by_cases e : i = k
   ·subst e; rw [e1]; exact hr
   ·rw [e2 i hin e]
    rcases p3 with h | ⟨c, ec, h5, h6, h7⟩
    ·exact .inl h
    ·by_cases hi0 : (at' l i).1 = []
     ·exact .inl hi0
     ·refine .inr ⟨c, ec, h5, h6, hK.blk h7 (fun ⟨h8, h9⟩ => ?_)⟩
      rcases Nat.lt_or_ge i k with h | h
      ·exact ((h2 k hk).2.2.2 h8).2 i h hi0 (by rw [ec, h9])
      ·exact (p4 hi0).2 k (by omega) h8 (by rw [ec, h9])
  by_cases hi0 : (at' l' i).1 = []
  ·exact .inl hi0
  ·rcases base with h | ⟨c, ec, h5, h6, h7⟩
   ·exact absurd h hi0
   ·have hcb : c ≠ b := (p4 ((hne i hin).1 hi0)).1 c ec
    exact .inr ⟨c, ec, h5, h6, h7.of_block (Below.heap_setCell _ _ _ c (by simpa using hcb))⟩
 ·intro h3
  have h4 := p4 ((hne i hin).1 h3)
  exact ⟨h4.1, fun j hj hj0 => h4.2 j hj ((hne j (by omega)).1 hj0)⟩
end Go.Proofs.YtbepmeipjdpipaaGreat

namespace Go.Proofs.YtbepmeipjdpipaaGreat
open Go.RowKit
structure Held (w wi : World) (bx : List (Nat × Value)) : Prop where
 bel : Below w.heap.size w wi
 box : ∀ p ∈ bx, Blk wi p.1 1 (fun _ => p.2)
theorem Held.below {w wi wj : World} {bx : List (Nat × Value)} (h : Held w wi bx) (hb : Below wi.heap.size wi wj) : Held w wj bx :=
 ⟨h.bel.trans (hb.mono h.bel.size), fun p hp => (h.box p hp).of_block (hb.block _ (h.box p hp).lt)⟩
theorem Held.kept {w wi wj : World} {bx : List (Nat × Value)} {p : Nat → Prop} (h : Held w wi bx) (hk : KeptP p wi wj) (h1 : ∀ x ∈ bx, ¬ p x.1) (h2 : ∀ k, p k → w.heap.size ≤ k) : Held w wj bx :=
 ⟨h.bel.trans (hk.to_below h.bel.size h2), fun x hx => hk.blk (h.box x hx) (h1 x hx)⟩
theorem Held.more {w wi : World} {bx : List (Nat × Value)} (h : Held w wi bx) (v : Value) (T : TypeId) : Held w (wi.alloc (.cells #[v] T)) ((wi.heap.size, v) :: bx) :=
 ⟨h.bel.alloc h.bel.size _, fun p hp => by
  rcases List.mem_cons.1 hp with rfl | hp
  ·exact blk_one wi _ rfl _ _
  ·exact (h.box p hp).alloc _⟩
theorem Held.cell {w wi : World} {bx : List (Nat × Value)} (h : Held w wi bx) {b : Nat} {v : Value} (hm : (b, v) ∈ bx) : wi.cell? ⟨b, 0, none⟩ = some v := (h.box _ hm).cell (i := 0) (by omega)
theorem Held.lt {w wi : World} {bx : List (Nat × Value)} (h : Held w wi bx) {b : Nat} {v : Value} (hm : (b, v) ∈ bx) : b < wi.heap.size := (h.box _ hm).lt
theorem Held.start (w : World) (v : Value) (T : TypeId) : Held w (w.alloc (.cells #[v] T)) [(w.heap.size, v)] :=
 ⟨below1' w _, fun p hp => by simp at hp; subst hp; exact blk_one w _ rfl _ _⟩
theorem BagOwn.kept {lo hi : Nat} {p : Nat → Prop} {w w' : World} {a : Option Addr} {l : List It} (h : BagOwn lo hi w a l) (hk : KeptP p w w') (hh : hi ≤ w.heap.size) (hp : ∀ c, lo ≤ c → c < hi → ¬ p c) : BagOwn lo hi w' a l := by
 rcases h with h | ⟨b, e, h1, h2, h3⟩
 ·exact .inl h
 ·exact .inr ⟨b, e, h1, h2, h3.of_blocks (hk.block b (by omega) (hp b h1 h2)) (fun c h4 h5 => hk.block c (by omega) (hp c h4 h5))⟩
theorem RowOwn.kept {lo hi : Nat} {p : Nat → Prop} {w w' : World} {a : Option Addr} {l : List Int} (h : RowOwn lo hi w a l) (hk : KeptP p w w') (hp : ∀ c, lo ≤ c → c < hi → ¬ p c) : RowOwn lo hi w' a l := by
 rcases h with h | ⟨b, e, h1, h2, h3⟩
 ·exact .inl h
 ·exact .inr ⟨b, e, h1, h2, hk.blk h3 (hp b h1 h2)⟩
end Go.Proofs.YtbepmeipjdpipaaGreat
