/-
  The same question: slices.Equal at texts, atoms and filters; impl.SameQuery, spec.SameQuery.
-/
import Derived.Test.YtkcflhlipdnbnaaQyC
import Derived.Laws.StructEq
namespace Go.Proofs.Ytkcflhlipdnbnaa
open Go.RowKit

theorem toList_iff {s t : ByteArray} : s.toList = t.toList ↔ s = t := by
  have := toList_inj (s := s) (t := t)
  simpa using this
set_option maxRecDepth 100000 in
theorem neq_a (x0 y0 : ByteArray) (x1 y1 : ByteArray) (x2 y2 : ByteArray) (q : Bool) (w : World) (hq : q = decide ((x0, x1, x2) = ((y0, y1, y2) : At))) : (binOp .neq 101 (.agg #[.string x0, .string x1, .string x2]) (.agg #[.string y0, .string y1, .string y2])).run Try.prog w = .ok (.bool (!q)) w := by
  have u3 := Try.underlying3
  have a3 := Try.isAgg3
  have z3 := Try.sizeOf3
  have u9 := Try.underlying9
  have a9 := Try.isAgg9
  have z9 := Try.sizeOf9
  have hS : Try.prog.underlying 101 = some (.struct (Try.prog.fieldsOf 101)) := by kernel_rfl
  have hp : Try.prog.stoodInHeld 101 = false := by kernel_rfl
  rw [run_neq_struct, show (10000 : Nat) = 9999 + 1 from rfl, run_equalIn_agg w 9999 101 _ _ hS hp]
  simp only [Program.fieldsOf, Try.underlying101]
  rw [hq]
  go_simp
  by_cases h0 : x0 = y0 <;> by_cases h1 : x1 = y1 <;> by_cases h2 : x2 = y2 <;> simp [h0, h1, h2, toList_iff]
set_option maxRecDepth 100000 in
theorem neq_f (x0 y0 : ByteArray) (x1 y1 : Int) (x2 y2 : ByteArray) (x3 y3 : Int) (q : Bool) (w : World) (hq : q = decide ((x0, x1, x2, x3) = ((y0, y1, y2, y3) : Fl))) : (binOp .neq 115 (.agg #[.string x0, .int .i64 x1, .string x2, .int .i64 x3]) (.agg #[.string y0, .int .i64 y1, .string y2, .int .i64 y3])).run Try.prog w = .ok (.bool (!q)) w := by
  have u3 := Try.underlying3
  have a3 := Try.isAgg3
  have z3 := Try.sizeOf3
  have u9 := Try.underlying9
  have a9 := Try.isAgg9
  have z9 := Try.sizeOf9
  have hS : Try.prog.underlying 115 = some (.struct (Try.prog.fieldsOf 115)) := by kernel_rfl
  have hp : Try.prog.stoodInHeld 115 = false := by kernel_rfl
  rw [run_neq_struct, show (10000 : Nat) = 9999 + 1 from rfl, run_equalIn_agg w 9999 115 _ _ hS hp]
  simp only [Program.fieldsOf, Try.underlying115]
  rw [hq]
  go_simp
  by_cases h0 : x0 = y0 <;> by_cases h1 : x1 = y1 <;> by_cases h2 : x2 = y2 <;> by_cases h3 : x3 = y3 <;> simp [h0, h1, h2, h3, toList_iff]
set_option maxHeartbeats 4000000 in
set_option maxRecDepth 100000 in
theorem l08Texts_any (lo hi lo' hi' : Nat) (a a' : Option Addr) (n n' cap cap' : Nat) (l l' : List Tx) (r : Bool) (w : World) (ha : FlIn 1 lo hi w a n (tC l)) (hb : FlIn 1 lo' hi' w a' n' (tC l')) (hh : hi ≤ w.heap.size) (hh' : hi' ≤ w.heap.size) (hn : l.length = n) (hn' : l'.length = n') (hm : n ≤ 9223372036854775807) (hr : r = decide (l = l')) :
    Calls Try.prog 66 #[.slice a n cap, .slice a' n' cap'] w fun e w' => e = .returned (.bool r) ∧ Hid (Below w.heap.size w w') := by
  have HN : Hid (l.length = n) := hn
  have HN' : Hid (l'.length = n') := hn'
  have HA : Hid (FlIn 1 lo hi w a n (tC l)) := ha
  have HA' : Hid (FlIn 1 lo' hi' w a' n' (tC l')) := hb
  have HH : Hid (hi ≤ w.heap.size ∧ hi' ≤ w.heap.size) := ⟨hh, hh'⟩
  have HR : Hid (r = decide (l = l')) := hr
  clear ha hb hh hh' hn hn' hr
  by_cases he : n = n'
  · subst he
    go_enter Try.func66, Try.ntmps66
    go_wp2
    go_loopw [5] (fun i wr => ∃ k : Nat, i = .int .i64 k ∧ k ≤ n ∧ Hid (l = l' ↔ l.drop k = l'.drop k) ∧ Hid (Below w.heap.size w wr)) (fun i _ => n - (intOf i).toNat)
    case atStart => exact ⟨0, rfl, by omega, by show _ ↔ _; simp, Below.refl _ _⟩
    case round =>
      obtain ⟨k, rfl, hk, HE, HL⟩ := hrel
      by_cases hlt : k < n
      · have hlt1 : (k : Int) < (n : Int) := by omega
        have hlt0 : 0 ≤ (k : Int) := by omega
        obtain ⟨b, o, rfl, _, _, hx⟩ := (HA.out.below HL.out HH.out.1).at hlt
        obtain ⟨b', o', rfl, _, _, hy⟩ := (HA'.out.below HL.out HH.out.2).at hlt
        obtain ⟨x, HX⟩ : ∃ x, Hid (x = tat l k) := ⟨_, rfl⟩
        obtain ⟨y, HY⟩ : ∃ x, Hid (x = tat l' k) := ⟨_, rfl⟩
        have HD : Hid ((l = l') ↔ (x = y ∧ l.drop (k + 1) = l'.drop (k + 1))) := HE.out.trans (by rw [HX.out, HY.out]; exact drop_t HN.out HN'.out hlt)
        have p0 := hx 0 (by omega)
        have q0 := hy 0 (by omega)
        rw [tC0, ← HX.out] at p0
        rw [tC0, ← HY.out] at q0
        clear hx hy
        rw [Nat.mul_one, Nat.add_zero] at p0 q0
        by_cases hxy : x = y
        · subst hxy
          go_wp2_with fail
          go_quiet (fail)
          go_wp2
          go_roundw
          case rel => exact ⟨k + 1, by go_num, by omega, HD.out.trans ⟨fun h => h.2, fun h => ⟨by simp, h⟩⟩, HL.out.trans (below_drewN (Below.refl _ _) _ |>.mono HL.out.size)⟩
          case measure => simp [intOf]; omega
        · have hne : (x.toList == y.toList) = false := by rw [toList_eq]; exact decide_eq_false hxy
          have hf : r = false := by rw [HR.out]; exact decide_eq_false fun h => hxy (HD.out.1 h).1
          subst hf
          go_wp2_with fail
          go_quiet (fail)
          go_wp2
          go_ret
          exact ⟨rfl, HL.out.trans (below_drewN (Below.refl _ _) _ |>.mono HL.out.size)⟩
      · have hf : r = true := by
          rw [HR.out]
          refine decide_eq_true (HE.out.2 ?_)
          rw [List.drop_of_length_le (by rw [HN.out]; omega), List.drop_of_length_le (by rw [HN'.out]; omega)]
        subst hf
        go_wp2
        go_ret
        exact ⟨rfl, HL⟩
  · have hne : decide ((n : Int) = (n' : Int)) = false := by simp; omega
    have hr : r = false := by rw [HR.out]; exact decide_eq_false fun h => he (by rw [← HN.out, h, HN'.out])
    subst hr
    go_enter Try.func66, Try.ntmps66
    go_wp2
    go_ret
    exact ⟨rfl, Below.refl _ _⟩

set_option maxHeartbeats 4000000 in
set_option maxRecDepth 100000 in
theorem equalT_any (lo hi lo' hi' : Nat) (a a' : Option Addr) (n n' cap cap' : Nat) (l l' : List Tx) (r : Bool) (w : World) (ha : FlIn 1 lo hi w a n (tC l)) (hb : FlIn 1 lo' hi' w a' n' (tC l')) (hh : hi ≤ w.heap.size) (hh' : hi' ≤ w.heap.size) (hn : l.length = n) (hn' : l'.length = n') (hm : n ≤ 9223372036854775807) (hr : r = decide (l = l')) :
    Calls Try.prog 67 #[.slice a n cap, .slice a' n' cap'] w fun e w' => e = .returned (.bool r) ∧ Hid (Below w.heap.size w w') := by
  have HN : Hid (l.length = n) := hn
  have HN' : Hid (l'.length = n') := hn'
  have HA : Hid (FlIn 1 lo hi w a n (tC l)) := ha
  have HA' : Hid (FlIn 1 lo' hi' w a' n' (tC l')) := hb
  have HH : Hid (hi ≤ w.heap.size ∧ hi' ≤ w.heap.size) := ⟨hh, hh'⟩
  have HR : Hid (r = decide (l = l')) := hr
  clear ha hb hh hh' hn hn' hr
  by_cases he : n = n'
  · subst he
    go_enter Try.func67, Try.ntmps67
    go_wp2
    go_loopw [13] (fun i wr => ∃ k : Nat, i = .int .i64 k ∧ k ≤ n ∧ Hid (l = l' ↔ l.drop k = l'.drop k) ∧ Hid (Below w.heap.size w wr)) (fun i _ => n - (intOf i).toNat)
    case atStart => exact ⟨0, rfl, by omega, by show _ ↔ _; simp, Below.refl _ _⟩
    case round =>
      obtain ⟨k, rfl, hk, HE, HL⟩ := hrel
      by_cases hlt : k < n
      · have hlt1 : (k : Int) < (n : Int) := by omega
        have hlt0 : 0 ≤ (k : Int) := by omega
        obtain ⟨b, o, rfl, _, _, hx⟩ := (HA.out.below HL.out HH.out.1).at hlt
        obtain ⟨b', o', rfl, _, _, hy⟩ := (HA'.out.below HL.out HH.out.2).at hlt
        obtain ⟨x, HX⟩ : ∃ x, Hid (x = tat l k) := ⟨_, rfl⟩
        obtain ⟨y, HY⟩ : ∃ x, Hid (x = tat l' k) := ⟨_, rfl⟩
        have HD : Hid ((l = l') ↔ (x = y ∧ l.drop (k + 1) = l'.drop (k + 1))) := HE.out.trans (by rw [HX.out, HY.out]; exact drop_t HN.out HN'.out hlt)
        have p0 := hx 0 (by omega)
        have q0 := hy 0 (by omega)
        rw [tC0, ← HX.out] at p0
        rw [tC0, ← HY.out] at q0
        clear hx hy
        rw [Nat.mul_one, Nat.add_zero] at p0 q0
        by_cases hxy : x = y
        · subst hxy
          go_wp2_with fail
          go_quiet (fail)
          go_wp2
          go_roundw
          case rel => exact ⟨k + 1, by go_num, by omega, HD.out.trans ⟨fun h => h.2, fun h => ⟨by simp, h⟩⟩, HL.out.trans (below_drewN (Below.refl _ _) _ |>.mono HL.out.size)⟩
          case measure => simp [intOf]; omega
        · have hne : (x.toList == y.toList) = false := by rw [toList_eq]; exact decide_eq_false hxy
          have hf : r = false := by rw [HR.out]; exact decide_eq_false fun h => hxy (HD.out.1 h).1
          subst hf
          go_wp2_with fail
          go_quiet (fail)
          go_wp2
          go_ret
          exact ⟨rfl, HL.out.trans (below_drewN (Below.refl _ _) _ |>.mono HL.out.size)⟩
      · have hf : r = true := by
          rw [HR.out]
          refine decide_eq_true (HE.out.2 ?_)
          rw [List.drop_of_length_le (by rw [HN.out]; omega), List.drop_of_length_le (by rw [HN'.out]; omega)]
        subst hf
        go_wp2
        go_ret
        exact ⟨rfl, HL⟩
  · have hne : decide ((n : Int) = (n' : Int)) = false := by simp; omega
    have hr : r = false := by rw [HR.out]; exact decide_eq_false fun h => he (by rw [← HN.out, h, HN'.out])
    subst hr
    go_enter Try.func67, Try.ntmps67
    go_wp2
    go_ret
    exact ⟨rfl, Below.refl _ _⟩

set_option maxHeartbeats 4000000 in
set_option maxRecDepth 100000 in
theorem equalA_any (lo hi lo' hi' : Nat) (a a' : Option Addr) (n n' cap cap' : Nat) (l l' : List At) (r : Bool) (w : World) (ha : FlIn 3 lo hi w a n (aC l)) (hb : FlIn 3 lo' hi' w a' n' (aC l')) (hh : hi ≤ w.heap.size) (hh' : hi' ≤ w.heap.size) (hn : l.length = n) (hn' : l'.length = n') (hm : n ≤ 9223372036854775807) (hr : r = decide (l = l')) :
    Calls Try.prog 68 #[.slice a n cap, .slice a' n' cap'] w fun e w' => e = .returned (.bool r) ∧ Hid (Below w.heap.size w w') := by
  have HN : Hid (l.length = n) := hn
  have HN' : Hid (l'.length = n') := hn'
  have HA : Hid (FlIn 3 lo hi w a n (aC l)) := ha
  have HA' : Hid (FlIn 3 lo' hi' w a' n' (aC l')) := hb
  have HH : Hid (hi ≤ w.heap.size ∧ hi' ≤ w.heap.size) := ⟨hh, hh'⟩
  have HR : Hid (r = decide (l = l')) := hr
  clear ha hb hh hh' hn hn' hr
  by_cases he : n = n'
  · subst he
    go_enter Try.func68, Try.ntmps68
    go_wp2
    go_loopw [13] (fun i wr => ∃ k : Nat, i = .int .i64 k ∧ k ≤ n ∧ Hid (l = l' ↔ l.drop k = l'.drop k) ∧ Hid (Below w.heap.size w wr)) (fun i _ => n - (intOf i).toNat)
    case atStart => exact ⟨0, rfl, by omega, by show _ ↔ _; simp, Below.refl _ _⟩
    case round =>
      obtain ⟨k, rfl, hk, HE, HL⟩ := hrel
      by_cases hlt : k < n
      · have hlt1 : (k : Int) < (n : Int) := by omega
        have hlt0 : 0 ≤ (k : Int) := by omega
        obtain ⟨b, o, rfl, _, _, hx⟩ := (HA.out.below HL.out HH.out.1).at hlt
        obtain ⟨b', o', rfl, _, _, hy⟩ := (HA'.out.below HL.out HH.out.2).at hlt
        obtain ⟨x, HX⟩ : ∃ x, Hid (x = aat l k) := ⟨_, rfl⟩
        obtain ⟨y, HY⟩ : ∃ x, Hid (x = aat l' k) := ⟨_, rfl⟩
        have HD : Hid ((l = l') ↔ (x = y ∧ l.drop (k + 1) = l'.drop (k + 1))) := HE.out.trans (by rw [HX.out, HY.out]; exact drop_a HN.out HN'.out hlt)
        have p0 := hx 0 (by omega)
        have q0 := hy 0 (by omega)
        rw [aC0, ← HX.out] at p0
        rw [aC0, ← HY.out] at q0
        have p1 := hx 1 (by omega)
        have q1 := hy 1 (by omega)
        rw [aC1, ← HX.out] at p1
        rw [aC1, ← HY.out] at q1
        have p2 := hx 2 (by omega)
        have q2 := hy 2 (by omega)
        rw [aC2, ← HX.out] at p2
        rw [aC2, ← HY.out] at q2
        clear hx hy
        obtain ⟨x0, x1, x2⟩ := x
        obtain ⟨y0, y1, y2⟩ := y
        dsimp only at p0 q0 p1 q1 p2 q2
        simp only [Nat.add_zero] at p0 q0
        rw [← Nat.add_assoc] at p1 q1; rw [← Nat.add_assoc] at p2 q2
        by_cases he : (x0, x1, x2) = ((y0, y1, y2) : At)
        · have hq := fun w => neq_a x0 y0 x1 y1 x2 y2 true w (decide_eq_true he).symm
          have HEQ : Hid ((x0, x1, x2) = ((y0, y1, y2) : At)) := he
          clear he
          go_wp2_with fail
          go_quiet (fail)
          go_wp2
          go_roundw
          case rel => exact ⟨k + 1, by go_num, by omega, HD.out.trans ⟨fun h => h.2, fun h => ⟨HEQ.out, h⟩⟩, HL.out.trans (below_drewN (Below.refl _ _) _ |>.mono HL.out.size)⟩
          case measure => simp [intOf]; omega
        · have hq := fun w => neq_a x0 y0 x1 y1 x2 y2 false w (decide_eq_false he).symm
          have hf : r = false := by rw [HR.out]; exact decide_eq_false fun h => he (HD.out.1 h).1
          subst hf
          clear he
          go_wp2_with fail
          go_quiet (fail)
          go_wp2
          go_ret
          exact ⟨rfl, HL.out.trans (below_drewN (Below.refl _ _) _ |>.mono HL.out.size)⟩
      · have hf : r = true := by
          rw [HR.out]
          refine decide_eq_true (HE.out.2 ?_)
          rw [List.drop_of_length_le (by rw [HN.out]; omega), List.drop_of_length_le (by rw [HN'.out]; omega)]
        subst hf
        go_wp2
        go_ret
        exact ⟨rfl, HL⟩
  · have hne : decide ((n : Int) = (n' : Int)) = false := by simp; omega
    have hr : r = false := by rw [HR.out]; exact decide_eq_false fun h => he (by rw [← HN.out, h, HN'.out])
    subst hr
    go_enter Try.func68, Try.ntmps68
    go_wp2
    go_ret
    exact ⟨rfl, Below.refl _ _⟩

set_option maxHeartbeats 4000000 in
set_option maxRecDepth 100000 in
theorem equalF_any (lo hi lo' hi' : Nat) (a a' : Option Addr) (n n' cap cap' : Nat) (l l' : List Fl) (r : Bool) (w : World) (ha : FlIn 4 lo hi w a n (fC l)) (hb : FlIn 4 lo' hi' w a' n' (fC l')) (hh : hi ≤ w.heap.size) (hh' : hi' ≤ w.heap.size) (hn : l.length = n) (hn' : l'.length = n') (hm : n ≤ 9223372036854775807) (hr : r = decide (l = l')) :
    Calls Try.prog 69 #[.slice a n cap, .slice a' n' cap'] w fun e w' => e = .returned (.bool r) ∧ Hid (Below w.heap.size w w') := by
  have HN : Hid (l.length = n) := hn
  have HN' : Hid (l'.length = n') := hn'
  have HA : Hid (FlIn 4 lo hi w a n (fC l)) := ha
  have HA' : Hid (FlIn 4 lo' hi' w a' n' (fC l')) := hb
  have HH : Hid (hi ≤ w.heap.size ∧ hi' ≤ w.heap.size) := ⟨hh, hh'⟩
  have HR : Hid (r = decide (l = l')) := hr
  clear ha hb hh hh' hn hn' hr
  by_cases he : n = n'
  · subst he
    go_enter Try.func69, Try.ntmps69
    go_wp2
    go_loopw [13] (fun i wr => ∃ k : Nat, i = .int .i64 k ∧ k ≤ n ∧ Hid (l = l' ↔ l.drop k = l'.drop k) ∧ Hid (Below w.heap.size w wr)) (fun i _ => n - (intOf i).toNat)
    case atStart => exact ⟨0, rfl, by omega, by show _ ↔ _; simp, Below.refl _ _⟩
    case round =>
      obtain ⟨k, rfl, hk, HE, HL⟩ := hrel
      by_cases hlt : k < n
      · have hlt1 : (k : Int) < (n : Int) := by omega
        have hlt0 : 0 ≤ (k : Int) := by omega
        obtain ⟨b, o, rfl, _, _, hx⟩ := (HA.out.below HL.out HH.out.1).at hlt
        obtain ⟨b', o', rfl, _, _, hy⟩ := (HA'.out.below HL.out HH.out.2).at hlt
        obtain ⟨x, HX⟩ : ∃ x, Hid (x = fat l k) := ⟨_, rfl⟩
        obtain ⟨y, HY⟩ : ∃ x, Hid (x = fat l' k) := ⟨_, rfl⟩
        have HD : Hid ((l = l') ↔ (x = y ∧ l.drop (k + 1) = l'.drop (k + 1))) := HE.out.trans (by rw [HX.out, HY.out]; exact drop_f HN.out HN'.out hlt)
        have p0 := hx 0 (by omega)
        have q0 := hy 0 (by omega)
        rw [fC0, ← HX.out] at p0
        rw [fC0, ← HY.out] at q0
        have p1 := hx 1 (by omega)
        have q1 := hy 1 (by omega)
        rw [fC1, ← HX.out] at p1
        rw [fC1, ← HY.out] at q1
        have p2 := hx 2 (by omega)
        have q2 := hy 2 (by omega)
        rw [fC2, ← HX.out] at p2
        rw [fC2, ← HY.out] at q2
        have p3 := hx 3 (by omega)
        have q3 := hy 3 (by omega)
        rw [fC3, ← HX.out] at p3
        rw [fC3, ← HY.out] at q3
        clear hx hy
        obtain ⟨x0, x1, x2, x3⟩ := x
        obtain ⟨y0, y1, y2, y3⟩ := y
        dsimp only at p0 q0 p1 q1 p2 q2 p3 q3
        simp only [Nat.add_zero] at p0 q0
        rw [← Nat.add_assoc] at p1 q1; rw [← Nat.add_assoc] at p2 q2; rw [← Nat.add_assoc] at p3 q3
        by_cases he : (x0, x1, x2, x3) = ((y0, y1, y2, y3) : Fl)
        · have hq := fun w => neq_f x0 y0 x1 y1 x2 y2 x3 y3 true w (decide_eq_true he).symm
          have HEQ : Hid ((x0, x1, x2, x3) = ((y0, y1, y2, y3) : Fl)) := he
          clear he
          go_wp2_with fail
          go_quiet (fail)
          go_wp2
          go_roundw
          case rel => exact ⟨k + 1, by go_num, by omega, HD.out.trans ⟨fun h => h.2, fun h => ⟨HEQ.out, h⟩⟩, HL.out.trans (below_drewN (Below.refl _ _) _ |>.mono HL.out.size)⟩
          case measure => simp [intOf]; omega
        · have hq := fun w => neq_f x0 y0 x1 y1 x2 y2 x3 y3 false w (decide_eq_false he).symm
          have hf : r = false := by rw [HR.out]; exact decide_eq_false fun h => he (HD.out.1 h).1
          subst hf
          clear he
          go_wp2_with fail
          go_quiet (fail)
          go_wp2
          go_ret
          exact ⟨rfl, HL.out.trans (below_drewN (Below.refl _ _) _ |>.mono HL.out.size)⟩
      · have hf : r = true := by
          rw [HR.out]
          refine decide_eq_true (HE.out.2 ?_)
          rw [List.drop_of_length_le (by rw [HN.out]; omega), List.drop_of_length_le (by rw [HN'.out]; omega)]
        subst hf
        go_wp2
        go_ret
        exact ⟨rfl, HL⟩
  · have hne : decide ((n : Int) = (n' : Int)) = false := by simp; omega
    have hr : r = false := by rw [HR.out]; exact decide_eq_false fun h => he (by rw [← HN.out, h, HN'.out])
    subst hr
    go_enter Try.func69, Try.ntmps69
    go_wp2
    go_ret
    exact ⟨rfl, Below.refl _ _⟩

set_option maxHeartbeats 8000000 in
set_option maxRecDepth 100000 in
theorem sameQuery_any (lo hi lo' hi' : Nat) (e e' : Bool) (a b c : Option Addr) (n1 c1 n2 c2 n3 c3 : Nat) (o : List Tx) (t : List At) (f : List Fl) (a' b' c' : Option Addr) (n1' c1' n2' c2' n3' c3' : Nat) (o' : List Tx) (t' : List At) (f' : List Fl) (r : Bool) (w : World)
    (ha : QIn lo hi w a b c n1 n2 n3 (tC o) (aC t) (fC f)) (hb : QIn lo' hi' w a' b' c' n1' n2' n3' (tC o') (aC t') (fC f')) (hh : hi ≤ w.heap.size) (hh' : hi' ≤ w.heap.size) (hl : o.length = n1 ∧ t.length = n2 ∧ f.length = n3) (hl' : o'.length = n1' ∧ t'.length = n2' ∧ f'.length = n3') (hz : n1 ≤ 1048576 ∧ n2 ≤ 1048576 ∧ n3 ≤ 1048576) (hr : r = decide (e = e' ∧ o = o' ∧ t = t' ∧ f = f')) :
    Calls Try.prog 29 #[qv e a n1 c1 b n2 c2 c n3 c3, qv e' a' n1' c1' b' n2' c2' c' n3' c3'] w fun e w' => e = .returned (.bool r) ∧ Hid (Below w.heap.size w w') := by
  obtain ⟨B, HB⟩ : ∃ B, Hid (B = w.heap.size) := ⟨_, rfl⟩
  obtain ⟨W, HW⟩ : ∃ W, Hid (W = (w.alloc (.cells #[.bool e, .slice a n1 c1, .slice b n2 c2, .slice c n3 c3] 52)).alloc (.cells #[.bool e', .slice a' n1' c1', .slice b' n2' c2', .slice c' n3' c3'] 52)) := ⟨_, rfl⟩
  have HBW : Hid (Below w.heap.size w W) := by rw [HW.out]; exact below2 w _ _
  have HQ : Hid (Blk W B 4 (q4 (.bool e) (.slice a n1 c1) (.slice b n2 c2) (.slice c n3 c3))) := by rw [HW.out]; exact (blk_four w B HB.out _ _ _ _ _).alloc _
  have HP : Hid (Blk W (B + 1) 4 (q4 (.bool e') (.slice a' n1' c1') (.slice b' n2' c2') (.slice c' n3' c3'))) := by rw [HW.out]; exact blk_four _ (B + 1) (by rw [HB.out]; simp) _ _ _ _ _
  obtain ⟨u, HU⟩ : ∃ u : Bool, Hid (u = decide (o = o')) := ⟨_, rfl⟩
  obtain ⟨v, HV⟩ : ∃ u : Bool, Hid (u = decide (t = t')) := ⟨_, rfl⟩
  obtain ⟨x, HX⟩ : ∃ u : Bool, Hid (u = decide (f = f')) := ⟨_, rfl⟩
  have HR : Hid (r = (decide (e = e') && u && v && x)) := by show _ = _; rw [hr, HU.out, HV.out, HX.out]; simp [Bool.and_assoc]
  have HC1 : Hid (∀ w0, Below w.heap.size w w0 → Calls Try.prog 67 #[.slice a n1 c1, .slice a' n1' c1'] w0 fun e w' => e = .returned (.bool u) ∧ Hid (Below w0.heap.size w0 w')) := fun w0 h => equalT_any lo hi lo' hi' a a' n1 n1' c1 c1' o o' u w0 (ha.1.below h hh) (hb.1.below h hh') (Nat.le_trans hh h.size) (Nat.le_trans hh' h.size) hl.1 hl'.1 (by omega) HU.out
  have HC2 : Hid (∀ w0, Below w.heap.size w w0 → Calls Try.prog 68 #[.slice b n2 c2, .slice b' n2' c2'] w0 fun e w' => e = .returned (.bool v) ∧ Hid (Below w0.heap.size w0 w')) := fun w0 h => equalA_any lo hi lo' hi' b b' n2 n2' c2 c2' t t' v w0 (ha.2.1.below h hh) (hb.2.1.below h hh') (Nat.le_trans hh h.size) (Nat.le_trans hh' h.size) hl.2.1 hl'.2.1 (by omega) HV.out
  have HC3 : Hid (∀ w0, Below w.heap.size w w0 → Calls Try.prog 69 #[.slice c n3 c3, .slice c' n3' c3'] w0 fun e w' => e = .returned (.bool x) ∧ Hid (Below w0.heap.size w0 w')) := fun w0 h => equalF_any lo hi lo' hi' c c' n3 n3' c3 c3' f f' x w0 (ha.2.2.below h hh) (hb.2.2.below h hh') (Nat.le_trans hh h.size) (Nat.le_trans hh' h.size) hl.2.2 hl'.2.2 (by omega) HX.out
  clear ha hb hh hh' hl hl' hz hr
  obtain ⟨q0, q1, q2, q3⟩ := q_cells HQ.out
  obtain ⟨p0, p1, p2, p3⟩ := q_cells HP.out
  by_cases he : e = e'
  · subst he
    have HR2 : Hid (r = (u && v && x)) := by show _ = _; rw [HR.out]; simp
    go_enter Try.func29, Try.ntmps29
    go_upto_region 1 with fail
    rw [← HB.out, ← HW.out]
    clear HW
    cases e
    all_goals
      go_wp2_with fail
      refine (HC1.out _ HBW.out).mono ?_
      rintro e1 w1 ⟨rfl, HB1⟩
      have HBX1 : Hid (Below w.heap.size w w1) := HBW.out.trans (HB1.out.mono HBW.out.size)
      rcases Bool.eq_false_or_eq_true u with hu | hu
      · subst hu
        obtain ⟨q0', q1', q2', q3'⟩ := q_cells (HQ.out.of_block (HB1.out.block _ HQ.out.lt))
        obtain ⟨p0', p1', p2', p3'⟩ := q_cells (HP.out.of_block (HB1.out.block _ HP.out.lt))
        go_wp2_with fail
        refine (HC2.out _ HBX1.out).mono ?_
        rintro e2 w2 ⟨rfl, HB2⟩
        have HBX2 : Hid (Below w.heap.size w w2) := HBX1.out.trans (HB2.out.mono HBX1.out.size)
        rcases Bool.eq_false_or_eq_true v with hv | hv
        · subst hv
          obtain ⟨q0'', q1'', q2'', q3''⟩ := q_cells ((HQ.out.of_block (HB1.out.block _ HQ.out.lt)).of_block (HB2.out.block _ (Nat.lt_of_lt_of_le HQ.out.lt HB1.out.size)))
          obtain ⟨p0'', p1'', p2'', p3''⟩ := q_cells ((HP.out.of_block (HB1.out.block _ HP.out.lt)).of_block (HB2.out.block _ (Nat.lt_of_lt_of_le HP.out.lt HB1.out.size)))
          go_wp2_with fail
          refine (HC3.out _ HBX2.out).mono ?_
          rintro e3 w3 ⟨rfl, HB3⟩
          have HBX3 : Hid (Below w.heap.size w w3) := HBX2.out.trans (HB3.out.mono HBX2.out.size)
          have HRX : Hid (r = x) := by show _ = _; rw [HR2.out]; simp
          rcases Bool.eq_false_or_eq_true x with hx | hx
          all_goals
            subst hx
            go_wp2
            go_ret
            exact ⟨by rw [HRX.out]; rfl, HBX3⟩
        · subst hv
          have hf : r = false := by rw [HR2.out]; simp
          subst hf
          go_wp2
          go_ret
          exact ⟨rfl, HBX2⟩
      · subst hu
        have hf : r = false := by rw [HR2.out]; simp
        subst hf
        go_wp2
        go_ret
        exact ⟨rfl, HBX1⟩
  · have hf : r = false := by rw [HR.out]; simp [he]
    subst hf
    go_enter Try.func29, Try.ntmps29
    go_upto_region 1 with fail
    rw [← HB.out, ← HW.out]
    clear HW
    cases e <;> cases e' <;> first | exact absurd rfl he | skip
    all_goals
      go_wp2
      go_ret
      exact ⟨rfl, HBW⟩

set_option maxHeartbeats 8000000 in
set_option maxRecDepth 100000 in
theorem specSameQuery_any (lo hi lo' hi' : Nat) (e e' : Bool) (a b c : Option Addr) (n1 c1 n2 c2 n3 c3 : Nat) (o : List Tx) (t : List At) (f : List Fl) (a' b' c' : Option Addr) (n1' c1' n2' c2' n3' c3' : Nat) (o' : List Tx) (t' : List At) (f' : List Fl) (r : Bool) (w : World)
    (ha : QIn lo hi w a b c n1 n2 n3 (tC o) (aC t) (fC f)) (hb : QIn lo' hi' w a' b' c' n1' n2' n3' (tC o') (aC t') (fC f')) (hh : hi ≤ w.heap.size) (hh' : hi' ≤ w.heap.size) (hl : o.length = n1 ∧ t.length = n2 ∧ f.length = n3) (hl' : o'.length = n1' ∧ t'.length = n2' ∧ f'.length = n3') (hz : n1 ≤ 1048576 ∧ n2 ≤ 1048576 ∧ n3 ≤ 1048576) (hr : r = decide (e = e' ∧ o = o' ∧ t = t' ∧ f = f')) :
    Calls Try.prog 28 #[qv e a n1 c1 b n2 c2 c n3 c3, qv e' a' n1' c1' b' n2' c2' c' n3' c3'] w fun e w' => e = .returned (.bool r) ∧ Hid (Below w.heap.size w w') := by
  obtain ⟨B, HB⟩ : ∃ B, Hid (B = w.heap.size) := ⟨_, rfl⟩
  obtain ⟨W, HW⟩ : ∃ W, Hid (W = (w.alloc (.cells #[.bool e, .slice a n1 c1, .slice b n2 c2, .slice c n3 c3] 52)).alloc (.cells #[.bool e', .slice a' n1' c1', .slice b' n2' c2', .slice c' n3' c3'] 52)) := ⟨_, rfl⟩
  have HBW : Hid (Below w.heap.size w W) := by rw [HW.out]; exact below2 w _ _
  have HQ : Hid (Blk W B 4 (q4 (.bool e) (.slice a n1 c1) (.slice b n2 c2) (.slice c n3 c3))) := by rw [HW.out]; exact (blk_four w B HB.out _ _ _ _ _).alloc _
  have HP : Hid (Blk W (B + 1) 4 (q4 (.bool e') (.slice a' n1' c1') (.slice b' n2' c2') (.slice c' n3' c3'))) := by rw [HW.out]; exact blk_four _ (B + 1) (by rw [HB.out]; simp) _ _ _ _ _
  obtain ⟨u, HU⟩ : ∃ u : Bool, Hid (u = decide (o = o')) := ⟨_, rfl⟩
  obtain ⟨v, HV⟩ : ∃ u : Bool, Hid (u = decide (t = t')) := ⟨_, rfl⟩
  obtain ⟨x, HX9⟩ : ∃ u : Bool, Hid (u = decide (f = f')) := ⟨_, rfl⟩
  have HR : Hid (r = (decide (e = e') && u && v && x)) := by show _ = _; rw [hr, HU.out, HV.out, HX9.out]; simp [Bool.and_assoc]
  have HC1 : Hid (∀ w0, Below w.heap.size w w0 → Calls Try.prog 66 #[.slice a n1 c1, .slice a' n1' c1'] w0 fun e w' => e = .returned (.bool u) ∧ Hid (Below w0.heap.size w0 w')) := fun w0 h => l08Texts_any lo hi lo' hi' a a' n1 n1' c1 c1' o o' u w0 (ha.1.below h hh) (hb.1.below h hh') (Nat.le_trans hh h.size) (Nat.le_trans hh' h.size) hl.1 hl'.1 (by omega) HU.out
  have HA2w : Hid (FlIn 3 lo hi w b n2 (aC t)) := ha.2.1
  have HA2w' : Hid (FlIn 3 lo' hi' w b' n2' (aC t')) := hb.2.1
  have HA3w : Hid (FlIn 4 lo hi w c n3 (fC f)) := ha.2.2
  have HA3w' : Hid (FlIn 4 lo' hi' w c' n3' (fC f')) := hb.2.2
  have HHw : Hid (hi ≤ w.heap.size ∧ hi' ≤ w.heap.size) := ⟨hh, hh'⟩
  have HN2 : Hid (t.length = n2) := hl.2.1
  have HN2w : Hid (t'.length = n2') := hl'.2.1
  have HN3 : Hid (f.length = n3) := hl.2.2
  have HN3w : Hid (f'.length = n3') := hl'.2.2
  have hz2 : n2 ≤ 1048576 := hz.2.1
  have hz3 : n3 ≤ 1048576 := hz.2.2
  clear ha hb hh hh' hl hl' hz hr
  obtain ⟨q0, q1, q2, q3⟩ := q_cells HQ.out
  obtain ⟨p0, p1, p2, p3⟩ := q_cells HP.out
  by_cases he : e = e'
  · subst he
    have HR2 : Hid (r = (u && v && x)) := by show _ = _; rw [HR.out]; simp
    go_enter Try.func28, Try.ntmps28
    obtain ⟨FF, HFF⟩ : ∃ F : Func, Hid (F = Try.f28) := ⟨_, rfl⟩
    rw [← HFF.out]
    go_upto_region 1 with fail
    rw [← HB.out, ← HW.out]
    clear HW
    have hee : (e == e) = true := by simp
    have hen : (!e == e) = false := by simp
    go_wp2_with fail
    refine (HC1.out _ HBW.out).mono ?_
    rintro e1 w1 ⟨rfl, HB1⟩
    have HBX1 : Hid (Below w.heap.size w w1) := HBW.out.trans (HB1.out.mono HBW.out.size)
    have HQ1 : Hid (Blk w1 B 4 (q4 (.bool e) (.slice a n1 c1) (.slice b n2 c2) (.slice c n3 c3))) := HQ.out.of_block (HB1.out.block _ HQ.out.lt)
    have HP1 : Hid (Blk w1 (B + 1) 4 (q4 (.bool e) (.slice a' n1' c1') (.slice b' n2' c2') (.slice c' n3' c3'))) := HP.out.of_block (HB1.out.block _ HP.out.lt)
    clear q0 q1 q2 q3 p0 p1 p2 p3 hee hen
    rcases Bool.eq_false_or_eq_true u with hu | hu
    · subst hu
      obtain ⟨q0, q1, q2, q3⟩ := q_cells HQ1.out
      obtain ⟨p0, p1, p2, p3⟩ := q_cells HP1.out
      by_cases hn2 : n2 = n2'
      · subst hn2
        by_cases hn3 : n3 = n3'
        · subst hn3
          have HN2' : Hid (t'.length = n2) := HN2w
          have HN3' : Hid (f'.length = n3) := HN3w
          have HA2 : Hid (FlIn 3 lo hi w1 b n2 (aC t)) := HA2w.out.below HBX1.out HHw.out.1
          have HA2' : Hid (FlIn 3 lo' hi' w1 b' n2 (aC t')) := HA2w'.out.below HBX1.out HHw.out.2
          have HA3 : Hid (FlIn 4 lo hi w1 c n3 (fC f)) := HA3w.out.below HBX1.out HHw.out.1
          have HA3' : Hid (FlIn 4 lo' hi' w1 c' n3 (fC f')) := HA3w'.out.below HBX1.out HHw.out.2
          have HH : Hid (hi ≤ w1.heap.size ∧ hi' ≤ w1.heap.size) := ⟨Nat.le_trans HHw.out.1 HBX1.out.size, Nat.le_trans HHw.out.2 HBX1.out.size⟩
          clear HA2w HA2w' HA3w HA3w' HHw HN2w HN3w
          go_wp2
          clear q0 q1 q2 q3 p0 p1 p2 p3
          go_loopw [5] (fun i wr => ∃ k : Nat, i = .int .i64 k ∧ k ≤ n2 ∧ Hid (t = t' ↔ t.drop k = t'.drop k) ∧ Hid (Below w1.heap.size w1 wr)) (fun i _ => n2 - (intOf i).toNat)
          case atStart => exact ⟨0, rfl, by omega, by show _ ↔ _; simp, Below.refl _ _⟩
          case round =>
            obtain ⟨k, rfl, hk, HE, HL⟩ := hrel
            obtain ⟨z0, z1, z2, z3⟩ := q_cells (HQ1.out.of_block (HL.out.block _ HQ1.out.lt))
            obtain ⟨y0, y1, y2, y3⟩ := q_cells (HP1.out.of_block (HL.out.block _ HP1.out.lt))
            by_cases hlt : k < n2
            · have hlt1 : (k : Int) < (n2 : Int) := by omega
              have hlt0 : 0 ≤ (k : Int) := by omega
              obtain ⟨b, o, rfl, _, _, hx⟩ := (HA2.out.below HL.out HH.out.1).at hlt
              obtain ⟨b', o', rfl, _, _, hy⟩ := (HA2'.out.below HL.out HH.out.2).at hlt
              obtain ⟨x, HX⟩ : ∃ x, Hid (x = aat t k) := ⟨_, rfl⟩
              obtain ⟨y, HY⟩ : ∃ x, Hid (x = aat t' k) := ⟨_, rfl⟩
              have HD : Hid ((t = t') ↔ (x = y ∧ t.drop (k + 1) = t'.drop (k + 1))) := HE.out.trans (by rw [HX.out, HY.out]; exact drop_a HN2.out HN2'.out hlt)
              have p0 := hx 0 (by omega)
              have q0 := hy 0 (by omega)
              rw [aC0, ← HX.out] at p0
              rw [aC0, ← HY.out] at q0
              have p1 := hx 1 (by omega)
              have q1 := hy 1 (by omega)
              rw [aC1, ← HX.out] at p1
              rw [aC1, ← HY.out] at q1
              have p2 := hx 2 (by omega)
              have q2 := hy 2 (by omega)
              rw [aC2, ← HX.out] at p2
              rw [aC2, ← HY.out] at q2
              clear hx hy
              obtain ⟨x0, x1, x2⟩ := x
              obtain ⟨y0, y1, y2⟩ := y
              dsimp only at p0 q0 p1 q1 p2 q2
              simp only [Nat.add_zero] at p0 q0
              rw [← Nat.add_assoc] at p1 q1; rw [← Nat.add_assoc] at p2 q2
              by_cases he : (x0, x1, x2) = ((y0, y1, y2) : At)
              · have hq := fun w => neq_a x0 y0 x1 y1 x2 y2 true w (decide_eq_true he).symm
                have HEQ : Hid ((x0, x1, x2) = ((y0, y1, y2) : At)) := he
                clear he
                go_wp2_with fail
                go_quiet (fail)
                go_wp2
                go_roundw
                case rel => exact ⟨k + 1, by go_num, by omega, HD.out.trans ⟨fun h => h.2, fun h => ⟨HEQ.out, h⟩⟩, HL.out.trans (below_drewN (Below.refl _ _) _ |>.mono HL.out.size)⟩
                case measure => simp [intOf]; omega
              · have hq := fun w => neq_a x0 y0 x1 y1 x2 y2 false w (decide_eq_false he).symm
                have hf : r = false := by rw [HR2.out, HV.out, decide_eq_false fun h => he (HD.out.1 h).1]; simp
                subst hf
                clear he
                go_wp2_with fail
                go_quiet (fail)
                go_wp2
                obtain rfl : FF = Try.f28 := HFF.out
                go_ret
                exact ⟨rfl, (HBX1.out.trans (HL.out.mono HBX1.out.size)).trans (below_drewN (Below.refl _ _) _ |>.mono (Nat.le_trans HBX1.out.size HL.out.size))⟩
            · have HVT : Hid (v = true) := by
                show _ = _
                rw [HV.out]
                refine decide_eq_true (HE.out.2 ?_)
                rw [List.drop_of_length_le (by rw [HN2.out]; omega), List.drop_of_length_le (by rw [HN2'.out]; omega)]
              have HR3 : Hid (r = x) := by show _ = _; rw [HR2.out, HVT.out]; simp
              obtain ⟨X, HXX⟩ : ∃ X, Hid (X = wr) := ⟨_, rfl⟩
              go_wp2
              clear z0 z1 z2 z3 y0 y1 y2 y3
              rw [← HXX.out] at HL ⊢
              clear HXX HE
              go_loopw [6] (fun i wr => ∃ k : Nat, i = .int .i64 k ∧ k ≤ n3 ∧ Hid (f = f' ↔ f.drop k = f'.drop k) ∧ Hid (Below w1.heap.size w1 wr)) (fun i _ => n3 - (intOf i).toNat)
              case atStart => exact ⟨0, rfl, by omega, by show _ ↔ _; simp, HL⟩
              case round =>
                obtain ⟨k, rfl, hk, HE, HL3⟩ := hrel
                obtain ⟨z0, z1, z2, z3⟩ := q_cells (HQ1.out.of_block (HL3.out.block _ HQ1.out.lt))
                obtain ⟨y0, y1, y2, y3⟩ := q_cells (HP1.out.of_block (HL3.out.block _ HP1.out.lt))
                by_cases hlt : k < n3
                · have hlt1 : (k : Int) < (n3 : Int) := by omega
                  have hlt0 : 0 ≤ (k : Int) := by omega
                  obtain ⟨b, o, rfl, _, _, hx⟩ := (HA3.out.below HL3.out HH.out.1).at hlt
                  obtain ⟨b', o', rfl, _, _, hy⟩ := (HA3'.out.below HL3.out HH.out.2).at hlt
                  obtain ⟨x, HX⟩ : ∃ x, Hid (x = fat f k) := ⟨_, rfl⟩
                  obtain ⟨y, HY⟩ : ∃ x, Hid (x = fat f' k) := ⟨_, rfl⟩
                  have HD : Hid ((f = f') ↔ (x = y ∧ f.drop (k + 1) = f'.drop (k + 1))) := HE.out.trans (by rw [HX.out, HY.out]; exact drop_f HN3.out HN3'.out hlt)
                  have p0 := hx 0 (by omega)
                  have q0 := hy 0 (by omega)
                  rw [fC0, ← HX.out] at p0
                  rw [fC0, ← HY.out] at q0
                  have p1 := hx 1 (by omega)
                  have q1 := hy 1 (by omega)
                  rw [fC1, ← HX.out] at p1
                  rw [fC1, ← HY.out] at q1
                  have p2 := hx 2 (by omega)
                  have q2 := hy 2 (by omega)
                  rw [fC2, ← HX.out] at p2
                  rw [fC2, ← HY.out] at q2
                  have p3 := hx 3 (by omega)
                  have q3 := hy 3 (by omega)
                  rw [fC3, ← HX.out] at p3
                  rw [fC3, ← HY.out] at q3
                  clear hx hy
                  obtain ⟨x0, x1, x2, x3⟩ := x
                  obtain ⟨y0, y1, y2, y3⟩ := y
                  dsimp only at p0 q0 p1 q1 p2 q2 p3 q3
                  simp only [Nat.add_zero] at p0 q0
                  rw [← Nat.add_assoc] at p1 q1; rw [← Nat.add_assoc] at p2 q2; rw [← Nat.add_assoc] at p3 q3
                  by_cases he : (x0, x1, x2, x3) = ((y0, y1, y2, y3) : Fl)
                  · have hq := fun w => neq_f x0 y0 x1 y1 x2 y2 x3 y3 true w (decide_eq_true he).symm
                    have HEQ : Hid ((x0, x1, x2, x3) = ((y0, y1, y2, y3) : Fl)) := he
                    clear he
                    go_wp2_with fail
                    go_quiet (fail)
                    go_wp2
                    go_roundw
                    case rel => exact ⟨k + 1, by go_num, by omega, HD.out.trans ⟨fun h => h.2, fun h => ⟨HEQ.out, h⟩⟩, HL3.out.trans (below_drewN (Below.refl _ _) _ |>.mono HL3.out.size)⟩
                    case measure => simp [intOf]; omega
                  · have hq := fun w => neq_f x0 y0 x1 y1 x2 y2 x3 y3 false w (decide_eq_false he).symm
                    have hf : r = false := by rw [HR2.out, HX9.out, decide_eq_false fun h => he (HD.out.1 h).1]; simp
                    subst hf
                    clear he
                    go_wp2_with fail
                    go_quiet (fail)
                    go_wp2
                    obtain rfl : FF = Try.f28 := HFF.out
                    go_ret
                    exact ⟨rfl, (HBX1.out.trans (HL3.out.mono HBX1.out.size)).trans (below_drewN (Below.refl _ _) _ |>.mono (Nat.le_trans HBX1.out.size HL3.out.size))⟩
                · have hf : r = true := by
                    rw [HR3.out, HX9.out]
                    refine decide_eq_true (HE.out.2 ?_)
                    rw [List.drop_of_length_le (by rw [HN3.out]; omega), List.drop_of_length_le (by rw [HN3'.out]; omega)]
                  subst hf
                  go_wp2
                  obtain rfl : FF = Try.f28 := HFF.out
                  go_ret
                  exact ⟨rfl, HBX1.out.trans (HL3.out.mono HBX1.out.size)⟩
        · have hne : decide ((n3 : Int) = (n3' : Int)) = false := by simp; omega
          have hf : r = false := by rw [HR2.out, HX9.out, decide_eq_false fun h => hn3 (by rw [← HN3.out, h, HN3w.out])]; simp
          subst hf
          go_wp2
          obtain rfl : FF = Try.f28 := HFF.out
          go_ret
          exact ⟨rfl, HBX1⟩
      · have hne : decide ((n2 : Int) = (n2' : Int)) = false := by simp; omega
        have hf : r = false := by rw [HR2.out, HV.out, decide_eq_false fun h => hn2 (by rw [← HN2.out, h, HN2w.out])]; simp
        subst hf
        go_wp2
        obtain rfl : FF = Try.f28 := HFF.out
        go_ret
        exact ⟨rfl, HBX1⟩
    · subst hu
      have hf : r = false := by rw [HR2.out]; simp
      subst hf
      go_wp2
      obtain rfl : FF = Try.f28 := HFF.out
      go_ret
      exact ⟨rfl, HBX1⟩
  · have hf : r = false := by rw [HR.out]; simp [he]
    subst hf
    go_enter Try.func28, Try.ntmps28
    go_upto_region 1 with fail
    rw [← HB.out, ← HW.out]
    clear HW
    cases e <;> cases e' <;> first | exact absurd rfl he | skip
    all_goals
      go_wp2
      go_ret
      exact ⟨rfl, HBW⟩
end Go.Proofs.Ytkcflhlipdnbnaa
