/-
  Names of questions: impl.QueryName, spec.QueryName.
-/
import Derived.Test.YtkcflhlipdnbnaaRowC
import Derived.Deep.DeepCutAuto
import Derived.Laws.RangeAny
namespace Go.Proofs.Ytkcflhlipdnbnaa
open Go.RowKit

/-- the byte at a place, 0 behind the end -/
def btq (s : ByteArray) (i : Nat) : Nat := if h : i < s.size then s[i].toNat else 0
theorem btq_lt {s : ByteArray} {i : Nat} (h : i < s.size) : btq s i = s[i].toNat := by simp [btq, h]
/-- a small letter -/
def isLet (b : Nat) : Bool := decide (97 ≤ b) && decide (b ≤ 122)
/-- the first k bytes are letters -/
def letTo (s : ByteArray) (k : Nat) : Bool := (List.range k).all fun i => isLet (btq s i)
theorem letTo_succ (s : ByteArray) (k : Nat) : letTo s (k + 1) = (letTo s k && isLet (btq s k)) := by simp [letTo, List.range_succ]
theorem letTo_no {s : ByteArray} {i k : Nat} (h : i < k) (h1 : isLet (btq s i) = false) : letTo s k = false := by
  rw [Bool.eq_false_iff]
  intro e
  have := List.all_eq_true.1 e i (List.mem_range.2 h)
  rw [h1] at this; cases this
/-- the word each -/
def eachT : ByteArray := ⟨#[101, 97, 99, 104]⟩
theorem eachT_list : eachT.toList = [101, 97, 99, 104] := by decide +kernel
/-- a name -/
def qname (s : ByteArray) : Bool := letTo s s.size && (decide (1 ≤ s.size) && decide (s.size ≤ 4)) && !(s.toList == eachT.toList)

theorem isLetter_any (x : Int) (r : Bool) (w : World) (hr : r = (decide (97 ≤ x) && decide (x ≤ 122))) : Calls Try.prog 52 #[.int .i32 x] w fun e w' => e = .returned (.bool r) ∧ w = w' := by
  by_cases h1 : 97 ≤ x
  · obtain ⟨d, hd⟩ : ∃ d, decide (x ≤ 122) = d := ⟨_, rfl⟩
    have hr2 : r = d := by rw [hr, hd]; simp [h1]
    subst hr2
    clear hr
    go_enter Try.func52, Try.ntmps52
    go_wp2
    go_ret
    exact ⟨rfl, rfl⟩
  · have hr2 : r = false := by rw [hr]; simp [h1]
    subst hr2
    clear hr
    go_enter Try.func52, Try.ntmps52
    go_wp2
    go_ret
    exact ⟨rfl, rfl⟩

set_option maxHeartbeats 2000000 in
theorem specQName_any (T : ByteArray) (n : Nat) (r : Bool) (w : World) (hn : T.size = n) (hm : n ≤ 1048576) (hr : r = qname T) : Calls Try.prog 17 #[.string T] w fun e w' => e = .returned (.bool r) ∧ w = w' := by
  have HN : Hid (T.size = n) := hn
  have HR : Hid (r = (letTo T n && (decide (1 ≤ n) && decide (n ≤ 4)) && !(T.toList == eachT.toList))) := by show _ = _; rw [hr]; unfold qname; rw [hn]
  have hsz : (T.size : Int) = (n : Int) := by rw [hn]
  clear hn hr
  go_enter Try.func17, Try.ntmps17
  go_wp2
  go_loop [3] (fun i => ∃ k : Nat, i = .int .i64 k ∧ k ≤ n ∧ Hid (letTo T k = true)) (fun i => n - (intOf i).toNat)
  case atStart => exact ⟨0, rfl, by omega, rfl⟩
  case round =>
    obtain ⟨k, rfl, hk, HE⟩ := hrel
    by_cases hlt : k < n
    · have hlt1 : (k : Int) < (n : Int) := by omega
      have hlt0 : (0 : Int) ≤ (k : Int) := by omega
      have hkT : k < T.size := by rw [HN.out]; exact hlt
      have hk2 : (k : Int) < (T.size : Int) := by omega
      have HB : Hid ((T[k]'hkT).toNat = btq T k) := by show _ = _; rw [btq_lt hkT]
      by_cases h1 : (((T[k]'hkT).toNat : Nat) : Int) < 97
      · have hf : Hid (r = false) := by
          show _ = _
          rw [HR.out, letTo_no hlt (by rw [← HB.out]; unfold isLet; simp; omega)]; rfl
        go_wp2
        go_ret
        exact ⟨by rw [hf.out]; rfl, rfl⟩
      · by_cases h2 : (((T[k]'hkT).toNat : Nat) : Int) > 122
        · have hf : Hid (r = false) := by
            show _ = _
            rw [HR.out, letTo_no hlt (by rw [← HB.out]; unfold isLet; simp; omega)]; rfl
          go_wp2
          go_ret
          exact ⟨by rw [hf.out]; rfl, rfl⟩
        · have HS : Hid (letTo T (k + 1) = true) := by
            show _ = _
            rw [letTo_succ, HE.out, ← HB.out]; unfold isLet; simp; omega
          go_wp2
          go_roundw
          case rel => exact ⟨k + 1, by go_num, by omega, HS⟩
          case measure => simp [intOf]; omega
    · obtain rfl : k = n := by omega
      obtain ⟨d, HD⟩ : ∃ d, Hid (d = (decide (1 ≤ (k : Int)) && decide ((k : Int) ≤ 4))) := ⟨_, rfl⟩
      obtain ⟨e, he⟩ : ∃ e, (T.toList == eachT.toList) = e := ⟨_, rfl⟩
      have HRD : Hid (r = (d && !e)) := by
        show _ = _
        rw [HR.out, HE.out, HD.out, he, show decide (1 ≤ (k : Int)) = decide (1 ≤ k) from decide_eq_decide.2 (by omega), show decide ((k : Int) ≤ 4) = decide (k ≤ 4) from decide_eq_decide.2 (by omega), Bool.true_and]
      have HC : Hid (∀ w0, Calls Try.prog 51 #[.int .i64 (k : Int), .int .i64 1, .int .i64 4] w0 fun e w' => e = .returned (.bool d) ∧ w0 = w') := fun w0 => by rw [HD.out]; exact l01In_any (k : Int) 1 4 w0
      have he2 : (T.toList == [101, 97, 99, 104]) = e := by rw [← eachT_list]; exact he
      rcases Bool.eq_false_or_eq_true d with hd | hd
      all_goals
        subst hd
        go_wp2_with (go_at_call 51; refine (HC.out _).mono ?_; rintro e w1' ⟨rfl, rfl⟩)
        go_ret
        exact ⟨by rw [HRD.out]; first | rfl | simp [he2], rfl⟩

set_option maxHeartbeats 4000000 in
theorem queryName_any (T : ByteArray) (n : Nat) (r : Bool) (w : World) (hn : T.size = n) (hm : n ≤ 9223372036854775807) (hr : r = qname T) : Calls Try.prog 18 #[.string T] w fun e w' => e = .returned (.bool r) ∧ Hid (Below w.heap.size w w') := by
  have HN : Hid (T.size = n) := hn
  have HR : Hid (r = (letTo T n && (decide (1 ≤ n) && decide (n ≤ 4)) && !(T.toList == eachT.toList))) := by show _ = _; rw [hr]; unfold qname; rw [hn]
  have hsz : (T.size : Int) = (n : Int) := by rw [hn]
  clear hr
  by_cases h1 : n < 1
  · have h1' : (n : Int) < 1 := by omega
    have hf : r = false := by rw [HR.out]; simp; omega
    subst hf
    clear hn
    go_enter Try.func18, Try.ntmps18
    go_wp2
    go_ret
    exact ⟨rfl, Below.refl _ _⟩
  · have h1' : ¬ (n : Int) < 1 := by omega
    by_cases h4 : 4 < n
    · have h4' : (n : Int) > 4 := by omega
      have hf : r = false := by rw [HR.out]; simp; omega
      subst hf
      clear hn
      go_enter Try.func18, Try.ntmps18
      go_wp2
      go_ret
      exact ⟨rfl, Below.refl _ _⟩
    · have h4' : ¬ (n : Int) > 4 := by omega
      rcases Bool.eq_false_or_eq_true (T.toList == eachT.toList) with he | he
      · have hf : r = false := by rw [HR.out, he]; simp
        have he2 : (T.toList == [101, 97, 99, 104]) = true := by rw [← eachT_list]; exact he
        subst hf
        clear hn
        go_enter Try.func18, Try.ntmps18
        go_wp2
        go_ret
        exact ⟨rfl, Below.refl _ _⟩
      · have he2 : (T.toList == [101, 97, 99, 104]) = false := by rw [← eachT_list]; exact he
        have HR2 : Hid (r = letTo T n) := by show _ = _; rw [HR.out, he]; simp; omega
        subst hn
        clear hsz
        go_enter Try.func18, Try.ntmps18
        go_wp2
        go_loopw [4] (fun _ w' => ∃ pos, pos ≤ T.size ∧ w' = w.iter T pos ∧ Hid (letTo T pos = true)) (fun _ w' => T.size - w'.iterPos w.heap.size)
        case atStart => exact ⟨0, by omega, rfl, rfl⟩
        case round =>
          obtain ⟨pos, hp, rfl, HE⟩ := hrel
          by_cases hlt : pos < T.size
          · have HB : Hid ((T[pos]'hlt).toNat = btq T pos) := by show _ = _; rw [btq_lt hlt]
            by_cases ha : (T[pos]'hlt).toNat < 128
            · have hnx := fun ty => run_next_ascii (P := Try.prog) w T pos ty hlt ha
              obtain ⟨b, HBB⟩ : ∃ b : Nat, Hid (b = (T[pos]'hlt).toNat) := ⟨_, rfl⟩
              rw [← HBB.out] at hnx
              obtain ⟨q, HQ⟩ : ∃ q : Bool, Hid (q = (decide (97 ≤ (b : Int)) && decide ((b : Int) ≤ 122))) := ⟨_, rfl⟩
              have HQL : Hid (q = isLet (btq T pos)) := by show _ = _; rw [HQ.out, ← HB.out, ← HBB.out]; unfold isLet; rw [show decide (97 ≤ (b : Int)) = decide (97 ≤ b) from decide_eq_decide.2 (by omega), show decide ((b : Int) ≤ 122) = decide (b ≤ 122) from decide_eq_decide.2 (by omega)]
              have HS : Hid (q = true → letTo T (pos + 1) = true) := fun h => by rw [letTo_succ, HE.out, ← HQL.out, h]; rfl
              have HF : Hid (q = false → r = false) := fun h => by rw [HR2.out]; exact letTo_no hlt (by rw [← HQL.out]; exact h)
              clear ha
              rcases Bool.eq_false_or_eq_true q with hq | hq
              · subst hq
                go_wp2_with (go_at_call 52; refine (isLetter_any (b : Int) true _ HQ.out).mono ?_; rintro e w1 ⟨rfl, rfl⟩)
                go_roundw
                case rel => exact ⟨pos + 1, by omega, rfl, HS.out (by simp)⟩
                case measure => simp; omega
              · subst hq
                go_wp2_with (go_at_call 52; refine (isLetter_any (b : Int) false _ HQ.out).mono ?_; rintro e w1 ⟨rfl, rfl⟩)
                go_ret
                exact ⟨by rw [HF.out (by simp)]; rfl, (Below.refl _ _).alloc (Nat.le_refl _) _⟩
            · have hnx := fun ty => run_next_any (P := Try.prog) w T pos ty hlt
              have hhi := decode_high T pos hlt (by omega)
              obtain ⟨b, HBB⟩ : ∃ b : Nat, Hid (b = (Utf8.decode T pos).1) := ⟨_, rfl⟩
              obtain ⟨p2, HP2⟩ : ∃ b : Nat, Hid (b = pos + (Utf8.decode T pos).2) := ⟨_, rfl⟩
              rw [← HBB.out, ← HP2.out] at hnx
              have hf : r = false := by rw [HR2.out]; exact letTo_no hlt (by rw [← HB.out]; unfold isLet; simp; omega)
              have HQ : Hid (false = (decide (97 ≤ (b : Int)) && decide ((b : Int) ≤ 122))) := by show _ = _; have := hhi.1; rw [← HBB.out] at this; simp; omega
              subst hf
              clear ha hhi
              go_wp2_with (go_at_call 52; refine (isLetter_any (b : Int) false _ HQ.out).mono ?_; rintro e w1 ⟨rfl, rfl⟩)
              go_ret
              exact ⟨rfl, (Below.refl _ _).alloc (Nat.le_refl _) _⟩
          · have hnx := fun ty => run_next_end (P := Try.prog) w T pos ty hlt
            obtain rfl : pos = T.size := by omega
            have hf : r = true := by rw [HR2.out, HE.out]
            subst hf
            go_wp2
            go_ret
            exact ⟨rfl, (Below.refl _ _).alloc (Nat.le_refl _) _⟩

set_option maxHeartbeats 2000000 in
theorem law_4 (s : ByteArray) (w : World) (hs : s.size ≤ maxLen) : Calls Try.prog 4 #[.string s] w fun e w' => e = .returned (.bool true) ∧ Below w.heap.size w w' := by
  obtain ⟨r, HR⟩ : ∃ r, Hid (r = qname s) := ⟨_, rfl⟩
  unfold maxLen at hs
  by_cases hb : s.size ≤ 1048576
  · have h1 : ¬ (s.size : Int) > 1048576 := by omega
    go_enter Try.func4, Try.ntmps4
    go_wp2_with (first | (go_at_call 17; refine (specQName_any s _ r _ rfl hb HR.out).mono ?_; rintro e w1 ⟨rfl, rfl⟩) | (go_at_call 18; refine (queryName_any s _ r _ rfl hs HR.out).mono ?_; rintro e w2 ⟨rfl, hB⟩))
    go_ret
    exact ⟨rfl, hB.out⟩
  · have h1 : (s.size : Int) > 1048576 := by omega
    go_enter Try.func4, Try.ntmps4
    go_wp2
    go_ret
    exact ⟨rfl, Below.refl _ _⟩
end Go.Proofs.Ytkcflhlipdnbnaa
