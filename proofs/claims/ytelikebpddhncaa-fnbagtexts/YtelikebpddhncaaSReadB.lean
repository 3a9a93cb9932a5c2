/-
  spec.ReadVar.
-/
import Derived.Test.YtelikebpddhncaaSReadA
import Derived.BigQuiet
import Derived.Deep.RegionHeld
import Derived.Deep.DeepCutAuto
import Derived.Lib.Strings
namespace Go.Proofs.Ytelikebpddhncaa.sp
open Go.RowKit

/-- what the model's loop knows besides: which number the bytes behind are -/
def SRel (s : ByteArray) (a j m : Nat) : Prop :=
  RdRel s a j m ∧ m = valB ((s.data.toList.drop a).take j) ∧ ∀ x ∈ (s.data.toList.drop a).take j, 128 ≤ x.toNat

theorem take_next (s : ByteArray) (a j : Nat) (hlt : a + j < s.size) : (s.data.toList.drop a).take (j + 1) = (s.data.toList.drop a).take j ++ [s[a + j]] := by
  have hl : j < (s.data.toList.drop a).length := by have : s.data.size = s.size := rfl; simp; omega
  rw [List.take_succ_eq_append_getElem hl]
  simp
  rfl
theorem take_len (s : ByteArray) (a j : Nat) (hle : a + j ≤ s.size) : ((s.data.toList.drop a).take j).length = j := by
  have : s.data.size = s.size := rfl
  simp; omega

theorem SRel.next {s : ByteArray} {a j m : Nat} (h : SRel s a j m) (hj : j < 5) (hlt : a + j < s.size) (hb : (127 : Int) < (s[a + j].toNat : Int)) : SRel s a (j + 1) (m + s[a + j].toNat % 128 * 128 ^ j) := by
  obtain ⟨h1, h2, h3⟩ := h
  refine ⟨h1.next hj hlt hb, ?_, ?_⟩
  · rw [take_next s a j hlt, valB_snoc, ← h2, take_len s a j (by omega)]
  · rw [take_next s a j hlt]
    intro x hx
    rcases List.mem_append.1 hx with hx | hx
    · exact h3 x hx
    · simp at hx; subst hx; omega

/-- the model's test: what is written of the number is what stands there -/
theorem SRel.test {s : ByteArray} {a j m : Nat} (h : SRel s a j m) (hj : j < 5) (hlt : a + j < s.size) (hb : (s[a + j].toNat : Int) ≤ 127) :
    (varB 9 (m + s[a + j].toNat % 128 * 128 ^ j) = (s.data.toList.drop a).take (j + 1)) ↔ ¬ (s[a + j].toNat = 0 ∧ 0 < j) := by
  obtain ⟨h1, h2, h3⟩ := h
  have := varB_iff ((s.data.toList.drop a).take j) s[a + j] (by omega) h3 (by rw [take_len s a j (by omega)]; omega)
  rw [valB_snoc, ← h2, take_len s a j (by omega), ← take_next s a j hlt] at this
  exact this

theorem l01Var_int (n : Int) (w : World) (h0 : 0 ≤ n) (hn : n ≤ 9223372036854775807) :
    Calls Try.prog 92 #[.int .i64 n] w fun e w' => e = .returned (.string ⟨(varB 9 n.toNat).toArray⟩) ∧ Below w.heap.size w w' := by
  obtain ⟨k, rfl⟩ := Int.eq_ofNat_of_zero_le h0
  exact l01Var_any k w (by omega)

/-- the model's loop, at the place q -/
structure SAt (s : ByteArray) (a q m sc : Nat) : Prop where
  lo : a ≤ q
  hi : q ≤ s.size
  five : q ≤ a + 5
  scale : sc = 128 ^ (q - a)
  rel : SRel s a (q - a) m

theorem pow_five {j : Nat} (h : j ≤ 5) : (128 : Nat) ^ j ≤ 34359738368 := by
  have := Nat.pow_le_pow_right (n := 128) (by omega) h
  omega
theorem SAt.sc_le {s : ByteArray} {a q m sc : Nat} (h : SAt s a q m sc) : sc ≤ 34359738368 := by
  rw [h.scale]; exact pow_five (by have := h.five; omega)
theorem SAt.m_lt {s : ByteArray} {a q m sc : Nat} (h : SAt s a q m sc) : m < 34359738368 := by
  have := h.rel.1.2.2.1
  have := pow_five (j := q - a) (by have := h.five; omega)
  omega
theorem SAt.idx {s : ByteArray} {a q m sc : Nat} (h : SAt s a q m sc) (hlt : q < s.size) (hlt2 : a + (q - a) < s.size) : s[a + (q - a)] = s[q] := by
  have e : a + (q - a) = q := by have := h.lo; omega
  simp only [e]
theorem SAt.next {s : ByteArray} {a q m sc : Nat} (h : SAt s a q m sc) (hlt : q < s.size) (h5 : q < a + 5) (hb : (127 : Int) < (s[q].toNat : Int)) : SAt s a (q + 1) (m + s[q].toNat % 128 * sc) (sc * 128) := by
  have hlo := h.lo
  have hlt2 : a + (q - a) < s.size := by omega
  have e := h.idx hlt hlt2
  have e1 : q + 1 - a = (q - a) + 1 := by omega
  refine ⟨by omega, by omega, by omega, by rw [h.scale, e1, Nat.pow_succ], ?_⟩
  have := h.rel.next (by omega) hlt2 (by rw [e]; exact hb)
  rw [e] at this
  rw [e1, h.scale]
  exact this
theorem SAt.prod_le {s : ByteArray} {a q m sc : Nat} (h : SAt s a q m sc) (hlt : q < s.size) (h5 : q < a + 5) : m + s[q].toNat % 128 * sc < 34359738368 := by
  have hm := h.rel.1.2.2.1
  have h1 : s[q].toNat % 128 * sc ≤ 127 * sc := Nat.mul_le_mul_right _ (by omega)
  have h2 := pow_five (j := q - a + 1) (by omega)
  rw [Nat.pow_succ] at h2
  rw [h.scale] at h1 ⊢
  omega
theorem SAt.none_big {s : ByteArray} {a q m sc : Nat} (h : SAt s a q m sc) (hlt : q < s.size) (h5 : q < a + 5) (hb : (s[q].toNat : Int) ≤ 127) (hbig : 1000000000 < m + s[q].toNat % 128 * sc) : rdv s a = none := by
  have hlt2 : a + (q - a) < s.size := by have := h.lo; omega
  have e := h.idx hlt hlt2
  exact h.rel.1.none_of (by omega) hlt2 (by rw [e]; exact hb) (.inr (by rw [e, ← h.scale]; exact hbig))
theorem SAt.extract {s : ByteArray} {a q m sc : Nat} (h : SAt s a q m sc) : (s.extract a (q + 1)).data.toList = (s.data.toList.drop a).take (q - a + 1) := by
  have := h.lo
  rw [Lib.extract_data, show q + 1 - a = q - a + 1 by omega]
theorem SAt.test {s : ByteArray} {a q m sc : Nat} (h : SAt s a q m sc) (hlt : q < s.size) (h5 : q < a + 5) (hb : (s[q].toNat : Int) ≤ 127) :
    (varB 9 (m + s[q].toNat % 128 * sc) = (s.data.toList.drop a).take (q - a + 1)) ↔ ¬ (s[q].toNat = 0 ∧ 0 < q - a) := by
  have hlt2 : a + (q - a) < s.size := by have := h.lo; omega
  have e := h.idx hlt hlt2
  have := h.rel.test (by omega) hlt2 (by rw [e]; exact hb)
  rw [e, ← h.scale] at this
  exact this
theorem SAt.none_long {s : ByteArray} {a q m sc : Nat} (h : SAt s a q m sc) (hlt : q < s.size) (h5 : q < a + 5) (hb : (s[q].toNat : Int) ≤ 127) (hn : ¬ varB 9 (m + s[q].toNat % 128 * sc) = (s.data.toList.drop a).take (q - a + 1)) : rdv s a = none := by
  have hlt2 : a + (q - a) < s.size := by have := h.lo; omega
  have e := h.idx hlt hlt2
  rw [h.test hlt h5 hb] at hn
  exact h.rel.1.none_of (by omega) hlt2 (by rw [e]; exact hb) (.inl (by rw [e]; exact Classical.not_not.1 hn))
theorem SAt.some_of {s : ByteArray} {a q m sc : Nat} (h : SAt s a q m sc) (hlt : q < s.size) (h5 : q < a + 5) (hb : (s[q].toNat : Int) ≤ 127) (hs : m + s[q].toNat % 128 * sc ≤ 1000000000) (hn : varB 9 (m + s[q].toNat % 128 * sc) = (s.data.toList.drop a).take (q - a + 1)) : rdv s a = some (m + s[q].toNat % 128 * sc, q + 1) := by
  have hlo := h.lo
  have hlt2 : a + (q - a) < s.size := by omega
  have e := h.idx hlt hlt2
  rw [h.test hlt h5 hb] at hn
  have := h.rel.1.some_of (by omega) hlt2 (by rw [e]; exact hb) (by rw [e, ← h.scale]; omega)
  rw [e, ← h.scale, show a + (q - a + 1) = q + 1 by omega] at this
  exact this
theorem SAt.none_end {s : ByteArray} {a q m sc : Nat} (h : SAt s a q m sc) (hlt : ¬ (q < s.size ∧ q < a + 5)) : rdv s a = none := by
  have hlo := h.lo
  have hhi := h.hi
  have h5 := h.five
  by_cases hq : q < s.size
  · have e : q - a = 5 := by omega
    have hr := h.rel.1
    rw [e] at hr
    exact hr.at_five
  · exact h.rel.1.at_end (by omega)

theorem neq_out {s : ByteArray} {a q m x c : Nat} {b : UInt8} (hlo : a ≤ q) (hx : x = b.toNat % 128 * c) (h : (!varB 9 ((m : Int) + (x : Int)).toNat == (s.extract a (q + 1)).toList) = true) :
    ¬ varB 9 (m + b.toNat % 128 * c) = (s.data.toList.drop a).take (q - a + 1) := by
  rw [Lib.extract_toList, show q + 1 - a = q - a + 1 by omega, show ((m : Int) + (x : Int)).toNat = m + x by omega, hx] at h
  simpa using h
theorem eq_out {s : ByteArray} {a q m x c : Nat} {b : UInt8} (hlo : a ≤ q) (hx : x = b.toNat % 128 * c) (h : (!varB 9 ((m : Int) + (x : Int)).toNat == (s.extract a (q + 1)).toList) = false) :
    varB 9 (m + b.toNat % 128 * c) = (s.data.toList.drop a).take (q - a + 1) := by
  rw [Lib.extract_toList, show q + 1 - a = q - a + 1 by omega, show ((m : Int) + (x : Int)).toNat = m + x by omega, hx] at h
  simpa using h

set_option maxHeartbeats 1000000 in
set_option maxRecDepth 100000 in
theorem sReadVar_any (s : ByteArray) (a : Nat) (w : World) (hs : s.size ≤ 1048576) (ha : a ≤ s.size) :
    Calls Try.prog 100 #[.string s, .int .i64 a] w fun e w' => e = .returned (rdRes (rdv s a)) ∧ Below w.heap.size w w' := by
  go_enter Try.func100, Try.ntmps100
  go_wp2_with (go_at_call 66; refine (l01In_yes _ _ _ _ (by omega) (by omega)).mono ?_; rintro e w' ⟨rfl, rfl⟩)
  go_loop [7, 8, 9] (fun n sc p => ∃ m q c : Nat, n = .int .i64 m ∧ sc = .int .i64 c ∧ p = .int .i64 q ∧ SAt s a q m c) (fun _ _ p => s.size + 5 - (intOf p).toNat)
  case atStart => exact ⟨0, a, 1, rfl, rfl, rfl, by omega, by omega, by omega, by simp, by simp; exact ⟨⟨ha, by omega, by simp, rfl⟩, rfl, by simp⟩⟩
  case round =>
    obtain ⟨m, q, c, rfl, rfl, rfl, hR⟩ := hrel
    have hlo := hR.lo
    have hhi := hR.hi
    by_cases hlt : q < s.size ∧ q < a + 5
    · obtain ⟨hlt, hlt5⟩ := hlt
      have hp := hR.prod_le hlt hlt5
      have hc1 := hR.sc_le
      have hm1 := hR.m_lt
      obtain ⟨x, hx⟩ : ∃ x : Nat, x = s[q].toNat % 128 * c := ⟨_, rfl⟩
      have hx1 : (s[q].toNat : Int) % 128 * (c : Int) = x := by rw [hx]; simp
      have hp1 : m + x < 34359738368 := by omega
      have hc : (s[q].toNat : Int) < 256 := by have := s[q].toNat_lt; omega
      have HR : Hid (SAt s a q m c) := hR
      have HX : Hid (x = s[q].toNat % 128 * c) := hx
      clear hR hx hp
      by_cases hb : 127 < (s[q].toNat : Int)
      · go_wp2_with fail
        go_round
        case rel => exact ⟨m + s[q].toNat % 128 * c, q + 1, c * 128, by rw [← HX.out]; go_num, by go_num, by go_num, HR.out.next hlt hlt5 hb⟩
        case measure => simp [intOf]; omega
      · have hnb : (s[q].toNat : Int) < 128 := by omega
        by_cases hbig : 1000000000 < (m : Int) + (x : Int)
        · have hN := HR.out.none_big hlt hlt5 (by omega) (by rw [← HX.out]; omega)
          have HN : Hid (rdv s a = none) := hN
          have hd : decide (1000000000 < (m : Int) + (x : Int)) = true := by simp; omega
          clear hN
          go_wp2_with fail
          go_quiet (fail)
          go_wp2
          go_ret3
          exact ⟨ret_none HN.out, below_drewN (Below.refl _ _) _⟩
        · have hd : decide (1000000000 < (m : Int) + (x : Int)) = false := by simp; omega
          have hq1 : (q : Int) + 1 ≤ s.size := by omega
          have hq2 : (a : Int) ≤ (q : Int) + 1 := by omega
          have hwr : IntKind.i64.wrap ((q : Int) + 1) = (q : Int) + 1 := by simp [IntKind.wrap, IntKind.signed, IntKind.bits]; omega
          have hj1 : (0 : Int) ≤ (q : Int) + 1 := by omega
          have hj2 : (0 : Int) ≤ (a : Int) := by omega
          have hsm : (m : Int) + (x : Int) ≤ 1000000000 := by omega
          clear hb hbig
          go_wp2_with fail
          go_region_held (fun _ => True) (trivial) ((go_at_call 92; refine (l01Var_int _ _ ?_ ?_).mono ?_; omega; omega; rintro e w1 ⟨rfl, hb1⟩))
          go_wp2
          · have hne : (!varB 9 ((m : Int) + (x : Int)).toNat == (s.extract a (q + 1)).toList) = true := by assumption
            have hN := neq_out (q := q) hlo HX.out hne
            go_ret3
            exact ⟨ret_none (HR.out.none_long hlt hlt5 (by omega) hN), ((Below.refl _ w).drew).trans hb1⟩
          · have hne : (!varB 9 ((m : Int) + (x : Int)).toNat == (s.extract a (q + 1)).toList) = false := by assumption
            have hN := eq_out (q := q) hlo HX.out hne
            have hS := HR.out.some_of hlt hlt5 (by omega) (by rw [← HX.out]; omega) hN
            go_ret3
            exact ⟨ret_some hS (by rw [← HX.out]; omega) (by omega), ((Below.refl _ w).drew).trans hb1⟩
    · have HR : Hid (rdv s a = none) := hR.none_end hlt
      clear hR
      by_cases hl : q < s.size
      · have hl5 : ¬ q < a + 5 := by omega
        go_wp2
        go_ret3
        exact ⟨ret_none HR.out, Below.refl _ _⟩
      · go_wp2
        go_ret3
        exact ⟨ret_none HR.out, Below.refl _ _⟩
end Go.Proofs.Ytelikebpddhncaa.sp
