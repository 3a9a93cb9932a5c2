/-
  impl.readFigures at base 10, of every text.
-/
import Derived.Test.YtcbebilhbghclaaDoorNumD
import Derived.WalkMore
import Derived.Deep.LoopGhost
namespace Go.Proofs.YtcbebilhbghclaaDoor
open Go.RowKit

structure FAt (s : ByteArray) (k : Nat) (n : Int) : Prop where
  le : k ≤ s.size
  num : n = valW 0 (s.data.toList.take k)
  digs : ∀ c ∈ s.data.toList.take k, isDig c
theorem take_next (s : ByteArray) (k : Nat) (h : k < s.size) : s.data.toList.take (k + 1) = s.data.toList.take k ++ [s[k]] := by
  have hl : k < s.data.toList.length := by have : s.data.size = s.size := rfl; simp; omega
  rw [List.take_succ_eq_append_getElem hl]
  rfl
theorem take_all (s : ByteArray) (k : Nat) (h : ¬ k < s.size) : s.data.toList.take k = s.data.toList :=
  List.take_of_length_le (by have : s.data.size = s.size := rfl; simp; omega)
theorem FAt.next {s : ByteArray} {k : Nat} {n : Int} (h : FAt s k n) (hlt : k < s.size) (h1 : (48 : Int) ≤ (s[k].toNat : Int)) (h2 : (s[k].toNat : Int) ≤ 57) : FAt s (k + 1) (stepW n s[k]) := by
  refine ⟨by omega, ?_, ?_⟩
  · rw [take_next s k hlt, valW_snoc, ← h.num]
  · rw [take_next s k hlt]
    intro c hc
    rcases List.mem_append.1 hc with hc | hc
    · exact h.digs c hc
    · simp at hc; subst hc; exact ⟨by omega, by omega⟩

theorem FAt.all {s : ByteArray} {k : Nat} {n : Int} (h : FAt s k n) (hlt : ¬ k < s.size) : ∀ c ∈ s.data.toList, isDig c := by
  have := h.digs
  rw [take_all s k hlt] at this
  exact this
theorem not_dig (s : ByteArray) (k : Nat) (hlt : k < s.size) (hd : ¬ ((48 : Int) ≤ (s[k].toNat : Int) ∧ (s[k].toNat : Int) ≤ 57)) : ¬ (∀ c ∈ s.data.toList, isDig c) := by
  intro h
  have hl : k < s.data.toList.length := by have : s.data.size = s.size := rfl; simp; omega
  have := h (s.data.toList[k]) (List.getElem_mem hl)
  have e : s.data.toList[k] = s[k] := rfl
  rw [e] at this
  unfold isDig at this
  omega

set_option maxHeartbeats 1000000 in
set_option maxRecDepth 100000 in
theorem figures10 (s : ByteArray) (w : World) (hs : s.size ≤ 1048576) :
    Calls Tryd.prog 27 #[.string s, .int .i64 10] w fun e w' => w = w' ∧
      (((∀ c ∈ s.data.toList, isDig c) ∧ e = .returned (.tuple #[.int .i64 (valW 0 s.data.toList), .bool true])) ∨
       (¬ (∀ c ∈ s.data.toList, isDig c) ∧ ∃ n, e = .returned (.tuple #[.int .i64 n, .bool false]))) := by
  go_enter Tryd.func27, Tryd.ntmps27
  go_wp2
  go_step3
  go_wp2
  go_step3
  go_wp2
  go_loop [6, 7] (fun n p => ∃ (k : Nat) (x : Int), n = .int .i64 x ∧ p = .int .i64 k ∧ FAt s k x) (fun _ p => s.size - (intOf p).toNat)
  case atStart => exact ⟨0, 0, rfl, rfl, by omega, by simp [valW], by simp⟩
  case round =>
    obtain ⟨k, x, rfl, rfl, hF⟩ := hrel
    have HF : Hid (FAt s k x) := hF
    have hle := hF.le
    by_cases hlt : k < s.size
    · clear hF
      have hc : (s[k].toNat : Int) < 256 := by have := s[k].toNat_lt; omega
      by_cases hd : (48 : Int) ≤ (s[k].toNat : Int) ∧ (s[k].toNat : Int) ≤ 57
      · obtain ⟨h1, h2⟩ := hd
        have d1 : decide ((48 : Int) ≤ (s[k].toNat : Int)) = true := by simp; omega
        have d2 : decide ((s[k].toNat : Int) ≤ 57) = true := by simp; omega
        go_wp2
        go_round
        case rel => exact ⟨k + 1, stepW x s[k], rfl, by go_num, HF.out.next hlt h1 h2⟩
        case measure => simp [intOf]; omega
      · have hne : ((k : Int) == (s.size : Int)) = false := by simp; omega
        have HN : Hid (¬ (∀ c ∈ s.data.toList, isDig c)) := not_dig s k hlt hd
        by_cases h1 : (48 : Int) ≤ (s[k].toNat : Int)
        · have d1 : decide ((48 : Int) ≤ (s[k].toNat : Int)) = true := by simp; omega
          have d2 : decide ((s[k].toNat : Int) ≤ 57) = false := by simp; omega
          clear hd
          go_wp2
          try rw [Exit.noGoto_ret]
          go_ret2
          exact ⟨rfl, .inr ⟨HN.out, _, rfl⟩⟩
        · have d1 : decide ((48 : Int) ≤ (s[k].toNat : Int)) = false := by simp; omega
          clear hd
          go_wp2
          try rw [Exit.noGoto_ret]
          go_ret2
          exact ⟨rfl, .inr ⟨HN.out, _, rfl⟩⟩
    · have HE : Hid (∀ c ∈ s.data.toList, isDig c) := hF.all hlt
      have HV : Hid (x = valW 0 s.data.toList) := by
        show x = valW 0 s.data.toList
        rw [hF.num, take_all s k hlt]
      have hke : ((k : Int) == (s.size : Int)) = true := by simp; omega
      clear hF
      go_wp2
      try rw [Exit.noGoto_ret]
      go_ret2
      exact ⟨rfl, .inl ⟨HE.out, by rw [← HV.out]; rfl⟩⟩
end Go.Proofs.YtcbebilhbghclaaDoor
