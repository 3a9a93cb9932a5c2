/-
  The readers of one byte: (*varReader).oneByte, the model's l03Byte.
-/
import Derived.Test.YtelikebpddhncaaGRd
import Derived.Test.YtelikebpddhncaaRdW
namespace Go.Proofs.Ytelikebpddhncaa
open Go.RowKit

theorem drop_cons (s : ByteArray) (p : Nat) (h : p < s.size) : s.data.toList.drop p = s[p] :: s.data.toList.drop (p + 1) := by
  rw [List.drop_eq_getElem_cons (by simpa using h)]; rfl

set_option maxHeartbeats 2000000 in
set_option maxRecDepth 100000 in
theorem oneByte_any (c : Nat) (s : ByteArray) (st : St) (w : World) (h : RdAt 80 c s st w) (hs : s.size ≤ 1048576) :
    Calls Try.prog 85 #[.pointer (some ⟨c, 0, none⟩)] w fun e w' => ∃ x : Nat, e = .returned (.int .u8 (x : Int)) ∧ Hid (x = (rb st).1) ∧ Hid (RdAt 80 c s (rb st).2 w') ∧ Hid (KeptBut c w w') := by
  obtain ⟨p, f, hb, hp, rfl⟩ := h
  have HBK : Hid (w.heap[c]? = some (.cells #[.string s, .int .i64 (p : Int), .bool f] 80 (0, 0))) := hb
  have HPS : Hid (p ≤ s.size) := hp
  have c0 : w.cell? ⟨c, 0, none⟩ = some (.string s) := by rw [Lib.cell_of_heap hb]; rfl
  have c1 : w.cell? ⟨c, 1, none⟩ = some (.int .i64 (p : Int)) := by rw [Lib.cell_of_heap hb]; rfl
  have c2 : w.cell? ⟨c, 2, none⟩ = some (.bool f) := by rw [Lib.cell_of_heap hb]; rfl
  have f1 : w.frozen? ⟨c, 1, none⟩ = false := Lib.frozen_of_heap hb 1
  have f2 : w.frozen? ⟨c, 2, none⟩ = false := Lib.frozen_of_heap hb 2
  clear hb
  rcases Bool.eq_false_or_eq_true f with hf | hf
  · subst hf
    go_enter Try.func85, Try.ntmps85
    go_wp2_with fail
    go_quiet (fail)
    go_wp2
    go_ret
    exact ⟨0, rfl, rfl, ⟨p, true, heap_set2 HBK.out _, HPS.out, rfl⟩, ((KeptBut.refl c w).below (below_drewN (Below.refl _ _) _)).setCell _⟩
  · subst hf
    by_cases hlt : p < s.size
    · have hd : decide ((s.size : Int) ≤ (p : Int)) = false := by simp; omega
      have hd2 : (p : Int) < (s.size : Int) := by omega
      go_enter Try.func85, Try.ntmps85
      go_wp2_with fail
      go_quiet (fail)
      go_wp2_with fail
      obtain ⟨W, HW⟩ : ∃ W, Hid (W = (w.drewN nq).setCell ⟨c, 1, none⟩ (.int .i64 ((p : Int) + 1))) := ⟨_, rfl⟩
      rw [← HW.out]
      have hbw : W.heap[c]? = some (.cells #[.string s, .int .i64 ((p : Int) + 1), .bool false] 80 (0, 0)) := by rw [HW.out]; exact heap_set1 HBK.out _
      have HBW : Hid (W.heap[c]? = some (.cells #[.string s, .int .i64 ((p : Int) + 1), .bool false] 80 (0, 0))) := hbw
      have d0 : W.cell? ⟨c, 0, none⟩ = some (.string s) := by rw [Lib.cell_of_heap hbw]; rfl
      have d1 : W.cell? ⟨c, 1, none⟩ = some (.int .i64 ((p : Int) + 1)) := by rw [Lib.cell_of_heap hbw]; rfl
      have HKW : Hid (KeptBut c w W) := by rw [HW.out]; exact ((KeptBut.refl c w).below (below_drewN (Below.refl _ _) _)).setCell _
      have hwp : IntKind.i64.wrap (p : Int) = (p : Int) := by simp [IntKind.wrap, IntKind.bits, IntKind.signed]; omega
      have hp0 : (0 : Int) ≤ (p : Int) := by omega
      clear c0 c1 c2 f1 f2 hbw
      go_quiet (fail)
      go_wp2
      go_ret
      refine ⟨s[p].toNat, rfl, ?_, ?_, HKW.out.below (below_drewN (Below.refl _ _) _)⟩
      · show _ = (rb (some (s.data.toList.drop p))).1; rw [drop_cons s p hlt]; rfl
      · show RdAt 80 c s (rb (some (s.data.toList.drop p))).2 _; rw [drop_cons s p hlt]
        exact ⟨p + 1, false, HBW.out, by omega, rfl⟩
    · have hd : decide ((s.size : Int) ≤ (p : Int)) = true := by simp; omega
      go_enter Try.func85, Try.ntmps85
      go_wp2_with fail
      go_quiet (fail)
      go_wp2
      go_ret
      have e0 : s.data.toList.drop p = [] := by rw [List.drop_eq_nil_iff, Array.length_toList]; have : s.data.size = s.size := rfl; omega
      refine ⟨0, rfl, ?_, ?_, ((KeptBut.refl c w).below (below_drewN (Below.refl _ _) _)).setCell _⟩
      · show 0 = (rb (some (s.data.toList.drop p))).1; rw [e0]; rfl
      · show RdAt 80 c s (rb (some (s.data.toList.drop p))).2 _; rw [e0]
        exact ⟨p, true, heap_set2 HBK.out _, HPS.out, rfl⟩
set_option maxHeartbeats 2000000 in
set_option maxRecDepth 100000 in
theorem l03Byte_any (c : Nat) (s : ByteArray) (st : St) (w : World) (h : RdAt 90 c s st w) (hs : s.size ≤ 1048576) :
    Calls Try.prog 86 #[.pointer (some ⟨c, 0, none⟩)] w fun e w' => ∃ x : Nat, e = .returned (.int .i64 (x : Int)) ∧ Hid (x = (rb st).1) ∧ Hid (RdAt 90 c s (rb st).2 w') ∧ Hid (KeptBut c w w') := by
  obtain ⟨p, f, hb, hp, rfl⟩ := h
  have HBK : Hid (w.heap[c]? = some (.cells #[.string s, .int .i64 (p : Int), .bool f] 90 (0, 0))) := hb
  have HPS : Hid (p ≤ s.size) := hp
  have c0 : w.cell? ⟨c, 0, none⟩ = some (.string s) := by rw [Lib.cell_of_heap hb]; rfl
  have c1 : w.cell? ⟨c, 1, none⟩ = some (.int .i64 (p : Int)) := by rw [Lib.cell_of_heap hb]; rfl
  have c2 : w.cell? ⟨c, 2, none⟩ = some (.bool f) := by rw [Lib.cell_of_heap hb]; rfl
  have f1 : w.frozen? ⟨c, 1, none⟩ = false := Lib.frozen_of_heap hb 1
  have f2 : w.frozen? ⟨c, 2, none⟩ = false := Lib.frozen_of_heap hb 2
  clear hb
  rcases Bool.eq_false_or_eq_true f with hf | hf
  · subst hf
    go_enter Try.func86, Try.ntmps86
    go_wp2_with fail
    go_quiet (fail)
    go_wp2
    go_ret
    exact ⟨0, rfl, rfl, ⟨p, true, heap_set2 HBK.out _, HPS.out, rfl⟩, ((KeptBut.refl c w).below (below_drewN (Below.refl _ _) _)).setCell _⟩
  · subst hf
    by_cases hlt : p < s.size
    · have hd : decide ((s.size : Int) ≤ (p : Int)) = false := by simp; omega
      have hd2 : (p : Int) < (s.size : Int) := by omega
      go_enter Try.func86, Try.ntmps86
      go_wp2_with fail
      go_quiet (fail)
      go_wp2_with fail
      obtain ⟨W, HW⟩ : ∃ W, Hid (W = (w.drewN nq).setCell ⟨c, 1, none⟩ (.int .i64 ((p : Int) + 1))) := ⟨_, rfl⟩
      rw [← HW.out]
      have hbw : W.heap[c]? = some (.cells #[.string s, .int .i64 ((p : Int) + 1), .bool false] 90 (0, 0)) := by rw [HW.out]; exact heap_set1 HBK.out _
      have HBW : Hid (W.heap[c]? = some (.cells #[.string s, .int .i64 ((p : Int) + 1), .bool false] 90 (0, 0))) := hbw
      have d0 : W.cell? ⟨c, 0, none⟩ = some (.string s) := by rw [Lib.cell_of_heap hbw]; rfl
      have d1 : W.cell? ⟨c, 1, none⟩ = some (.int .i64 ((p : Int) + 1)) := by rw [Lib.cell_of_heap hbw]; rfl
      have HKW : Hid (KeptBut c w W) := by rw [HW.out]; exact ((KeptBut.refl c w).below (below_drewN (Below.refl _ _) _)).setCell _
      have hwp : IntKind.i64.wrap (p : Int) = (p : Int) := by simp [IntKind.wrap, IntKind.bits, IntKind.signed]; omega
      have hp0 : (0 : Int) ≤ (p : Int) := by omega
      clear c0 c1 c2 f1 f2 hbw
      go_quiet (fail)
      go_wp2
      go_ret
      have hw8 : wrap64 (s[p].toNat : Int) = (s[p].toNat : Int) := by have := s[p].toNat_lt; unfold wrap64; omega
      refine ⟨s[p].toNat, by show Ending.returned (.int .i64 (wrap64 (s[p].toNat : Int))) = _; rw [hw8], ?_, ?_, HKW.out.below (below_drewN (Below.refl _ _) _)⟩
      · show _ = (rb (some (s.data.toList.drop p))).1; rw [drop_cons s p hlt]; rfl
      · show RdAt 90 c s (rb (some (s.data.toList.drop p))).2 _; rw [drop_cons s p hlt]
        exact ⟨p + 1, false, HBW.out, by omega, rfl⟩
    · have hd : decide ((s.size : Int) ≤ (p : Int)) = true := by simp; omega
      go_enter Try.func86, Try.ntmps86
      go_wp2_with fail
      go_quiet (fail)
      go_wp2
      go_ret
      have e0 : s.data.toList.drop p = [] := by rw [List.drop_eq_nil_iff, Array.length_toList]; have : s.data.size = s.size := rfl; omega
      refine ⟨0, rfl, ?_, ?_, ((KeptBut.refl c w).below (below_drewN (Below.refl _ _) _)).setCell _⟩
      · show 0 = (rb (some (s.data.toList.drop p))).1; rw [e0]; rfl
      · show RdAt 90 c s (rb (some (s.data.toList.drop p))).2 _; rw [e0]
        exact ⟨p, true, heap_set2 HBK.out _, HPS.out, rfl⟩
end Go.Proofs.Ytelikebpddhncaa
