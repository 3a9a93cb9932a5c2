/-
  A drawn text that is spoilt: l02Spoilt.
-/
import Derived.Test.YtelikebpddhncaaLte
import Derived.Test.YtelikebpddhncaaDrawD
import Derived.Deep.DeepCutAuto
namespace Go.Proofs.Ytelikebpddhncaa
open Go.RowKit

theorem text_curL (w : World) (p n cap : Nat) (ao : Option Addr) (m : Nat) (hm : m ≤ 5000) (hc : CurL p ao n cap w) :
    Calls Try.prog 99 #[.pointer (some ⟨p, 0, none⟩), .int .i64 (m : Int)] w fun e w' => ∃ t : ByteArray, e = .returned (.string t) ∧ t.size = m ∧ Hid (CurL p ao n cap w') ∧ Hid (KeptBut p w w') :=
  (text_cur w p n cap ao m hm hc.1).mono fun _ _ ⟨t, h1, h2, h3, h4⟩ => ⟨t, h1, h2, ⟨h3, hc.2⟩, h4⟩
theorem ext_le (s : ByteArray) (i j : Nat) : (s.extract i j).size ≤ j - i := by rw [ByteArray.size_extract]; omega
theorem ext_le2 (s : ByteArray) (i : Nat) (h : i < s.size) : (s.extract (i + 1) s.size).size + i + 1 ≤ s.size := by rw [ByteArray.size_extract]; omega

set_option maxHeartbeats 4000000 in
set_option maxRecDepth 100000 in
theorem spoilt_any (w : World) (p n cap : Nat) (ao : Option Addr) (s : ByteArray) (hs : s.size ≤ 1000000) (hc : CurL p ao n cap w) :
    Calls Try.prog 63 #[.pointer (some ⟨p, 0, none⟩), .string s] w fun e w' => ∃ t : ByteArray, e = .returned (.string t) ∧ Hid (t.size ≤ s.size + 1) ∧ Hid (CurL p ao n cap w') ∧ Hid (KeptBut p w w') := by
  have HC : Hid (CurL p ao n cap w) := hc
  clear hc
  go_enter Try.func63, Try.ntmps63
  go_wp2_with fail
  refine (HC.out.draw 12 (by omega) (by omega)).mono ?_
  rintro e w1 ⟨k, rfl, hk0, hk1, HC1, HK1⟩
  clear HC
  by_cases e0 : k = 0
  · subst e0
    go_wp2_with fail
    refine (text_curL w1 p n cap ao 1 (by omega) HC1.out).mono ?_
    rintro e w2 ⟨t, rfl, ht, HC2, HK2⟩
    have hcat : ¬ 9223372036854775807 < s.size + t.size := by omega
    go_wp2
    go_ret
    exact ⟨_, rfl, by show _ ≤ _; rw [ByteArray.size_append]; omega, HC2, HK1.out.trans HK2.out⟩
  · by_cases e1 : k = 1
    · subst e1
      go_wp2_with fail
      refine (HC1.out.draw _ (by omega) (by omega)).mono ?_
      rintro e w2 ⟨y, rfl, hy0, hy1, HC2, HK2⟩
      obtain ⟨i, rfl⟩ := Int.eq_ofNat_of_zero_le hy0
      have hi : (i : Int) ≤ (s.size : Int) := by omega
      have hin : i ≤ s.size := by omega
      go_wp2
      go_ret
      exact ⟨_, rfl, by show _ ≤ _; first | (have := ext_le s 0 i; omega) | (rw [ByteArray.size_extract]; omega), HC2, HK1.out.trans HK2.out⟩
    · by_cases e2 : k = 2 ∨ k = 3
      · by_cases h0 : s.size = 0
        · have h0' : ¬ (0 : Int) < (s.size : Int) := by omega
          rcases e2 with rfl | rfl
          · go_wp2
            go_ret
            exact ⟨s, rfl, Nat.le_succ _, HC1, HK1⟩
          · go_wp2
            go_ret
            exact ⟨s, rfl, Nat.le_succ _, HC1, HK1⟩
        · have h0' : (0 : Int) < (s.size : Int) := by omega
          rcases e2 with rfl | rfl
          · go_wp2_with fail
            refine (HC1.out.draw _ (by omega) (by omega)).mono ?_
            rintro e w2 ⟨y, rfl, hy0, hy1, HC2, HK2⟩
            obtain ⟨i, rfl⟩ := Int.eq_ofNat_of_zero_le hy0
            have HKK2 : Hid (KeptBut p w w2) := HK1.out.trans HK2.out
            have hi : (i : Int) ≤ (s.size : Int) := by omega
            have hi1 : (i : Int) + 1 ≤ (s.size : Int) := by omega
            have hin : i ≤ s.size := by omega
            have hw1 : ((i : Int) + 1).toNat = i + 1 := by omega
            have hw2 : IntKind.i64.wrap ((i : Int) + 1) = (i : Int) + 1 := by rw [IntKind.wrap_i64]; omega
            have hw3 : (0 : Int) ≤ (i : Int) + 1 := by omega
            have hw4 : ¬ 9223372036854775807 < i + 1 := by omega
            have hw5 : ¬ 9223372036854775807 < i + 1 + (s.size - (i + 1)) := by omega
            clear HC1 HK1 HK2
            go_wp2_with fail
            refine wp_region_held_drew (S := fun _ => True) (by kernel_rfl) trivial (fun hHeld => ?_)
            refine wpAnyH_take (i := 0) (oi := { dst := some 33, op := Go.Op.move (Go.Operand.tmp 1), type := 9, pos := "l02_sums.go:68", after := #[], guard := none }) (v := ?_) rfl (by kernel_rfl) (by kernel_rfl) (by kernel_rfl) (fun _ _ _ h => h) (Or.inl ⟨by kernel_rfl, ?_⟩) (by assumption) ?_
            rotate_left
            · intro w hSw; (try dsimp only at hSw); go_simp; try with_reducible rfl
            simp only [Act.put, List.setIfInBounds_toArray, List.set_cons_zero, List.set_cons_succ]
            refine wpAnyH_take (i := 1) (oi := { dst := some 34, op := Go.Op.move (Go.Operand.tmp 5), type := 3, pos := "l02_sums.go:68", after := #[], guard := none }) (v := ?_) rfl (by kernel_rfl) (by kernel_rfl) (by kernel_rfl) (fun _ _ _ h => h) (Or.inl ⟨by kernel_rfl, ?_⟩) (by assumption) ?_
            rotate_left
            · intro w hSw; (try dsimp only at hSw); go_simp; try with_reducible rfl
            simp only [Act.put, List.setIfInBounds_toArray, List.set_cons_zero, List.set_cons_succ]
            refine wpAnyH_take (i := 2) (oi := { dst := some 35, op := Go.Op.slice 9 (Go.Operand.tmp 33) none (some (Go.Operand.tmp 34)) none, type := 9, pos := "l02_sums.go:68", after := #[{ on := 0, ground := Go.Ground.data }, { on := 1, ground := Go.Ground.data }], guard := none }) (v := ?_) rfl (by kernel_rfl) (by kernel_rfl) (by kernel_rfl) (fun _ _ _ h => h) (Or.inl ⟨by kernel_rfl, ?_⟩) (by assumption) ?_
            rotate_left
            · intro w hSw; (try dsimp only at hSw); go_simp; try with_reducible rfl
            simp only [Act.put, List.setIfInBounds_toArray, List.set_cons_zero, List.set_cons_succ]
            refine wpAnyH_take (i := 3) (oi := { dst := some 36, op := Go.Op.move (Go.Operand.tmp 0), type := 83, pos := "l02_sums.go:68", after := #[], guard := none }) (v := ?_) rfl (by kernel_rfl) (by kernel_rfl) (by kernel_rfl) (fun _ _ _ h => h) (Or.inl ⟨by kernel_rfl, ?_⟩) (by assumption) ?_
            rotate_left
            · intro w hSw; (try dsimp only at hSw); go_simp; try with_reducible rfl
            simp only [Act.put, List.setIfInBounds_toArray, List.set_cons_zero, List.set_cons_succ]
            refine wpAnyH_take (i := 6) (oi := { dst := some 39, op := Go.Op.move (Go.Operand.tmp 1), type := 9, pos := "l02_sums.go:68", after := #[], guard := none }) (v := ?_) rfl (by kernel_rfl) (by kernel_rfl) (by kernel_rfl) (fun _ _ _ h => h) (Or.inl ⟨by kernel_rfl, ?_⟩) (by assumption) ?_
            rotate_left
            · intro w hSw; (try dsimp only at hSw); go_simp; try with_reducible rfl
            simp only [Act.put, List.setIfInBounds_toArray, List.set_cons_zero, List.set_cons_succ]
            refine wpAnyH_take (i := 7) (oi := { dst := some 40, op := Go.Op.move (Go.Operand.tmp 5), type := 3, pos := "l02_sums.go:68", after := #[], guard := none }) (v := ?_) rfl (by kernel_rfl) (by kernel_rfl) (by kernel_rfl) (fun _ _ _ h => h) (Or.inl ⟨by kernel_rfl, ?_⟩) (by assumption) ?_
            rotate_left
            · intro w hSw; (try dsimp only at hSw); go_simp; try with_reducible rfl
            simp only [Act.put, List.setIfInBounds_toArray, List.set_cons_zero, List.set_cons_succ]
            refine wpAnyH_take (i := 8) (oi := { dst := some 41, op := Go.Op.binOp Go.BinOp.add 3 (Go.Operand.tmp 40) (Go.Operand.const (Go.Value.int Go.IntKind.i64 1)) 3, type := 3, pos := "l02_sums.go:68", after := #[{ on := 7, ground := Go.Ground.data }], guard := none }) (v := ?_) rfl (by kernel_rfl) (by kernel_rfl) (by kernel_rfl) (fun _ _ _ h => h) (Or.inl ⟨by kernel_rfl, ?_⟩) (by assumption) ?_
            rotate_left
            · intro w hSw; (try dsimp only at hSw); go_simp; try with_reducible rfl
            simp only [Act.put, List.setIfInBounds_toArray, List.set_cons_zero, List.set_cons_succ]
            refine wpAnyH_take (i := 9) (oi := { dst := some 42, op := Go.Op.slice 9 (Go.Operand.tmp 39) (some (Go.Operand.tmp 41)) none none, type := 9, pos := "l02_sums.go:68", after := #[{ on := 6, ground := Go.Ground.data }, { on := 8, ground := Go.Ground.data }], guard := none }) (v := ?_) rfl (by kernel_rfl) (by kernel_rfl) (by kernel_rfl) (fun _ _ _ h => h) (Or.inl ⟨by kernel_rfl, ?_⟩) (by assumption) ?_
            rotate_left
            · intro w hSw; (try dsimp only at hSw); go_simp; try with_reducible rfl
            simp only [Act.put, List.setIfInBounds_toArray, List.set_cons_zero, List.set_cons_succ]
            refine wpAnyH_ready (rs := [4]) (by kernel_rfl) (by simp) ?_
            refine AllReadyH.cons (o := { dst := some 37, op := Go.Op.call { callee := Go.Callee.value (Go.Operand.func 99), args := #[Go.Operand.tmp 36, Go.Operand.const (Go.Value.int Go.IntKind.i64 1)], argTypes := #[83, 3] }, type := 9, pos := "l02_sums.go:68", after := #[{ on := 3, ground := Go.Ground.data }], guard := none }) rfl (fun K hK => ?_) ?_
            · go_simp
              go_wp2_with (go_at_call 99; refine (text_curL _ p n cap ao 1 (by omega) (HC2.out.below ((Below.refl _ _).drew) HC2.out.lt)).mono ?_; rintro e w3 ⟨t, rfl, ht, HC3, HK3⟩)
              have hcat1 : ¬ 9223372036854775807 < (s.extract 0 i).size + t.size := by have := ext_le s 0 i; omega
              have hcat2 : ¬ 9223372036854775807 < (s.extract 0 i ++ t).size + (s.extract (i + 1) s.size).size := by have := ext_le s 0 i; have := ext_le s (i + 1) s.size; rw [ByteArray.size_append]; omega
              refine hK.out _ _ trivial (fun hHeld => ?_)
              clear hK K
              try simp only [Act.put, List.setIfInBounds_toArray, List.set_cons_zero, List.set_cons_succ]
              refine wpAnyH_take (i := 5) (oi := { dst := some 38, op := Go.Op.binOp Go.BinOp.add 9 (Go.Operand.tmp 35) (Go.Operand.tmp 37) 9, type := 9, pos := "l02_sums.go:68", after := #[{ on := 2, ground := Go.Ground.data }, { on := 4, ground := Go.Ground.data }], guard := none }) (v := ?_) rfl (by kernel_rfl) (by kernel_rfl) (by kernel_rfl) (fun _ _ _ h => h) (Or.inl ⟨by kernel_rfl, ?_⟩) (by assumption) ?_
              rotate_left
              · intro w hSw; (try dsimp only at hSw); go_simp; try with_reducible rfl
              simp only [Act.put, List.setIfInBounds_toArray, List.set_cons_zero, List.set_cons_succ]
              refine wpAnyH_take (i := 10) (oi := { dst := some 43, op := Go.Op.binOp Go.BinOp.add 9 (Go.Operand.tmp 38) (Go.Operand.tmp 42) 9, type := 9, pos := "l02_sums.go:68", after := #[{ on := 5, ground := Go.Ground.data }, { on := 9, ground := Go.Ground.data }], guard := none }) (v := ?_) rfl (by kernel_rfl) (by kernel_rfl) (by kernel_rfl) (fun _ _ _ h => h) (Or.inl ⟨by kernel_rfl, ?_⟩) (by assumption) ?_
              rotate_left
              · intro w hSw; (try dsimp only at hSw); go_simp; try with_reducible rfl
              simp only [Act.put, List.setIfInBounds_toArray, List.set_cons_zero, List.set_cons_succ]
              refine wpAnyH_take (i := 11) (oi := { dst := some 4, op := Go.Op.assign (Go.Operand.tmp 43), type := 9, pos := "l02_sums.go:68", after := #[{ on := 10, ground := Go.Ground.data }, { on := 4, ground := Go.Ground.chain }, { on := 0, ground := Go.Ground.phase }, { on := 1, ground := Go.Ground.phase }, { on := 2, ground := Go.Ground.phase }, { on := 3, ground := Go.Ground.phase }, { on := 4, ground := Go.Ground.phase }, { on := 5, ground := Go.Ground.phase }, { on := 6, ground := Go.Ground.phase }, { on := 7, ground := Go.Ground.phase }, { on := 8, ground := Go.Ground.phase }, { on := 9, ground := Go.Ground.phase }, { on := 10, ground := Go.Ground.phase }], guard := none }) (v := ?_) rfl (by kernel_rfl) (by kernel_rfl) (by kernel_rfl) (fun _ _ _ h => h) (Or.inl ⟨by kernel_rfl, ?_⟩) (by assumption) ?_
              rotate_left
              · intro w hSw; (try dsimp only at hSw); go_simp; try with_reducible rfl
              simp only [Act.put, List.setIfInBounds_toArray, List.set_cons_zero, List.set_cons_succ]
              refine wpAnyH_done (by kernel_rfl) ?_ _
              clear hHeld
              go_wp2
              go_ret
              exact ⟨_, rfl, by show _ ≤ _; rw [ByteArray.size_append, ByteArray.size_append]; have := ext_le s 0 i; have := ext_le2 s i (by omega); omega, HC3, HKK2.out.trans (((KeptBut.refl p w2).below ((Below.refl _ _).drew)).trans HK3.out)⟩
            exact AllReadyH.nil
          · go_wp2_with fail
            refine (HC1.out.draw _ (by omega) (by omega)).mono ?_
            rintro e w2 ⟨y, rfl, hy0, hy1, HC2, HK2⟩
            obtain ⟨i, rfl⟩ := Int.eq_ofNat_of_zero_le hy0
            have HKK2 : Hid (KeptBut p w w2) := HK1.out.trans HK2.out
            have hi : (i : Int) ≤ (s.size : Int) := by omega
            have hi1 : (i : Int) + 1 ≤ (s.size : Int) := by omega
            have hin : i ≤ s.size := by omega
            have hw1 : ((i : Int) + 1).toNat = i + 1 := by omega
            have hw2 : IntKind.i64.wrap ((i : Int) + 1) = (i : Int) + 1 := by rw [IntKind.wrap_i64]; omega
            have hw3 : (0 : Int) ≤ (i : Int) + 1 := by omega
            have hw4 : ¬ 9223372036854775807 < i + 1 := by omega
            have hw5 : ¬ 9223372036854775807 < i + 1 + (s.size - (i + 1)) := by omega
            clear HC1 HK1 HK2
            go_wp2_with fail
            refine wp_region_held_drew (S := fun _ => True) (by kernel_rfl) trivial (fun hHeld => ?_)
            refine wpAnyH_take (i := 0) (oi := { dst := some 33, op := Go.Op.move (Go.Operand.tmp 1), type := 9, pos := "l02_sums.go:68", after := #[], guard := none }) (v := ?_) rfl (by kernel_rfl) (by kernel_rfl) (by kernel_rfl) (fun _ _ _ h => h) (Or.inl ⟨by kernel_rfl, ?_⟩) (by assumption) ?_
            rotate_left
            · intro w hSw; (try dsimp only at hSw); go_simp; try with_reducible rfl
            simp only [Act.put, List.setIfInBounds_toArray, List.set_cons_zero, List.set_cons_succ]
            refine wpAnyH_take (i := 1) (oi := { dst := some 34, op := Go.Op.move (Go.Operand.tmp 5), type := 3, pos := "l02_sums.go:68", after := #[], guard := none }) (v := ?_) rfl (by kernel_rfl) (by kernel_rfl) (by kernel_rfl) (fun _ _ _ h => h) (Or.inl ⟨by kernel_rfl, ?_⟩) (by assumption) ?_
            rotate_left
            · intro w hSw; (try dsimp only at hSw); go_simp; try with_reducible rfl
            simp only [Act.put, List.setIfInBounds_toArray, List.set_cons_zero, List.set_cons_succ]
            refine wpAnyH_take (i := 2) (oi := { dst := some 35, op := Go.Op.slice 9 (Go.Operand.tmp 33) none (some (Go.Operand.tmp 34)) none, type := 9, pos := "l02_sums.go:68", after := #[{ on := 0, ground := Go.Ground.data }, { on := 1, ground := Go.Ground.data }], guard := none }) (v := ?_) rfl (by kernel_rfl) (by kernel_rfl) (by kernel_rfl) (fun _ _ _ h => h) (Or.inl ⟨by kernel_rfl, ?_⟩) (by assumption) ?_
            rotate_left
            · intro w hSw; (try dsimp only at hSw); go_simp; try with_reducible rfl
            simp only [Act.put, List.setIfInBounds_toArray, List.set_cons_zero, List.set_cons_succ]
            refine wpAnyH_take (i := 3) (oi := { dst := some 36, op := Go.Op.move (Go.Operand.tmp 0), type := 83, pos := "l02_sums.go:68", after := #[], guard := none }) (v := ?_) rfl (by kernel_rfl) (by kernel_rfl) (by kernel_rfl) (fun _ _ _ h => h) (Or.inl ⟨by kernel_rfl, ?_⟩) (by assumption) ?_
            rotate_left
            · intro w hSw; (try dsimp only at hSw); go_simp; try with_reducible rfl
            simp only [Act.put, List.setIfInBounds_toArray, List.set_cons_zero, List.set_cons_succ]
            refine wpAnyH_take (i := 6) (oi := { dst := some 39, op := Go.Op.move (Go.Operand.tmp 1), type := 9, pos := "l02_sums.go:68", after := #[], guard := none }) (v := ?_) rfl (by kernel_rfl) (by kernel_rfl) (by kernel_rfl) (fun _ _ _ h => h) (Or.inl ⟨by kernel_rfl, ?_⟩) (by assumption) ?_
            rotate_left
            · intro w hSw; (try dsimp only at hSw); go_simp; try with_reducible rfl
            simp only [Act.put, List.setIfInBounds_toArray, List.set_cons_zero, List.set_cons_succ]
            refine wpAnyH_take (i := 7) (oi := { dst := some 40, op := Go.Op.move (Go.Operand.tmp 5), type := 3, pos := "l02_sums.go:68", after := #[], guard := none }) (v := ?_) rfl (by kernel_rfl) (by kernel_rfl) (by kernel_rfl) (fun _ _ _ h => h) (Or.inl ⟨by kernel_rfl, ?_⟩) (by assumption) ?_
            rotate_left
            · intro w hSw; (try dsimp only at hSw); go_simp; try with_reducible rfl
            simp only [Act.put, List.setIfInBounds_toArray, List.set_cons_zero, List.set_cons_succ]
            refine wpAnyH_take (i := 8) (oi := { dst := some 41, op := Go.Op.binOp Go.BinOp.add 3 (Go.Operand.tmp 40) (Go.Operand.const (Go.Value.int Go.IntKind.i64 1)) 3, type := 3, pos := "l02_sums.go:68", after := #[{ on := 7, ground := Go.Ground.data }], guard := none }) (v := ?_) rfl (by kernel_rfl) (by kernel_rfl) (by kernel_rfl) (fun _ _ _ h => h) (Or.inl ⟨by kernel_rfl, ?_⟩) (by assumption) ?_
            rotate_left
            · intro w hSw; (try dsimp only at hSw); go_simp; try with_reducible rfl
            simp only [Act.put, List.setIfInBounds_toArray, List.set_cons_zero, List.set_cons_succ]
            refine wpAnyH_take (i := 9) (oi := { dst := some 42, op := Go.Op.slice 9 (Go.Operand.tmp 39) (some (Go.Operand.tmp 41)) none none, type := 9, pos := "l02_sums.go:68", after := #[{ on := 6, ground := Go.Ground.data }, { on := 8, ground := Go.Ground.data }], guard := none }) (v := ?_) rfl (by kernel_rfl) (by kernel_rfl) (by kernel_rfl) (fun _ _ _ h => h) (Or.inl ⟨by kernel_rfl, ?_⟩) (by assumption) ?_
            rotate_left
            · intro w hSw; (try dsimp only at hSw); go_simp; try with_reducible rfl
            simp only [Act.put, List.setIfInBounds_toArray, List.set_cons_zero, List.set_cons_succ]
            refine wpAnyH_ready (rs := [4]) (by kernel_rfl) (by simp) ?_
            refine AllReadyH.cons (o := { dst := some 37, op := Go.Op.call { callee := Go.Callee.value (Go.Operand.func 99), args := #[Go.Operand.tmp 36, Go.Operand.const (Go.Value.int Go.IntKind.i64 1)], argTypes := #[83, 3] }, type := 9, pos := "l02_sums.go:68", after := #[{ on := 3, ground := Go.Ground.data }], guard := none }) rfl (fun K hK => ?_) ?_
            · go_simp
              go_wp2_with (go_at_call 99; refine (text_curL _ p n cap ao 1 (by omega) (HC2.out.below ((Below.refl _ _).drew) HC2.out.lt)).mono ?_; rintro e w3 ⟨t, rfl, ht, HC3, HK3⟩)
              have hcat1 : ¬ 9223372036854775807 < (s.extract 0 i).size + t.size := by have := ext_le s 0 i; omega
              have hcat2 : ¬ 9223372036854775807 < (s.extract 0 i ++ t).size + (s.extract (i + 1) s.size).size := by have := ext_le s 0 i; have := ext_le s (i + 1) s.size; rw [ByteArray.size_append]; omega
              refine hK.out _ _ trivial (fun hHeld => ?_)
              clear hK K
              try simp only [Act.put, List.setIfInBounds_toArray, List.set_cons_zero, List.set_cons_succ]
              refine wpAnyH_take (i := 5) (oi := { dst := some 38, op := Go.Op.binOp Go.BinOp.add 9 (Go.Operand.tmp 35) (Go.Operand.tmp 37) 9, type := 9, pos := "l02_sums.go:68", after := #[{ on := 2, ground := Go.Ground.data }, { on := 4, ground := Go.Ground.data }], guard := none }) (v := ?_) rfl (by kernel_rfl) (by kernel_rfl) (by kernel_rfl) (fun _ _ _ h => h) (Or.inl ⟨by kernel_rfl, ?_⟩) (by assumption) ?_
              rotate_left
              · intro w hSw; (try dsimp only at hSw); go_simp; try with_reducible rfl
              simp only [Act.put, List.setIfInBounds_toArray, List.set_cons_zero, List.set_cons_succ]
              refine wpAnyH_take (i := 10) (oi := { dst := some 43, op := Go.Op.binOp Go.BinOp.add 9 (Go.Operand.tmp 38) (Go.Operand.tmp 42) 9, type := 9, pos := "l02_sums.go:68", after := #[{ on := 5, ground := Go.Ground.data }, { on := 9, ground := Go.Ground.data }], guard := none }) (v := ?_) rfl (by kernel_rfl) (by kernel_rfl) (by kernel_rfl) (fun _ _ _ h => h) (Or.inl ⟨by kernel_rfl, ?_⟩) (by assumption) ?_
              rotate_left
              · intro w hSw; (try dsimp only at hSw); go_simp; try with_reducible rfl
              simp only [Act.put, List.setIfInBounds_toArray, List.set_cons_zero, List.set_cons_succ]
              refine wpAnyH_take (i := 11) (oi := { dst := some 4, op := Go.Op.assign (Go.Operand.tmp 43), type := 9, pos := "l02_sums.go:68", after := #[{ on := 10, ground := Go.Ground.data }, { on := 4, ground := Go.Ground.chain }, { on := 0, ground := Go.Ground.phase }, { on := 1, ground := Go.Ground.phase }, { on := 2, ground := Go.Ground.phase }, { on := 3, ground := Go.Ground.phase }, { on := 4, ground := Go.Ground.phase }, { on := 5, ground := Go.Ground.phase }, { on := 6, ground := Go.Ground.phase }, { on := 7, ground := Go.Ground.phase }, { on := 8, ground := Go.Ground.phase }, { on := 9, ground := Go.Ground.phase }, { on := 10, ground := Go.Ground.phase }], guard := none }) (v := ?_) rfl (by kernel_rfl) (by kernel_rfl) (by kernel_rfl) (fun _ _ _ h => h) (Or.inl ⟨by kernel_rfl, ?_⟩) (by assumption) ?_
              rotate_left
              · intro w hSw; (try dsimp only at hSw); go_simp; try with_reducible rfl
              simp only [Act.put, List.setIfInBounds_toArray, List.set_cons_zero, List.set_cons_succ]
              refine wpAnyH_done (by kernel_rfl) ?_ _
              clear hHeld
              go_wp2
              go_ret
              exact ⟨_, rfl, by show _ ≤ _; rw [ByteArray.size_append, ByteArray.size_append]; have := ext_le s 0 i; have := ext_le2 s i (by omega); omega, HC3, HKK2.out.trans (((KeptBut.refl p w2).below ((Below.refl _ _).drew)).trans HK3.out)⟩
            exact AllReadyH.nil
      · have e3 : ¬ k = 2 := fun h => e2 (.inl h)
        have e4 : ¬ k = 3 := fun h => e2 (.inr h)
        go_wp2
        go_ret
        exact ⟨s, rfl, Nat.le_succ _, HC1, HK1⟩
end Go.Proofs.Ytelikebpddhncaa
