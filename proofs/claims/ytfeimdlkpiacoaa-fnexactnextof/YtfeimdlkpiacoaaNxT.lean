/-
  Numbers in order: the model.
-/
import Derived.Test.YtfeimdlkpiacoaaNxM
import Derived.Test.YtfeimdlkpiacoaaNxS
import Derived.Deep.DeepCutAuto
namespace Go.Proofs.Ytfeimdlkpiacoaa
open Go.RowKit

set_option maxHeartbeats 8000000 in
set_option maxRecDepth 100000 in
theorem l04Sorted_any (lo hi : Nat) (a : Option Addr) (n cap : Nat) (zs : List Int) (w : World) (ha : RowIn lo hi w a zs) (hh : hi ≤ w.heap.size) (hn : zs.length = n) (hm : n ≤ 1048576) :
    Calls Try.prog 45 #[.slice a n cap] w fun e w' => ∃ (a' : Option Addr) (n' cap' : Nat), e = .returned (.slice a' n' cap') ∧ Hid ((nextL zs).length = n') ∧ Hid (RowOwn w.heap.size w'.heap.size w' a' (nextL zs)) ∧ Hid (Below w.heap.size w w') := by
  have HN : Hid (zs.length = n) := hn
  have HA : Hid (RowIn lo hi w a zs) := ha
  have HH : Hid (hi ≤ w.heap.size) := hh
  obtain ⟨i0, hi0, hz0, hz1, hz2⟩ := info_parts Try.info3
  clear ha hh hn
  obtain ⟨B, HB⟩ : ∃ B, Hid (B = w.heap.size) := ⟨_, rfl⟩
  go_enter Try.func45, Try.ntmps45
  go_wp2
  rw [← HB.out]
  go_loopw [4, 3] (fun i v wr => ∃ k m : Nat, i = .int .i64 k ∧ k ≤ n ∧ Hid (wr.ownsRow B 3 1 v m (rowCells (nextL (zs.take k)))) ∧ Hid ((nextL (zs.take k)).length = m) ∧ Hid (Below B w wr)) (fun i _ _ => n - (intOf i).toNat)
  case atStart =>
    refine ⟨0, 0, rfl, by omega, ?_, rfl, ?_⟩
    · show World.ownsRow _ _ _ _ _ _ []
      have := World.ownsRow_made w (base := B) (e := 3) (size := 1) #[] 0 (by rw [HB.out]; exact Nat.le_refl _) (Nat.zero_le _) rfl
      simpa [HB.out] using this
    · exact (Below.refl _ _).alloc (by rw [HB.out]; exact Nat.le_refl _) _
  case round =>
    obtain ⟨k, m, rfl, hk, HO, HM, HL⟩ := hrel
    have hmk : m ≤ k := by rw [← HM.out]; exact nextTake_len zs k
    by_cases hlt : k < n
    · have hlt1 : (k : Int) < (n : Int) := by omega
      have hlt0 : (0 : Int) ≤ (k : Int) := by omega
      obtain ⟨oa, ocap, hov, HOI0⟩ := owns_row HO.out HM.out
      subst hov
      obtain ⟨OL, HOL⟩ : ∃ OL, Hid (OL = nextL (zs.take k)) := ⟨_, rfl⟩
      rw [← HOL.out] at HO HM HOI0
      obtain ⟨z, HZ⟩ : ∃ z, Hid (z = zs.getD k 0) := ⟨_, rfl⟩
      have HSTEP : Hid (nextL (zs.take (k + 1)) = putI OL z) := by show _ = _; rw [foldI_step (by rw [HN.out]; exact hlt), HOL.out, HZ.out]
      obtain ⟨X, HX⟩ : ∃ X, Hid (X = wr.heap.size) := ⟨_, rfl⟩
      obtain ⟨Wr, HWr⟩ : ∃ Wr, Hid (Wr = wr) := ⟨_, rfl⟩
      have HLr : Hid (Below B w Wr) := by rw [HWr.out]; exact HL
      have HXr : Hid (X = Wr.heap.size) := by rw [HWr.out]; exact HX
      have HOI : Hid (RowIn B X Wr oa OL) := by rw [HX.out, HWr.out]; exact HOI0
      have HBX : Hid (B ≤ X) := by have := HL.out.size; have := HB.out; rw [HX.out]; show _ ≤ _; omega
      have HAR : Hid (RowIn lo hi Wr a zs) := HA.out.below HLr.out (by have := HH.out; have := HB.out; omega)
      have HHX : Hid (hi ≤ X) := by have := HH.out; have := HB.out; have := HBX.out; show _ ≤ _; omega
      obtain ⟨F1, HF1⟩ : ∃ F : Nat → List Int, Hid (F = fun j => (OL.take j).filter (fun y => decide (y < z))) := ⟨_, rfl⟩
      obtain ⟨F2, HF2⟩ : ∃ F : Nat → List Int, Hid (F = fun j => (OL.take j).filter (fun y => decide (z < y))) := ⟨_, rfl⟩
      have HPUT : Hid (putI OL z = F1 m ++ (z :: F2 m)) := by show _ = _; rw [HF1.out, HF2.out, ← HM.out]; simp only [List.take_length]; rfl
      have HL1 : Hid (∀ j, (F1 j).length ≤ j) := by intro j; rw [HF1.out]; exact filterI_len OL j
      have HL2 : Hid (∀ j, (F2 j).length ≤ j) := by intro j; rw [HF2.out]; exact filterI_len OL j
      have HST1 : Hid (∀ j, j < m → F1 (j + 1) = F1 j ++ (if decide (OL.getD j 0 < z) = true then [OL.getD j 0] else [])) := by intro j hj; rw [HF1.out]; exact filterI_step (p := fun y => decide (y < z)) (by rw [HM.out]; exact hj)
      have HST2 : Hid (∀ j, j < m → F2 (j + 1) = F2 j ++ (if decide (z < OL.getD j 0) = true then [OL.getD j 0] else [])) := by intro j hj; rw [HF2.out]; exact filterI_step (p := fun y => decide (z < y)) (by rw [HM.out]; exact hj)
      have HZ1 : Hid (F1 0 = []) := by rw [HF1.out]; rfl
      have HZ2 : Hid (F2 0 = []) := by rw [HF2.out]; rfl
      have hst0 : (wr.alloc (.cells #[] 3)).ownsRow X 3 1 (.slice (some ⟨X, 0, none⟩) 0 0) 0 [] := by
        have := World.ownsRow_made wr (base := X) (e := 3) (size := 1) #[] 0 (by rw [HX.out]; exact Nat.le_refl _) (Nat.zero_le _) rfl
        simpa [HX.out] using this
      have HST0 : Hid ((wr.alloc (.cells #[] 3)).ownsRow X 3 1 (.slice (some ⟨X, 0, none⟩) 0 0) 0 []) := hst0
      have HB0 : Hid (Below X Wr (wr.alloc (.cells #[] 3))) := by rw [HX.out, HWr.out]; exact below1 wr _
      clear HF1 HF2 HOI0 hst0 HL HO HWr
      go_wp2
      rw [← HX.out]
      go_loopw [6, 5] (fun i v wq => ∃ j p : Nat, i = .int .i64 j ∧ j ≤ m ∧ Hid (wq.ownsRow X 3 1 v p (rowCells (F1 j))) ∧ Hid ((F1 j).length = p) ∧ Hid (Below X Wr wq)) (fun i _ _ => m - (intOf i).toNat)
      case atStart => exact ⟨0, 0, rfl, by omega, by rw [HZ1.out]; exact HST0, by show _ = _; rw [HZ1.out]; rfl, HB0⟩
      case round =>
        obtain ⟨j, p, rfl, hj, HQ, HP, HLQ⟩ := hrel
        have hpj : p ≤ j := by rw [← HP.out]; exact HL1.out j
        have hXq : X ≤ wr.heap.size := by have := HLQ.out.size; have := HXr.out; omega
        by_cases hjl : j < m
        · have hjl1 : (j : Int) < (m : Int) := by omega
          have hjl0 : (0 : Int) ≤ (j : Int) := by omega
          obtain ⟨zb, zo, hza, zc⟩ := (HAR.out.below HLQ.out HHX.out).num (i := k) (by rw [HN.out]; exact hlt)
          obtain ⟨yb, yo, hya, yc⟩ := (HOI.out.below HLQ.out (Nat.le_refl _)).num (i := j) (by rw [HM.out]; omega)
          rw [← HZ.out] at zc
          obtain ⟨y, HY⟩ : ∃ y, Hid (y = OL.getD j 0) := ⟨_, rfl⟩
          rw [← HY.out] at yc
          have HS1 : Hid (F1 (j + 1) = F1 j ++ (if decide (y < z) = true then [y] else [])) := by show _ = _; rw [HST1.out j (by omega), HY.out]
          subst hza hya
          by_cases hc : y < z
          · have hd : decide (y < z) = true := decide_eq_true hc
            obtain ⟨LL, HLL⟩ : ∃ LL, Hid (LL = F1 j) := ⟨_, rfl⟩
            rw [← HLL.out] at HQ
            have HE9 : Hid (F1 (j + 1) = LL ++ [y]) := by show _ = _; rw [HLL.out, HS1.out, hd]; simp
            clear HS1
            go_wp2_with fail
            go_quiet (fail)
            have HQd : Hid ((wr.drewN nq).ownsRow X 3 1 _ p (rowCells LL)) := HQ
            have HLQd : Hid (Below X Wr (wr.drewN nq)) := below_drewN HLQ.out _
            have hown := HQd.out.alloc (.cells #[.int .i64 y] 3)
            have zcd : (wr.drewN nq).cell? ⟨yb, yo + j, none⟩ = some (.int .i64 y) := yc
            have hXqd : X ≤ (wr.drewN nq).heap.size := hXq
            clear zc yc
            go_wp2_with (at_builtin; refine wpList_append_lies _ rfl (.tmp 31) (.tmp 36) 41 rfl X 3 i0 (.int .i64 0) 1 8 Try.underlying41 hi0 hz0 hz1 hz2 rfl (by decide) _ p (rowCells LL) rfl hown ⟨wr.heap.size, 0, none⟩ 1 1 [.int .i64 y] rfl rfl (cell_one_new' (wr.drewN nq) _ _) (by simp [Value.oneCell']) (by decide) (by unfold maxLen; omega) (by omega) (by simp; omega) _ rfl ?_)
            intro g1 cap1 w1 hown1 hgrow1 _ _
            have HQ1 : Hid (w1.ownsRow X 3 1 (.slice (some ⟨g1, 0, none⟩) (p + 1) cap1) (p + 1) (rowCells (LL ++ [y]))) := by rw [rowCells_snoc]; exact hown1
            have HLQ1 : Hid (Below X Wr w1) := (HLQd.out.alloc hXqd _).grown hgrow1 (by simp; omega) (fun k hk => (HQ.out.lt k hk).1)
            clear hown hown1 hgrow1
            go_wp2
            go_roundw
            case rel => exact ⟨j + 1, p + 1, by go_num, by omega, by rw [HE9.out]; exact HQ1, by show _ = _; rw [HE9.out, List.length_append, HLL.out, HP.out]; rfl, HLQ1⟩
            case measure => simp [intOf]; omega
          · have hd : decide (y < z) = false := decide_eq_false hc
            have HE9 : Hid (F1 (j + 1) = F1 j) := by show _ = _; rw [HS1.out, hd]; simp
            clear HS1
            go_wp2_with fail
            go_quiet (fail)
            have HLQd : Hid (Below X Wr (wr.drewN nq)) := below_drewN HLQ.out _
            go_wp2
            go_roundw
            case rel => exact ⟨j + 1, p, by go_num, by omega, by rw [HE9.out]; exact HQ, by show _ = _; rw [HE9.out, HP.out], HLQd⟩
            case measure => simp [intOf]; omega
        · obtain rfl : j = m := by omega
          obtain ⟨zb, zo, rfl, zc⟩ := (HAR.out.below HLQ.out HHX.out).num (i := k) (by rw [HN.out]; exact hlt)
          rw [← HZ.out] at zc
          have hown := HQ.out.alloc (.cells #[.int .i64 z] 3)
          go_wp2_with (at_builtin; refine wpList_append_lies _ rfl (.tmp 38) (.tmp 43) 41 rfl X 3 i0 (.int .i64 0) 1 8 Try.underlying41 hi0 hz0 hz1 hz2 rfl (by decide) _ p (rowCells (F1 j)) rfl hown ⟨wr.heap.size, 0, none⟩ 1 1 [.int .i64 z] rfl rfl (cell_one_new' _ _ _) (by simp [Value.oneCell']) (by decide) (by unfold maxLen; omega) (by omega) (by simp; omega) _ rfl ?_)
          intro g1 cap1 w1 hown1 hgrow1 _ _
          have HQ1 : Hid (w1.ownsRow X 3 1 (.slice (some ⟨g1, 0, none⟩) (p + 1) cap1) (p + 1) (rowCells (F1 j ++ [z]))) := by rw [rowCells_snoc]; exact hown1
          have HLQ1 : Hid (Below X Wr w1) := (HLQ.out.alloc hXq _).grown hgrow1 (by simp; omega) (fun k hk => (HQ.out.lt k hk).1)
          clear hown hown1 hgrow1 zc HQ HLQ
          go_wp2
          go_loopw [7, 5] (fun i v wq => ∃ j2 p2 : Nat, i = .int .i64 j2 ∧ j2 ≤ j ∧ Hid (wq.ownsRow X 3 1 v p2 (rowCells ((F1 j ++ [z]) ++ F2 j2))) ∧ Hid (((F1 j ++ [z]) ++ F2 j2).length = p2) ∧ Hid (Below X Wr wq)) (fun i _ _ => j - (intOf i).toNat)
          case atStart =>
            refine ⟨0, p + 1, rfl, by omega, ?_, by show _ = _; rw [HZ2.out, List.append_nil, List.length_append, HP.out]; rfl, HLQ1⟩
            rw [HZ2.out, List.append_nil]; exact HQ1
          case round =>
            obtain ⟨j2, p2, rfl, hj2, HQ, HP2, HLQ⟩ := hrel
            have hpj2 : p2 ≤ p + 1 + j2 := by rw [← HP2.out, List.length_append, List.length_append, HP.out]; have := HL2.out j2; simp; omega
            have hXq : X ≤ wr.heap.size := by have := HLQ.out.size; have := HXr.out; omega
            by_cases hjl : j2 < j
            · have hjl1 : (j2 : Int) < (j : Int) := by omega
              have hjl0 : (0 : Int) ≤ (j2 : Int) := by omega
              obtain ⟨zb2, zo2, hza, zc⟩ := (HAR.out.below HLQ.out HHX.out).num (i := k) (by rw [HN.out]; exact hlt)
              obtain ⟨yb, yo, hya, yc⟩ := (HOI.out.below HLQ.out (Nat.le_refl _)).num (i := j2) (by rw [HM.out]; omega)
              rw [← HZ.out] at zc
              obtain ⟨y, HY⟩ : ∃ y, Hid (y = OL.getD j2 0) := ⟨_, rfl⟩
              rw [← HY.out] at yc
              have HS1 : Hid (F2 (j2 + 1) = F2 j2 ++ (if decide (z < y) = true then [y] else [])) := by show _ = _; rw [HST2.out j2 (by omega), HY.out]
              simp only [Option.some.injEq, Addr.mk.injEq, and_true] at hza
              obtain ⟨rfl, rfl⟩ := hza
              subst hya
              by_cases hc : z < y
              · have hd : decide (z < y) = true := decide_eq_true hc
                obtain ⟨LL, HLL⟩ : ∃ LL, Hid (LL = (F1 j ++ [z]) ++ F2 j2) := ⟨_, rfl⟩
                rw [← HLL.out] at HQ
                have HE9 : Hid ((F1 j ++ [z]) ++ F2 (j2 + 1) = LL ++ [y]) := by show _ = _; rw [HLL.out, HS1.out, hd]; simp
                clear HS1
                go_wp2_with fail
                go_quiet (fail)
                have HQd : Hid ((wr.drewN nq).ownsRow X 3 1 _ p2 (rowCells LL)) := HQ
                have HLQd : Hid (Below X Wr (wr.drewN nq)) := below_drewN HLQ.out _
                have hown := HQd.out.alloc (.cells #[.int .i64 y] 3)
                have zcd : (wr.drewN nq).cell? ⟨yb, yo + j2, none⟩ = some (.int .i64 y) := yc
                have hXqd : X ≤ (wr.drewN nq).heap.size := hXq
                clear zc yc
                go_wp2_with (at_builtin; refine wpList_append_lies _ rfl (.tmp 60) (.tmp 65) 41 rfl X 3 i0 (.int .i64 0) 1 8 Try.underlying41 hi0 hz0 hz1 hz2 rfl (by decide) _ p2 (rowCells LL) rfl hown ⟨wr.heap.size, 0, none⟩ 1 1 [.int .i64 y] rfl rfl (cell_one_new' (wr.drewN nq) _ _) (by simp [Value.oneCell']) (by decide) (by unfold maxLen; omega) (by omega) (by simp; omega) _ rfl ?_)
                intro g1 cap1 w1 hown1 hgrow1 _ _
                have HQ1 : Hid (w1.ownsRow X 3 1 (.slice (some ⟨g1, 0, none⟩) (p2 + 1) cap1) (p2 + 1) (rowCells (LL ++ [y]))) := by rw [rowCells_snoc]; exact hown1
                have HLQ1 : Hid (Below X Wr w1) := (HLQd.out.alloc hXqd _).grown hgrow1 (by simp; omega) (fun k hk => (HQ.out.lt k hk).1)
                clear hown hown1 hgrow1
                go_wp2
                go_roundw
                case rel => exact ⟨j2 + 1, p2 + 1, by go_num, by omega, by rw [HE9.out]; exact HQ1, by show _ = _; rw [HE9.out, List.length_append, HLL.out, HP2.out]; rfl, HLQ1⟩
                case measure => simp [intOf]; omega
              · have hd : decide (z < y) = false := decide_eq_false hc
                have HE9 : Hid ((F1 j ++ [z]) ++ F2 (j2 + 1) = (F1 j ++ [z]) ++ F2 j2) := by show _ = _; rw [HS1.out, hd]; simp
                clear HS1
                go_wp2_with fail
                go_quiet (fail)
                have HLQd : Hid (Below X Wr (wr.drewN nq)) := below_drewN HLQ.out _
                go_wp2
                go_roundw
                case rel => exact ⟨j2 + 1, p2, by go_num, by omega, by rw [HE9.out]; exact HQ, by show _ = _; rw [HE9.out, HP2.out], HLQd⟩
                case measure => simp [intOf]; omega
            · obtain rfl : j2 = j := by omega
              have HFIN := HQ.out
              rw [List.append_assoc, List.singleton_append, ← HPUT.out, ← HSTEP.out] at HFIN
              have HFX : Hid (wr.ownsRow X 3 1 _ p2 (rowCells (nextL (zs.take (k + 1))))) := HFIN
              have HFL : Hid ((nextL (zs.take (k + 1))).length = p2) := by have h := HP2.out; rw [List.append_assoc, List.singleton_append, ← HPUT.out, ← HSTEP.out] at h; exact h
              clear HFIN
              go_wp2
              go_roundw
              case rel => exact ⟨k + 1, p2, by go_num, by omega, owns_low HFX.out HBX.out, HFL, HLr.out.trans (HLQ.out.mono HBX.out)⟩
              case measure => simp [intOf]; omega
    · obtain rfl : k = n := by omega
      have HT : Hid (nextL (zs.take k) = nextL zs) := by show _ = _; rw [List.take_of_length_le (by rw [HN.out]; exact Nat.le_refl _)]
      rw [HT.out] at HO HM
      obtain ⟨a9, cap9, hv9, HR9⟩ := rowOwn_of HO.out HM.out
      have HR9' : Hid (RowOwn B wr.heap.size wr a9 (nextL zs)) := HR9
      subst hv9
      go_wp2
      go_ret
      exact ⟨a9, m, cap9, rfl, HM, by rw [← HB.out]; exact HR9', by rw [← HB.out]; exact HL⟩
end Go.Proofs.Ytfeimdlkpiacoaa
