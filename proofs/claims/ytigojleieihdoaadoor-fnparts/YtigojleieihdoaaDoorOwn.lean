/-
  Whose a vertex is: impl.OwnerOf and spec.OwnerOf.
-/
import Derived.Test.YtigojleieihdoaaDoorBld
import Derived.Test.YtigojleieihdoaaDoorSum
import Derived.Test.YtigojleieihdoaaDoorEdA
namespace Go.Proofs.YtigojleieihdoaaDoor
open Go.RowKit

/-- whose a vertex is -/
def ownOf (v n : Int) : Int := if (1 ≤ n ∧ n ≤ 8) ∧ 0 ≤ v ∧ v ≤ 11 then ((sumL (vb v) : Nat) : Int) % n else 0
theorem own_yes {v n : Int} (h : (1 ≤ n ∧ n ≤ 8) ∧ 0 ≤ v ∧ v ≤ 11) : ownOf v n = ((sumL (vb v) : Nat) : Int) % n := by unfold ownOf; rw [if_pos h]
theorem own_no {v n : Int} (h : ¬ ((1 ≤ n ∧ n ≤ 8) ∧ 0 ≤ v ∧ v ≤ 11)) : ownOf v n = 0 := by unfold ownOf; rw [if_neg h]
theorem own_ge (v n : Int) : 0 ≤ ownOf v n := by
  unfold ownOf
  split
  · exact Int.emod_nonneg _ (by omega)
  · omega
theorem own_lt {v n : Int} (h : 1 ≤ n) : ownOf v n < n := by
  unfold ownOf
  split
  · exact Int.emod_lt_of_pos _ (by omega)
  · omega

theorem row_one (w : World) (x : Int) (b : Nat) (hb : b = w.heap.size) (T : TypeId) : RowIn w.heap.size (w.heap.size + 1) (w.alloc (.cells #[.int .i64 x] T)) (some ⟨b, 0, none⟩) [x] := by
  subst hb
  refine .inr ⟨_, 0, rfl, Nat.le_refl _, Nat.lt_succ_self _, fun i hi => ?_⟩
  have hi' : i = 0 := by simpa using hi
  subst hi'
  rw [cell_of_row _ w.heap.size _ _ T (0, 0) (heap_alloc_new w _)]
  rfl
theorem nums_one (x : Int) (w : World) (h0 : 0 ≤ x) (h1 : x ≤ 1000000000) (T : TypeId) (b : Nat) (hb : b = w.heap.size) :
    Calls Tryd.prog 37 #[.slice (some ⟨b, 0, none⟩) 1 1] (w.alloc (.cells #[.int .i64 x] T)) fun e w' => ∃ t : ByteArray, e = .returned (.string t) ∧ Hid (t.data.toList = vb x) ∧ Hid (Below w.heap.size w w') :=
  (varTexts_any w.heap.size (w.heap.size + 1) (some ⟨b, 0, none⟩) 1 1 [x] _ (row_one w x b hb T) (by simp) rfl (by omega) (fun i hi => by
    have : i = 0 := by omega
    subst this
    simpa using ⟨h0, h1⟩)).mono fun _ _ ⟨t, h1, h2, h3⟩ => ⟨t, h1, by show _ = _; rw [h2.out]; simp [vt], (below1 w _).trans (h3.out.mono (by simp))⟩

theorem size_data (t : ByteArray) : t.size = t.data.toList.length := by rw [Array.length_toList]; rfl
theorem vb_len (x : Int) : (vb x).length ≤ 10 := varB_le 9 _

set_option maxHeartbeats 1000000 in
set_option maxRecDepth 100000 in
theorem ownerOf_any (v n r : Int) (w : World) (ht : FT w) (hr : r = ownOf v n) :
    Calls Tryd.prog 12 #[.int .i64 v, .int .i64 n] w fun e w' => e = .returned (.int .i64 r) ∧ Hid (Below w.heap.size w w') := by
  have HT : Hid (FT w) := ht
  clear ht
  by_cases h1 : n < 1
  · obtain rfl : r = 0 := by rw [hr, own_no (by omega)]
    clear hr
    go_enter Tryd.func12, Tryd.ntmps12
    go_wp2
    go_ret
    exact ⟨rfl, Below.refl _ _⟩
  by_cases h2 : (8 : Int) < n
  · obtain rfl : r = 0 := by rw [hr, own_no (by omega)]
    clear hr
    go_enter Tryd.func12, Tryd.ntmps12
    go_wp2
    go_ret
    exact ⟨rfl, Below.refl _ _⟩
  by_cases h3 : 0 ≤ v ∧ v < 12
  · have hq : inV 12 v = true := by unfold inV; simp; omega
    have HR : Hid (r = ((sumL (vb v) : Nat) : Int) % n) := by rw [hr]; exact own_yes (by omega)
    have h0 : ¬ n = 0 := by omega
    clear hr
    go_enter Tryd.func12, Tryd.ntmps12
    go_wp2_with fail
    refine (isVertex_any v 12 true _ hq.symm).mono ?_
    rintro e w1 ⟨rfl, rfl⟩
    go_wp2_with fail
    refine (nums_one v _ h3.1 (by omega) _ _ rfl).mono ?_
    rintro e w2 ⟨t, rfl, HV, HB⟩
    have hsz : t.size ≤ 10 := by rw [size_data, HV.out]; exact vb_len v
    go_wp2_with fail
    refine (SumOf_any t w2 (by omega) (HT.out.below HB.out)).mono ?_
    rintro e w3 ⟨rfl, rfl⟩
    rw [HV.out]
    obtain ⟨s, HS⟩ : ∃ s : Nat, Hid (s = sumL (vb v)) := ⟨_, rfl⟩
    rw [← HS.out] at HR ⊢
    have hs : s < 4294967296 := by rw [HS.out]; exact sumL_lt _
    go_wp2
    go_ret
    refine ⟨?_, HB⟩
    rw [HR.out]
    rfl
  · have hq : inV 12 v = false := by unfold inV; simp; omega
    obtain rfl : r = 0 := by rw [hr, own_no (by omega)]
    clear hr
    go_enter Tryd.func12, Tryd.ntmps12
    go_wp2_with fail
    refine (isVertex_any v 12 false _ hq.symm).mono ?_
    rintro e w1 ⟨rfl, rfl⟩
    go_wp2
    go_ret
    exact ⟨rfl, Below.refl _ _⟩

set_option maxHeartbeats 1000000 in
set_option maxRecDepth 100000 in
theorem specOwner_any (v n r : Int) (w : World) (hr : r = ownOf v n) :
    Calls Tryd.prog 14 #[.int .i64 v, .int .i64 n] w fun e w' => e = .returned (.int .i64 r) ∧ Hid (Below w.heap.size w w') := by
  by_cases h1 : 1 ≤ n ∧ n ≤ 8
  · have hq1 : (decide ((1 : Int) ≤ n) && decide (n ≤ 8)) = true := by simpa using h1
    by_cases h3 : 0 ≤ v ∧ v ≤ 11
    · have hq : (decide ((0 : Int) ≤ v) && decide (v ≤ 11)) = true := by simpa using h3
      have HR : Hid (r = ((sumL (vb v) : Nat) : Int) % n) := by rw [hr]; exact own_yes (by omega)
      have h0 : ¬ n = 0 := by omega
      obtain ⟨k, rfl⟩ : ∃ k : Nat, v = (k : Int) := ⟨v.toNat, by omega⟩
      clear hr
      go_enter Tryd.func14, Tryd.ntmps14
      go_wp2_with fail
      refine (l01In_any n 1 8 _).mono ?_
      rw [hq1]
      rintro e w1 ⟨rfl, rfl⟩
      go_wp2_with fail
      refine (l01In_any (k : Int) 0 11 _).mono ?_
      rw [hq]
      rintro e w1 ⟨rfl, rfl⟩
      go_wp2_with fail
      refine (sp.l01Var_any k _ (by omega)).mono ?_
      rintro e w2 ⟨rfl, hb⟩
      have HB : Hid (Below w.heap.size w w2) := hb
      clear hb
      obtain ⟨t, HV⟩ : ∃ t : ByteArray, Hid (t = ⟨(sp.varB 9 k).toArray⟩) := ⟨_, rfl⟩
      rw [← HV.out]
      have HV2 : Hid (t.data.toList = vb (k : Int)) := by show _ = _; rw [HV.out]; rfl
      have hsz : t.size ≤ 10 := by rw [size_data, HV2.out]; exact vb_len _
      go_wp2_with fail
      refine (sSumOf_any t w2 (by omega)).mono ?_
      rintro e w3 ⟨rfl, rfl⟩
      rw [HV2.out]
      obtain ⟨s, HS⟩ : ∃ s : Nat, Hid (s = sumL (vb (k : Int))) := ⟨_, rfl⟩
      rw [← HS.out] at HR ⊢
      have hs : s < 4294967296 := by rw [HS.out]; exact sumL_lt _
      have hm1 : 0 ≤ (s : Int) % n := Int.emod_nonneg _ h0
      have hm2 : (s : Int) % n < 8 := by have := Int.emod_lt_of_pos (s : Int) (show 0 < n by omega); omega
      go_wp2
      go_ret
      refine ⟨?_, HB⟩
      rw [HR.out]
      rfl
    · have hq : (decide ((0 : Int) ≤ v) && decide (v ≤ 11)) = false := by simp; omega
      obtain rfl : r = 0 := by rw [hr, own_no (by omega)]
      clear hr
      go_enter Tryd.func14, Tryd.ntmps14
      go_wp2_with fail
      refine (l01In_any n 1 8 _).mono ?_
      rw [hq1]
      rintro e w1 ⟨rfl, rfl⟩
      go_wp2_with fail
      refine (l01In_any v 0 11 _).mono ?_
      rw [hq]
      rintro e w1 ⟨rfl, rfl⟩
      go_wp2
      go_ret
      exact ⟨rfl, Below.refl _ _⟩
  · have hq1 : (decide ((1 : Int) ≤ n) && decide (n ≤ 8)) = false := by simp; omega
    obtain rfl : r = 0 := by rw [hr, own_no (by omega)]
    clear hr
    go_enter Tryd.func14, Tryd.ntmps14
    go_wp2_with fail
    refine (l01In_any n 1 8 _).mono ?_
    rw [hq1]
    rintro e w1 ⟨rfl, rfl⟩
    go_wp2
    go_ret
    exact ⟨rfl, Below.refl _ _⟩
end Go.Proofs.YtigojleieihdoaaDoor
