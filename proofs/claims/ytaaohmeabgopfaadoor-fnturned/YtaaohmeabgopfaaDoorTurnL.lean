/-
  The walk of the law FnTurned, whole.
-/
import Derived.Test.YtaaohmeabgopfaaDoorTurn
namespace Go.Proofs.YtaaohmeabgopfaaDoor
open Go.RowKit

set_option maxHeartbeats 2000000 in
set_option maxRecDepth 100000 in
theorem law_turned (ao : Option Addr) (n cap : Nat) (w : World) (hn : n ≤ 1048576) (hc : CodeIn w ao n) (ht : FT w) :
    Calls Tryd.prog 3 #[.slice ao n cap] w fun e w' => e = .returned (.bool true) ∧ Below w.heap.size w w' := by
  have HC : Hid (CodeIn w ao n) := hc
  have HT : Hid (FT w) := ht
  clear hc ht
  go_enter Tryd.func3, Tryd.ntmps3
  go_wp2_with fail
  refine (big_no ao n cap _ hn).mono ?_
  rintro e w1 ⟨rfl, rfl⟩
  go_wp2_with fail
  refine (drawSumOf_any _ ao n cap hn HC.out).mono ?_
  rintro e w2 ⟨s, rfl, hs, hb2⟩
  have B2 : Hid (Below w.heap.size w w2) := hb2
  clear hb2
  go_wp2_with fail
  refine (drawPlaces_any _ ao n cap hn (HC.out.below B2.out)).mono ?_
  rintro e w3 ⟨v, B, l, rfl, hB, hP, hb3⟩
  have B3 : Hid (Below w.heap.size w w3) := B2.out.trans (hb3.mono B2.out.size)
  obtain ⟨gp, cp, z0, z1, rfl, hgp, hp0, hp1, hz00, hz01, hz10, hz11⟩ := hP.two
  have HP0 : Hid (w3.cell? ⟨gp, 0, none⟩ = some (.int .i64 z0)) := hp0
  have HP1 : Hid (w3.cell? ⟨gp, 1, none⟩ = some (.int .i64 z1)) := hp1
  clear hb3 hP hB hp0 hp1
  go_wp2_with fail
  refine (sealed_rt s _ hs (HT.out.below B3.out)).mono ?_
  rintro e w4 ⟨t, rfl, hseal, hts, hb4⟩
  have B4 : Hid (Below w.heap.size w w4) := B3.out.trans (hb4.mono B3.out.size)
  have B34 : Hid (Below w3.heap.size w3 w4) := hb4
  clear hb4
  go_wp2_with fail
  refine (unsealed_rt s t _ hs (by omega) hseal.out (HT.out.below B4.out)).mono ?_
  rintro e w5 ⟨rfl, hb5⟩
  have B5 : Hid (Below w.heap.size w w5) := B4.out.trans (hb5.mono B4.out.size)
  have B35 : Hid (Below w3.heap.size w3 w5) := B34.out.trans (hb5.mono B34.out.size)
  clear hb5
  obtain ⟨C, w6, hconv, hby, hb6⟩ := bytes_made w5 t
  have B36 : Hid (Below w3.heap.size w3 w6) := B35.out.trans (hb6.mono B35.out.size)
  have B6 : Hid (Below w.heap.size w w6) := B5.out.trans (hb6.mono B5.out.size)
  have hp0 : w6.cell? ⟨gp, 0, none⟩ = some (.int .i64 z0) := (B36.out.cell hgp).trans HP0.out
  have hp1 : w6.cell? ⟨gp, 1, none⟩ = some (.int .i64 z1) := (B36.out.cell hgp).trans HP1.out
  have hmod0 : 0 ≤ z0 % ((s.size : Int) + 4) := Int.emod_nonneg _ (by omega)
  have hmod1 : z0 % ((s.size : Int) + 4) < (s.size : Int) + 4 := Int.emod_lt_of_pos _ (by omega)
  obtain ⟨i, hi⟩ := Int.eq_ofNat_of_zero_le hmod0
  rw [hi] at hmod0 hmod1
  have htl : t.data.toList.length = t.size := data_size t
  have hil : i < t.data.toList.length := by omega
  have hid : i < t.data.size := by simpa using hil
  obtain ⟨d, hxor, hne⟩ := turned_byte t.data[i] z1
  have hcell := hby.cell i hil
  have hfro := hby.frozen i hil
  have hgne : gp ≠ w5.heap.size := by have := B35.out.size; omega
  have HBY : Hid (BytesAt w6 w5.heap.size t.data.toList) := hby
  have HNE : Hid (d ≠ t.data[i]) := hne
  have hi2 : (i : Int) < (t.size : Int) := by omega
  have hdz : ((s.size : Int) + 4 == 0) = false := by simp; omega
  clear hby hb6 hne
  go_wp2_with fail
  go_region
  have HB7 : BytesAt (w6.setCell ⟨w5.heap.size, i, none⟩ (.int .u8 (d.toNat : Int))).drew w5.heap.size (t.data.toList.set i d) := (HBY.out.put i d).below ((Below.refl _ _).drew)
  obtain ⟨T, hT⟩ : ∃ T : ByteArray, T.data.toList = t.data.toList.set i d := ⟨⟨(t.data.toList.set i d).toArray⟩, rfl⟩
  have hstr : (convert 22 9 (.slice (some ⟨w5.heap.size, 0, none⟩) t.size C)).run Tryd.prog (w6.setCell ⟨w5.heap.size, i, none⟩ (.int .u8 (d.toNat : Int))).drew = .ok (.string T) (w6.setCell ⟨w5.heap.size, i, none⟩ (.int .u8 (d.toNat : Int))).drew := by
    have h1 := HB7.text (cap := C)
    rw [List.length_set, htl] at h1
    have h2 : T = ⟨(t.data.toList.set i d).toArray⟩ := WideShapes.bytes_inj hT
    rw [h2]
    exact h1
  have HTS : Hid (T.size = t.size) := by
    show T.size = t.size
    rw [← data_size T, hT, List.length_set, htl]
  have HBad : Hid (¬ Bears T.data.toList) := by
    show ¬ Bears T.data.toList
    rw [hT, hseal.out]
    refine bears_not s.data.toList i d (by rw [← hseal.out]; exact hil) ?_
    have e : (sealL s.data.toList)[i]'(by rw [← hseal.out]; exact hil) = t.data[i] := by
      simp only [← hseal.out]
      simp
    rw [e]
    exact HNE.out
  have B7 : Hid (Below w.heap.size w (w6.setCell ⟨w5.heap.size, i, none⟩ (.int .u8 (d.toNat : Int))).drew) := (B6.out.setCell B5.out.size _).drew
  clear HB7 hT hcell hfro hp0 hp1 hconv hxor hgne hi2 hdz hmod1 hi HNE
  go_wp2_with fail
  refine (unsealed_bad T _ (by have := HTS.out; omega) (by have := HTS.out; omega) HBad.out (HT.out.below B7.out)).mono ?_
  rintro e w8 ⟨rfl, hb8⟩
  have B8 : Hid (Below w.heap.size w w8) := B7.out.trans (hb8.mono B7.out.size)
  clear hb8
  go_wp2_with fail
  refine (SumOf_let s _ (by omega) (HT.out.below B8.out)).mono ?_
  rintro e w9 ⟨x, rfl, hx1, hx2, rfl⟩
  go_wp2_with fail
  refine (SumMore_let x _ _ hx2.out (by decide) (HT.out.below B8.out)).mono ?_
  rintro e w9 ⟨y, rfl, hy, rfl⟩
  go_wp2_with fail
  refine (SumOf_let _ _ ?_ (HT.out.below B8.out)).mono ?_
  · rw [ByteArray.size_append]
    show s.size + 1 ≤ 1000000
    omega
  rintro e w9 ⟨z, rfl, hz1, hz2, rfl⟩
  have hyz : y = z := by
    rw [hy.out, hz1.out, hx1.out]
    have e : (s ++ ⟨#[120]⟩ : ByteArray).data.toList = s.data.toList ++ [120] := by simp
    rw [e, sumL_snoc]
  subst hyz
  go_wp2
  go_ret
  exact ⟨rfl, B8.out⟩

end Go.Proofs.YtaaohmeabgopfaaDoor
