/-
  The walk of the law FnNumbers.
-/
import Derived.Test.YtcbebilhbghclaaDoorWdC
import Derived.Test.YtcbebilhbghclaaDoorDrawE
import Derived.Deep.DeepCutAuto
namespace Go.Proofs.YtcbebilhbghclaaDoor
open Go.RowKit

set_option maxHeartbeats 400000 in
theorem big_no (ao : Option Addr) (n cap : Nat) (w : World) (hn : n ≤ 1048576) :
    Calls Tryd.prog 7 #[.slice ao n cap] w fun e w' => e = .returned (.bool false) ∧ w = w' := by
  have h : ¬ (1048576 : Int) < (n : Int) := by omega
  have hd : decide ((1048576 : Int) < (n : Int)) = false := by simp; omega
  go_enter Tryd.func7, Tryd.ntmps7
  go_wp2
  go_ret
  exact ⟨rfl, rfl⟩
set_option maxHeartbeats 400000 in
theorem big_yes (ao : Option Addr) (n cap : Nat) (w : World) (hn : (1048576 : Int) < (n : Int)) :
    Calls Tryd.prog 7 #[.slice ao n cap] w fun e w' => e = .returned (.bool true) ∧ w = w' := by
  have hd : decide ((1048576 : Int) < (n : Int)) = true := by simp; omega
  go_enter Tryd.func7, Tryd.ntmps7
  go_wp2
  go_ret
  exact ⟨rfl, rfl⟩

set_option maxHeartbeats 2000000 in
set_option maxRecDepth 100000 in
theorem law_numbers (ao : Option Addr) (n cap : Nat) (w : World) (hn : n ≤ 1048576) (hc : CodeIn w ao n) (ht : Lib.TabIs Tryd.prog w "internal/strconv.uint64pow10" .u64 Lib.pow10Tab) :
    Calls Tryd.prog 3 #[.slice ao n cap] w fun e w' => e = .returned (.bool true) ∧ Below w.heap.size w w' := by
  have HC : Hid (CodeIn w ao n) := hc
  have HT : Hid (Lib.TabIs Tryd.prog w "internal/strconv.uint64pow10" .u64 Lib.pow10Tab) := ht
  clear hc ht
  go_enter Tryd.func3, Tryd.ntmps3
  go_wp2_with fail
  refine (big_no ao n cap _ hn).mono ?_
  rintro e w1 ⟨rfl, rfl⟩
  go_wp2_with fail
  refine (drawVar_any _ ao n cap hn HC.out).mono ?_
  rintro e w2 ⟨x, rfl, hx0, hx1, hb2⟩
  have B2 : Hid (Below w.heap.size w w2) := hb2
  clear hb2
  go_upto_region 4 with fail
  go_cut [30] (fun b wc => (b = .bool true ∨ (b = .bool false ∧ 0 ≤ x ∧ x ≤ 1000000000)) ∧ wc = w2)
  case first =>
    by_cases h1 : x < 0
    · go_wp2_with fail
      go_meet
      case rel => exact ⟨.inl rfl, rfl⟩
    · by_cases h2 : 1000000000 < x
      · have hd : decide (1000000000 < x) = true := by simp; omega
        go_wp2_with fail
        go_meet
        case rel => exact ⟨.inl rfl, rfl⟩
      · have hd : decide (1000000000 < x) = false := by simp; omega
        go_wp2_with fail
        go_meet
        case rel => exact ⟨.inr ⟨rfl, by omega, by omega⟩, rfl⟩
  case rest =>
    obtain ⟨hb, rfl⟩ := hcut
    go_upto_if 30 with fail
    go_cut [3] (fun v wc' => (∃ m : Nat, v = .int .i64 (m : Int) ∧ m ≤ 1000000000) ∧ wc' = wc)
    case first =>
      rcases hb with rfl | ⟨rfl, h1, h2⟩
      · go_wp2_with fail
        go_meet
        case rel => exact ⟨⟨12345, rfl, by omega⟩, rfl⟩
      · go_wp2_with fail
        go_meet
        case rel => exact ⟨⟨x.toNat, by rw [Int.toNat_of_nonneg (by omega)], by omega⟩, rfl⟩
    case rest =>
      obtain ⟨⟨m, rfl, hm⟩, rfl⟩ := hcut
      clear hx0 hx1 hb
      go_wp2_with fail
      refine (wd.VarText_rt m _ hm).mono ?_
      rintro e w3 ⟨V, rfl, hV, hVs, hb3⟩
      have B3 : Hid (Below w.heap.size w w3) := B2.out.trans (hb3.mono B2.out.size)
      have HV : Hid (V.data.toList = wd.varB 9 m) := hV
      clear hb3 hV
      go_wp2_with fail
      refine (wd.ReadVar_rt m V _ hm HV.out hVs).mono ?_
      rintro e w4 ⟨rfl, hb4⟩
      have B4 : Hid (Below w.heap.size w w4) := B3.out.trans (hb4.mono B3.out.size)
      clear hb4
      go_wp2_with fail
      refine (wd.Dec_rt m _ hm (powBelow B4.out HT.out)).mono ?_
      rintro e w5 ⟨D, rfl, hD, hb5⟩
      have B5 : Hid (Below w.heap.size w w5) := B4.out.trans (hb5.mono B4.out.size)
      have HD : Hid (isDec D m) := hD
      clear hb5 hD
      go_wp2_with fail
      refine (RDec_yes D m _ HD.out (powBelow B5.out HT.out)).mono ?_
      rintro e w6 ⟨rfl, hb6⟩
      have B6 : Hid (Below w.heap.size w w6) := B5.out.trans (hb6.mono B5.out.size)
      clear hb6
      go_wp2_with fail
      refine (drawHex_any _ ao n cap hn (HC.out.below B6.out)).mono ?_
      rintro e w7 ⟨t0, rfl, ht0, hb7⟩
      have B7 : Hid (Below w.heap.size w w7) := B6.out.trans (hb7.mono B6.out.size)
      clear hb7
      go_upto_if 54 with fail
      go_cut [11] (fun v wc' => (∃ t : ByteArray, v = .string t ∧ t.size ≤ 300) ∧ wc' = w7)
      case first =>
        by_cases h1 : (300 : Int) < (t0.size : Int)
        · go_wp2_with fail
          go_meet
          case rel => exact ⟨⟨_, rfl, by decide⟩, rfl⟩
        · go_wp2_with fail
          go_meet
          case rel => exact ⟨⟨t0, rfl, by omega⟩, rfl⟩
      case rest =>
        obtain ⟨⟨t, rfl, ht⟩, rfl⟩ := hcut
        go_wp2_with fail
        refine (wd.ShortText_rt t _ ht).mono ?_
        rintro e w8 ⟨A, rfl, hA, hAs, hb8⟩
        have B8 : Hid (Below w.heap.size w w8) := B7.out.trans (hb8.mono B7.out.size)
        have HA : Hid (A.data.toList = wd.varB 9 t.size ++ t.data.toList) := hA
        clear hb8 hA
        go_wp2_with fail
        refine (wd.ReadShort_rt t A _ ht HA.out hAs).mono ?_
        rintro e w9 ⟨rfl, hb9⟩
        have B9 : Hid (Below w.heap.size w w9) := B8.out.trans (hb9.mono B8.out.size)
        clear hb9
        go_wp2_with fail
        refine (wd.Hex_rt t _ ht).mono ?_
        rintro e w10 ⟨h, rfl, hh, hhs, hb10⟩
        have B10 : Hid (Below w.heap.size w w10) := B9.out.trans (hb10.mono B9.out.size)
        have HH : Hid (h.data.toList = wd.hexL t.data.toList) := hh
        have HHS : Hid (h.size = 2 * t.size) := hhs
        clear hb10 hh hhs
        go_wp2_with fail
        refine (wd.Unhex_rt t h _ ht HH.out HHS.out).mono ?_
        rintro e w11 ⟨rfl, hb11⟩
        have B11 : Hid (Below w.heap.size w w11) := B10.out.trans (hb11.mono B10.out.size)
        clear hb11
        go_wp2
        go_ret
        exact ⟨rfl, B11.out⟩
end Go.Proofs.YtcbebilhbghclaaDoor
