/-
  What the law FnTurned draws: DrawSumOf, DrawPlaces; a text made to bytes; Sealed and Unsealed, one behind the other.
-/
import Derived.Test.YtaaohmeabgopfaaDoorDrawD
import Derived.Test.YtaaohmeabgopfaaDoorSealB
import Derived.Lib.ConvBytes
namespace Go.Proofs.YtaaohmeabgopfaaDoor
open Go.RowKit

theorem text_small (w : World) (p n cap : Nat) (ao : Option Addr) (m : Int) (M : Nat) (h0 : 0 ≤ m) (hM : m ≤ M) (hm : M ≤ 5000) (hc : Cur p ao n cap w) :
    Calls Tryd.prog 20 #[.pointer (some ⟨p, 0, none⟩), .int .i64 m] w fun e w' => ∃ t : ByteArray, e = .returned (.string t) ∧ t.size ≤ M ∧ Cur p ao n cap w' ∧ KeptBut p w w' := by
  obtain ⟨k, rfl⟩ := Int.eq_ofNat_of_zero_le h0
  refine (text_cur w p n cap ao k (by omega) hc).mono ?_
  rintro e w' ⟨t, he, ht, hc', hk⟩
  exact ⟨t, he, by omega, hc', hk⟩

set_option maxHeartbeats 400000 in
theorem drawSumOf_any (w : World) (ao : Option Addr) (n cap : Nat) (hn : n ≤ 1048576) (hc : CodeIn w ao n) :
    Calls Tryd.prog 9 #[.slice ao n cap] w fun e w' => ∃ t : ByteArray, e = .returned (.string t) ∧ t.size ≤ 40 ∧ Below w.heap.size w w' := by
  have HC : Hid (CodeIn w ao n) := hc
  clear hc
  go_enter Tryd.func9, Tryd.ntmps9
  go_wp2_with fail
  refine (new_any _ ao n cap hn HC.out).mono ?_
  rintro e w1 ⟨rfl, hc1, hb1⟩
  have HC1 : Hid (Cur w.heap.size ao n cap w1) := hc1
  have HB1 : Hid (Below w.heap.size w w1) := hb1
  clear hc1 hb1
  go_wp2_with fail
  refine (below_cur _ _ n cap ao 40 (by omega) (by omega) HC1.out).mono ?_
  rintro e w2 ⟨x, rfl, hx0, hx1, hc2, hk2⟩
  have HC2 : Hid (Cur w.heap.size ao n cap w2) := hc2
  have HB2 : Hid (Below w.heap.size w w2) := HB1.out.trans (hk2.to_below (Nat.le_refl _) HB1.out.size)
  clear hc2 hk2
  go_wp2_with fail
  refine (text_small _ _ n cap ao _ 40 (by omega) (by omega) (by omega) HC2.out).mono ?_
  rintro e w3 ⟨t, rfl, ht, _, hk3⟩
  have HB3 : Hid (Below w.heap.size w w3) := HB2.out.trans (hk3.to_below (Nat.le_refl _) HB2.out.size)
  clear hk3
  go_wp2
  go_ret
  exact ⟨_, rfl, ht, HB3.out⟩

/-- an int as a cell -/
def iv (z : Int) : Value := .int .i64 z
/-- at the head of each round of DrawPlaces -/
structure PAt (w : World) (p : Nat) (ao : Option Addr) (n cap j : Nat) (v : Value) (l : List Int) (wr : World) : Prop where
  le : j ≤ 12
  own : wr.ownsRow w.heap.size 3 1 v j (l.map iv)
  all : ∀ z ∈ l, 0 ≤ z ∧ z < 10000
  cur : Cur p ao n cap wr
  kept : KeptBut p w wr
theorem own_snocI {w1 : World} {B k : Nat} {v : Value} {pre : List Int} {z : Int} (h : w1.ownsRow B 3 1 v k (pre.map iv ++ [.int .i64 z])) : w1.ownsRow B 3 1 v k ((pre ++ [z]).map iv) := by
  simpa [iv] using h

/-- twelve numbers that the call owns -/
structure Places (B : Nat) (w : World) (v : Value) (l : List Int) : Prop where
  own : w.ownsRow B 3 1 v 12 (l.map iv)
  all : ∀ z ∈ l, 0 ≤ z ∧ z < 10000

set_option maxHeartbeats 1000000 in
set_option maxRecDepth 100000 in
theorem drawPlaces_any (w : World) (ao : Option Addr) (n cap : Nat) (hn : n ≤ 1048576) (hc : CodeIn w ao n) :
    Calls Tryd.prog 10 #[.slice ao n cap] w fun e w' => ∃ (v : Value) (B : Nat) (l : List Int), e = .returned v ∧ w.heap.size ≤ B ∧ Places B w' v l ∧ Below w.heap.size w w' := by
  obtain ⟨i0, hi, hz0, hz1, hz2⟩ := info_parts Tryd.info3
  have HC : Hid (CodeIn w ao n) := hc
  clear hc
  go_enter Tryd.func10, Tryd.ntmps10
  go_wp2_with fail
  refine (new_any _ ao n cap hn HC.out).mono ?_
  rintro e w1 ⟨rfl, hc1, hb1⟩
  have HC1 : Hid (Cur w.heap.size ao n cap w1) := hc1
  have HB1 : Hid (Below w.heap.size w w1) := hb1
  clear hc1 hb1
  go_wp2_with fail
  refine (byte_cur _ _ n cap ao HC1.out).mono ?_
  rintro e w2 ⟨x, rfl, hx0, hx1, hc2, hk2⟩
  have HC2 : Hid (Cur w.heap.size ao n cap w2) := hc2
  have HB2 : Hid (Below w.heap.size w w2) := HB1.out.trans (hk2.to_below (Nat.le_refl _) HB1.out.size)
  have hpw := hc2.lt
  clear hc2 hk2
  go_wp2
  go_loopw [4, 5] (fun v i wr => ∃ (j : Nat) (l : List Int), i = .int .i64 j ∧ PAt w2 w.heap.size ao n cap j v l wr) (fun _ i _ => 12 - (intOf i).toNat)
  case atStart => exact ⟨0, [], rfl, by omega, World.ownsRow_made w2 #[] 0 (Nat.le_refl _) (Nat.zero_le _) rfl, by simp, HC2.out.keep ((Below.refl _ w2).alloc (Nat.le_refl _) _), (KeptBut.refl _ w2).alloc _⟩
  case round =>
    obtain ⟨j, l, rfl, hT⟩ := hrel
    have HT : Hid (PAt w2 w.heap.size ao n cap j u4 l wr) := hT
    have hle := hT.le
    clear hT
    by_cases hlt : j < 12
    · have hlt1 : (j : Int) < 12 := by omega
      go_wp2_with fail
      refine (below_cur _ _ n cap ao 10000 (by omega) (by omega) HT.out.cur).mono ?_
      rintro e w3 ⟨y, rfl, hy0, hy1, hc3, hk3⟩
      have hne : u4.ownBlock ≠ some w.heap.size := fun e => by have := (HT.out.own.lt _ e).1; omega
      have hown := hk3.own HT.out.own hne
      have hsz : w2.heap.size ≤ w3.heap.size := Nat.le_trans HT.out.kept.size hk3.size
      have HNE : Hid (u4.ownBlock ≠ some w.heap.size) := hne
      have HC3 : Hid (Cur w.heap.size ao n cap w3) := hc3
      have HK3 : Hid (KeptBut w.heap.size w2 w3) := HT.out.kept.trans hk3
      clear hc3 hk3 hne
      go_wp2_with (at_builtin; refine wpList_append_lies _ rfl (.tmp 15) (.tmp 18) 25 rfl w2.heap.size 3 i0 (.int .i64 0) 1 8 Tryd.underlying25 hi hz0 hz1 hz2 rfl (by decide) _ j (l.map iv) rfl (hown.alloc _) ⟨w3.heap.size, 0, none⟩ 1 1 [.int .i64 y] rfl rfl (cell_one_new _ _ _) (by simp [Value.oneCell']) (by decide) (by unfold maxLen; omega) (by omega) (by simp; omega) _ rfl ?_; intro g cap2 w4 hown4 hgrow4 _ _)
      go_roundw
      case rel =>
        have hk4 : KeptBut w.heap.size w2 w4 := (HK3.out.alloc _).grown hgrow4 fun k hk => (HT.out.own.lt k hk).1
        refine ⟨j + 1, _, by go_num, by omega, own_snocI hown4, ?_, (HC3.out.keep ((Below.refl _ w3).alloc (Nat.le_refl _) _)).grown HC2.out.code hk4 hgrow4 HNE.out, hk4⟩
        intro z hz
        rcases List.mem_append.1 hz with h | h
        · exact HT.out.all z h
        · simp at h; omega
      case measure => simp [intOf]; omega
    · have hj : j = 12 := by omega
      subst hj
      go_wp2
      go_ret
      exact ⟨_, w2.heap.size, l, rfl, HB2.out.size, ⟨HT.out.own, HT.out.all⟩, HB2.out.trans (HT.out.kept.to_below (Nat.le_refl _) HB2.out.size)⟩

end Go.Proofs.YtaaohmeabgopfaaDoor
