/-
  Texts with their sums: Sealed and Unsealed of both packages.
-/
import Derived.Test.YtaaohmeabgopfaaDoorSum
import Derived.Test.YtaaohmeabgopfaaDoorShelf
import Derived.BigQuiet
import Derived.Deep.RegionHeld
namespace Go.Proofs.YtaaohmeabgopfaaDoor
open Go.RowKit

set_option maxHeartbeats 400000 in
theorem newText_any (s : ByteArray) (w : World) (hs : s.size ≤ 281474976710656) :
    Calls Tryd.prog 25 #[.string s] w fun e w' => e = .returned (.string s) ∧ Below w.heap.size w w' := by
  go_enter Tryd.func25, Tryd.ntmps25
  go_wp2_with (first | (go_at_call 29; refine (Tryd.stringslite_Clone _ _ hs).mono ?_; rintro e w1 ⟨rfl, hb1⟩) | go_in)
  go_ret
  exact ⟨rfl, hb1⟩

/-- a text with its sum -/
def sealS (s : ByteArray) : ByteArray := s ++ ⟨(four (sumL s.data.toList)).toArray⟩
theorem sealS_list (s : ByteArray) : (sealS s).data.toList = sealL s.data.toList := by simp [sealS, sealL]

set_option maxHeartbeats 400000 in
theorem Sealed_yes (s : ByteArray) (w : World) (hs : s.size ≤ 20000) (ht : FT w) :
    Calls Tryd.prog 11 #[.string s] w fun e w' => e = .returned (.tuple #[.string (sealS s), .bool true]) ∧ Below w.heap.size w w' := by
  have hs1 : ¬ (20000 : Int) < (s.size : Int) := by omega
  have HL : Hid (sumL s.data.toList < 4294967296) := sumL_lt _
  have hl := four_len (sumL s.data.toList)
  have HT : Hid (FT w) := ht
  clear ht
  go_enter Tryd.func11, Tryd.ntmps11
  go_wp2_with (first | (go_at_call 23; refine (more_any 4294967295 s _ (by omega) (by omega) HT.out).mono ?_; rintro e w1 ⟨rfl, rfl⟩) | (go_at_call 24; refine (inBytes_any (sumL s.data.toList) _ HL.out).mono ?_; rintro e w2 ⟨rfl, hb2⟩))
  go_ret2
  exact ⟨rfl, hb2⟩
set_option maxHeartbeats 400000 in
theorem sSealed_yes (s : ByteArray) (w : World) (hs : s.size ≤ 20000) :
    Calls Tryd.prog 17 #[.string s] w fun e w' => e = .returned (.tuple #[.string (sealS s), .bool true]) ∧ Below w.heap.size w w' := by
  have hs1 : ¬ (20000 : Int) < (s.size : Int) := by omega
  have HL : Hid (sumL s.data.toList < 4294967296) := sumL_lt _
  have hl := four_len (sumL s.data.toList)
  go_enter Tryd.func17, Tryd.ntmps17
  go_wp2_with (first | (go_at_call 16; refine (sSumOf_any s _ (by omega)).mono ?_; rintro e w1 ⟨rfl, rfl⟩) | (go_at_call 26; refine (l02Four_any (sumL s.data.toList) _ HL.out).mono ?_; rintro e w2 ⟨rfl, hb2⟩))
  go_ret2
  exact ⟨rfl, hb2⟩
set_option maxHeartbeats 400000 in
theorem Sealed_no (s : ByteArray) (w : World) (hs : (20000 : Int) < (s.size : Int)) :
    Calls Tryd.prog 11 #[.string s] w fun e w' => e = .returned (.tuple #[.string ⟨#[]⟩, .bool false]) ∧ Below w.heap.size w w' := by
  go_enter Tryd.func11, Tryd.ntmps11
  go_wp2
  go_ret2
  exact ⟨rfl, Below.refl _ _⟩
set_option maxHeartbeats 400000 in
theorem sSealed_no (s : ByteArray) (w : World) (hs : (20000 : Int) < (s.size : Int)) :
    Calls Tryd.prog 17 #[.string s] w fun e w' => e = .returned (.tuple #[.string ⟨#[]⟩, .bool false]) ∧ Below w.heap.size w w' := by
  go_enter Tryd.func17, Tryd.ntmps17
  go_wp2
  go_ret2
  exact ⟨rfl, Below.refl _ _⟩

/-- what Unsealed tells of a text that is neither too short nor too long -/
def unRes (s : ByteArray) : Value := if four (sumL (s.data.toList.take (s.size - 4))) = s.data.toList.drop (s.size - 4) then .tuple #[.string (s.extract 0 (s.size - 4)), .bool true] else .tuple #[.string ⟨#[]⟩, .bool false]
theorem ext0 (s : ByteArray) (n : Nat) : (s.extract 0 n).data.toList = s.data.toList.take n := by rw [Lib.extract_data]; simp
theorem extN (s : ByteArray) (n : Nat) : (s.extract n s.size).data.toList = s.data.toList.drop n := by
  rw [Lib.extract_data]
  exact List.take_of_length_le (by have : s.data.size = s.size := rfl; simp)

/-- the same contracts with their answers behind a letter -/
theorem sSumOf_let (s : ByteArray) (w : World) (hs : s.size ≤ 1099511627776) :
    Calls Tryd.prog 16 #[.string s] w fun e w' => ∃ x : Nat, e = .returned (.int .u32 (x : Int)) ∧ Hid (x = sumL s.data.toList) ∧ Hid (x < 4294967296) ∧ w = w' := by
  refine (sSumOf_any s w hs).mono ?_
  rintro e w' ⟨rfl, rfl⟩
  exact ⟨_, rfl, rfl, sumL_lt _, rfl⟩
theorem more_let (s : ByteArray) (w : World) (hs : s.size ≤ 1099511627776) (ht : FT w) :
    Calls Tryd.prog 23 #[.int .u32 4294967295, .string s] w fun e w' => ∃ x : Nat, e = .returned (.int .u32 (x : Int)) ∧ Hid (x = sumL s.data.toList) ∧ Hid (x < 4294967296) ∧ w = w' := by
  refine (more_any 4294967295 s w (by omega) hs ht).mono ?_
  rintro e w' ⟨rfl, rfl⟩
  exact ⟨_, rfl, rfl, sumL_lt _, rfl⟩
theorem l02Four_let (x : Nat) (w : World) (hx : x < 4294967296) :
    Calls Tryd.prog 26 #[.int .u32 (x : Int)] w fun e w' => ∃ t : ByteArray, e = .returned (.string t) ∧ Hid (t.data.toList = four x) ∧ Hid (Below w.heap.size w w') := by
  refine (l02Four_any x w hx).mono ?_
  rintro e w' ⟨rfl, hb⟩
  exact ⟨_, rfl, rfl, hb⟩
theorem inBytes_let (x : Nat) (w : World) (hx : x < 4294967296) :
    Calls Tryd.prog 24 #[.int .u32 (x : Int)] w fun e w' => ∃ t : ByteArray, e = .returned (.string t) ∧ Hid (t.data.toList = four x) ∧ Hid (Below w.heap.size w w') := by
  refine (inBytes_any x w hx).mono ?_
  rintro e w' ⟨rfl, hb⟩
  exact ⟨_, rfl, rfl, hb⟩

theorem un_yes {s t : ByteArray} {n x : Nat} (hn : n + 4 = s.size) (hx : x = sumL (s.extract 0 n).data.toList) (ht : t.data.toList = four x) (h : (s.extract n s.size).toList = t.toList) :
    unRes s = .tuple #[.string (s.extract 0 n), .bool true] := by
  have e : s.size - 4 = n := by omega
  rw [Lib.toList_data, Lib.toList_data, ht, hx, ext0, extN] at h
  unfold unRes
  rw [e, if_pos h.symm]
theorem un_no {s t : ByteArray} {n x : Nat} (hn : n + 4 = s.size) (hx : x = sumL (s.extract 0 n).data.toList) (ht : t.data.toList = four x) (h : ¬ (s.extract n s.size).toList = t.toList) :
    unRes s = .tuple #[.string ⟨#[]⟩, .bool false] := by
  have e : s.size - 4 = n := by omega
  rw [Lib.toList_data, Lib.toList_data, ht, hx, ext0, extN] at h
  unfold unRes
  rw [e, if_neg (fun k => h k.symm)]

set_option maxHeartbeats 1000000 in
set_option maxRecDepth 100000 in
theorem sUnsealed_mid (s : ByteArray) (n : Nat) (w : World) (hn : n + 4 = s.size) (hs : n ≤ 20000) :
    Calls Tryd.prog 18 #[.string s] w fun e w' => e = .returned (unRes s) ∧ Below w.heap.size w w' := by
  have hn1 : (s.size : Int) - 4 = (n : Int) := by omega
  have hn2 : decide ((n : Int) < 0) = false := by simp
  have hn3 : decide ((20000 : Int) < (n : Int)) = false := by simp; omega
  have hn4 : (n : Int) ≤ (s.size : Int) := by omega
  have hn5 : (0 : Int) ≤ (n : Int) := by omega
  have HZ : Hid ((s.extract 0 n).size ≤ 1099511627776) := by
    show (s.extract 0 n).size ≤ 1099511627776
    rw [ByteArray.size_extract]; omega
  have HN : Hid (n + 4 = s.size) := hn
  clear hn
  go_enter Tryd.func18, Tryd.ntmps18
  go_wp2_with fail
  go_region_held (fun _ => True) (trivial) (first | (go_at_call 16; refine (sSumOf_let _ _ HZ.out).mono ?_; rintro e w1 ⟨x, rfl, hx1, hx2, rfl⟩) | (go_at_call 26; refine (l02Four_let _ _ hx2.out).mono ?_; rintro e w2 ⟨t, rfl, ht1, hb2⟩))
  go_wp2
  · have hne : (!(s.extract n s.size).toList == t.toList) = true := by assumption
    go_ret2
    exact ⟨by rw [un_no HN.out hx1.out ht1.out (by simpa using hne)]; rfl, ((Below.refl _ w).drew).trans hb2.out⟩
  · have hne : (!(s.extract n s.size).toList == t.toList) = false := by assumption
    go_ret2
    exact ⟨by rw [un_yes HN.out hx1.out ht1.out (by simpa using hne)]; rfl, ((Below.refl _ w).drew).trans hb2.out⟩

set_option maxHeartbeats 1000000 in
set_option maxRecDepth 100000 in
theorem Unsealed_mid (s : ByteArray) (n : Nat) (w : World) (hn : n + 4 = s.size) (hs : n ≤ 20000) (ht : FT w) :
    Calls Tryd.prog 12 #[.string s] w fun e w' => e = .returned (unRes s) ∧ Below w.heap.size w w' := by
  have hn1 : (s.size : Int) - 4 = (n : Int) := by omega
  have hn2 : decide ((n : Int) < 0) = false := by simp
  have hn3 : decide ((20000 : Int) < (n : Int)) = false := by simp; omega
  have hn4 : (n : Int) ≤ (s.size : Int) := by omega
  have hn5 : (0 : Int) ≤ (n : Int) := by omega
  have HZ : Hid ((s.extract 0 n).size ≤ 1099511627776) := by
    show (s.extract 0 n).size ≤ 1099511627776
    rw [ByteArray.size_extract]; omega
  have HN : Hid (n + 4 = s.size) := hn
  have HT : Hid (FT w.drew) := ht.below ((Below.refl _ w).drew)
  clear hn ht
  go_enter Tryd.func12, Tryd.ntmps12
  go_wp2_with fail
  go_region_held (fun _ => True) (trivial) (first | (go_at_call 23; refine (more_let _ _ HZ.out HT.out).mono ?_; rintro e w1 ⟨x, rfl, hx1, hx2, rfl⟩) | (go_at_call 24; refine (inBytes_let _ _ hx2.out).mono ?_; rintro e w2 ⟨t, rfl, ht1, hb2⟩))
  go_wp2_with (go_at_call 25; refine (newText_any _ _ ?_).mono ?_; (have := HZ.out; omega); rintro e w3 ⟨rfl, hb3⟩)
  · have hne : (!t.toList == (s.extract n s.size).toList) = true := by assumption
    go_ret2
    exact ⟨by rw [un_no HN.out hx1.out ht1.out (fun k => by simp [k] at hne)]; rfl, ((Below.refl _ w).drew).trans hb2.out⟩
  · have hne : (!t.toList == (s.extract n s.size).toList) = false := by assumption
    have hb23 : Below w.heap.size w.drew w2 := hb2.out
    go_ret2
    exact ⟨by rw [un_yes HN.out hx1.out ht1.out (by simp at hne; exact hne.symm)]; rfl, (((Below.refl _ w).drew).trans hb23).trans (hb3.mono hb23.size)⟩

set_option maxHeartbeats 1000000 in
set_option maxRecDepth 100000 in
theorem sUnsealed_no (s : ByteArray) (w : World) (hs : s.size ≤ 1048576) (h : s.size < 4 ∨ 20004 < s.size) :
    Calls Tryd.prog 18 #[.string s] w fun e w' => e = .returned (.tuple #[.string ⟨#[]⟩, .bool false]) ∧ Below w.heap.size w w' := by
  rcases h with h | h
  · have h1 : decide ((s.size : Int) - 4 < 0) = true := by simp; omega
    go_enter Tryd.func18, Tryd.ntmps18
    go_wp2_with fail
    go_quiet (fail)
    go_wp2
    go_ret2
    exact ⟨rfl, below_drewN (Below.refl _ _) _⟩
  · have h1 : decide ((s.size : Int) - 4 < 0) = false := by simp; omega
    have h2 : decide ((20000 : Int) < (s.size : Int) - 4) = true := by simp; omega
    go_enter Tryd.func18, Tryd.ntmps18
    go_wp2_with fail
    go_quiet (fail)
    go_wp2
    go_ret2
    exact ⟨rfl, below_drewN (Below.refl _ _) _⟩
set_option maxHeartbeats 1000000 in
set_option maxRecDepth 100000 in
theorem Unsealed_no (s : ByteArray) (w : World) (hs : s.size ≤ 1048576) (h : s.size < 4 ∨ 20004 < s.size) :
    Calls Tryd.prog 12 #[.string s] w fun e w' => e = .returned (.tuple #[.string ⟨#[]⟩, .bool false]) ∧ Below w.heap.size w w' := by
  rcases h with h | h
  · have h1 : decide ((s.size : Int) - 4 < 0) = true := by simp; omega
    go_enter Tryd.func12, Tryd.ntmps12
    go_wp2_with fail
    go_quiet (fail)
    go_wp2
    go_ret2
    exact ⟨rfl, below_drewN (Below.refl _ _) _⟩
  · have h1 : decide ((s.size : Int) - 4 < 0) = false := by simp; omega
    have h2 : decide ((20000 : Int) < (s.size : Int) - 4) = true := by simp; omega
    go_enter Tryd.func12, Tryd.ntmps12
    go_wp2_with fail
    go_quiet (fail)
    go_wp2
    go_ret2
    exact ⟨rfl, below_drewN (Below.refl _ _) _⟩

end Go.Proofs.YtaaohmeabgopfaaDoor
