/-
  The check sums of both packages: halfByte, more, SumMore, SumOf; four bytes.
-/
import Derived.Test.YtigojleieihdoaaDoorCrc
import Derived.Test.YtigojleieihdoaaDoorCur
namespace Go.Proofs.YtigojleieihdoaaDoor
open Go.RowKit

/-- the table of four steps lies in its block -/
def FT (w : World) : Prop := 0 < w.heap.size ∧ ∀ k, k < 16 → w.cell? ⟨0, k, none⟩ = some (.int .u32 ((tab16.getD k 0 : Nat) : Int))
theorem FT.below {w w' : World} (h : FT w) (hb : Below w.heap.size w w') : FT w' :=
  ⟨Nat.lt_of_lt_of_le h.1 hb.size, fun k hk => (hb.cell h.1).trans (h.2 k hk)⟩
theorem tab16_lt (k : Nat) (hk : k < 16) : tab16.getD k 0 < 4294967296 := by
  have key : ∀ k, k < 16 → tab16.getD k 0 < 4294967296 := by decide
  exact key k hk

set_option maxHeartbeats 400000 in
set_option maxRecDepth 100000 in
theorem halfByte_any (x : Nat) (w : World) (hx : x < 4294967296) (ht : FT w) :
    Calls Tryd.prog 75 #[.int .u32 (x : Int)] w fun e w' => e = .returned (.int .u32 ((half x : Nat) : Int)) ∧ w = w' := by
  have hcell : w.cell? ⟨0, x % 16, none⟩ = some (.int .u32 ((tab16.getD (x % 16) 0 : Nat) : Int)) := ht.2 _ (Nat.mod_lt _ (by omega))
  have hl := tab16_lt (x % 16) (Nat.mod_lt _ (by omega))
  have HX : Hid (bits .xor .u32 ((x / 16 : Nat) : Int) ((tab16.getD (x % 16) 0 : Nat) : Int) = ((half x : Nat) : Int)) := u32_xor_nat _ _ (by omega) hl
  have hq : ((x : Int) % 16).toNat = x % 16 := by omega
  have hi1 : (x : Int) % 16 < 16 := by omega
  have hi2 : 0 ≤ (x : Int) % 16 := by omega
  clear ht hl
  go_enter Tryd.func75, Tryd.ntmps75
  go_wp2
  go_ret
  exact ⟨by rw [← HX.out]; rfl, rfl⟩

theorem crc_take (S : Nat) (s : ByteArray) (i : Nat) (h : i < s.size) : crc S (s.data.toList.take (i + 1)) = upd (crc S (s.data.toList.take i)) s[i] := by
  have hl : i < s.data.toList.length := by have : s.data.size = s.size := rfl; simp; omega
  rw [List.take_succ_eq_append_getElem hl, crc_append]
  rfl
theorem crc_all (S : Nat) (s : ByteArray) (i : Nat) (h : s.size ≤ i) : crc S (s.data.toList.take i) = crc S s.data.toList := by
  rw [List.take_of_length_le (by have : s.data.size = s.size := rfl; simp; omega)]

set_option maxHeartbeats 400000 in
set_option maxRecDepth 100000 in
theorem more_any (S : Nat) (s : ByteArray) (w : World) (hS : S < 4294967296) (hs : s.size ≤ 1099511627776) (ht : FT w) :
    Calls Tryd.prog 58 #[.int .u32 (S : Int), .string s] w fun e w' => e = .returned (.int .u32 ((crc S s.data.toList : Nat) : Int)) ∧ w = w' := by
  have HT : Hid (FT w) := ht
  clear ht
  go_enter Tryd.func58, Tryd.ntmps58
  go_wp2
  go_loop [0, 5] (fun v p => ∃ i c : Nat, v = .int .u32 (c : Int) ∧ p = .int .i64 i ∧ i ≤ s.size ∧ c = crc S (s.data.toList.take i)) (fun _ p => s.size - (intOf p).toNat)
  case atStart => exact ⟨0, S, rfl, rfl, by omega, rfl⟩
  case round =>
    obtain ⟨i, c, rfl, rfl, hi, hc⟩ := hrel
    have HC : Hid (c = crc S (s.data.toList.take i)) := hc
    have hcl : c < 4294967296 := by rw [hc]; exact crc_lt _ _ hS
    clear hc
    by_cases hlt : i < s.size
    · have hi1 : (i : Int) < (s.size : Int) := by omega
      have hb : (s[i].toNat : Int) < 256 := by have := s[i].toNat_lt; omega
      have hb2 : s[i].toNat < 4294967296 := by omega
      have hxor : bits .xor .u32 (c : Int) (s[i].toNat : Int) = ((c ^^^ s[i].toNat : Nat) : Int) := u32_xor_nat _ _ hcl hb2
      have hx1 : c ^^^ s[i].toNat < 4294967296 := xor_lt hcl hb2
      have hx2 := half_lt hx1
      have HN : Hid (half (half (c ^^^ s[i].toNat)) = crc S (s.data.toList.take (i + 1))) := by
        show half (half (c ^^^ s[i].toNat)) = crc S (s.data.toList.take (i + 1))
        rw [crc_take S s i hlt, ← HC.out, upd_halves]
      go_wp2_with fail
      refine (halfByte_any _ _ hx1 HT.out).mono ?_
      rintro e w1 ⟨rfl, rfl⟩
      go_wp2_with fail
      refine (halfByte_any _ _ hx2 HT.out).mono ?_
      rintro e w1 ⟨rfl, rfl⟩
      go_wp2
      go_round
      case rel => exact ⟨i + 1, _, rfl, by go_num, by omega, HN.out⟩
      case measure => simp [intOf]; omega
    · have HE : Hid (c = crc S s.data.toList) := by
        show c = crc S s.data.toList
        rw [HC.out, crc_all S s i (by omega)]
      go_wp2
      go_ret
      exact ⟨by rw [← HE.out]; rfl, rfl⟩

/-- at the head of each round of the model's steps -/
def KAt (C : Nat) (v p : Value) (k c : Nat) : Prop := v = .int .u32 (c : Int) ∧ p = .int .i64 (k : Int) ∧ k ≤ 8 ∧ c = steps k C

set_option maxHeartbeats 1000000 in
set_option maxRecDepth 100000 in
theorem sSumMore_any (S : Nat) (s : ByteArray) (w : World) (hS : S < 4294967296) (hs : s.size ≤ 1099511627776) :
    Calls Tryd.prog 64 #[.int .u32 (S : Int), .string s] w fun e w' => e = .returned (.int .u32 ((crc S s.data.toList : Nat) : Int)) ∧ w = w' := by
  go_enter Tryd.func64, Tryd.ntmps64
  go_wp2
  go_loop [0, 5] (fun v p => ∃ i c : Nat, v = .int .u32 (c : Int) ∧ p = .int .i64 i ∧ i ≤ s.size ∧ c = crc S (s.data.toList.take i)) (fun _ p => s.size - (intOf p).toNat)
  case atStart => exact ⟨0, S, rfl, rfl, by omega, rfl⟩
  case round =>
    obtain ⟨i, c, rfl, rfl, hi, hc⟩ := hrel
    have HC : Hid (c = crc S (s.data.toList.take i)) := hc
    have hcl : c < 4294967296 := by rw [hc]; exact crc_lt _ _ hS
    clear hc
    by_cases hlt : i < s.size
    · have hi1 : (i : Int) < (s.size : Int) := by omega
      have hb : (s[i].toNat : Int) < 256 := by have := s[i].toNat_lt; omega
      have hb2 : s[i].toNat < 4294967296 := by omega
      have hxor : bits .xor .u32 (c : Int) (s[i].toNat : Int) = ((c ^^^ s[i].toNat : Nat) : Int) := u32_xor_nat _ _ hcl hb2
      have hx1 : c ^^^ s[i].toNat < 4294967296 := xor_lt hcl hb2
      have HN : Hid (steps 8 (c ^^^ s[i].toNat) = crc S (s.data.toList.take (i + 1))) := by
        show steps 8 (c ^^^ s[i].toNat) = crc S (s.data.toList.take (i + 1))
        rw [crc_take S s i hlt, ← HC.out]; rfl
      generalize hC : c ^^^ s[i].toNat = C at *
      clear hC
      go_wp2
      go_loop [0, 6] (fun v p => ∃ k c' : Nat, KAt C v p k c') (fun _ p => 8 - (intOf p).toNat)
      case atStart => exact ⟨0, C, rfl, rfl, by omega, rfl⟩
      case round =>
        obtain ⟨k, d, rfl, rfl, hk, hd⟩ := hrel
        have hdl : d < 4294967296 := by rw [hd]; exact steps_lt _ _ hx1
        have HD : Hid (step d = steps (k + 1) C) := by
          show step d = steps (k + 1) C
          rw [steps_succ, hd]
        have HD8 : Hid (k = 8 → d = steps 8 C) := by
          show k = 8 → d = steps 8 C
          rintro rfl; exact hd
        clear hd
        by_cases hk8 : k < 8
        · have hk1 : (k : Int) < 8 := by omega
          by_cases hodd : d % 2 = 1
          · have ho : ((d : Int) % 2 == 1) = true := by simp; omega
            have hst : bits .xor .u32 ((d : Int) / 2) 3558460437 = ((step d : Nat) : Int) := by
              have := u32_xor_nat (d / 2) 3558460437 (by omega) (by omega)
              rw [step, if_pos hodd, ← this]
              rfl
            go_wp2
            go_round
            case rel => exact ⟨k + 1, _, rfl, by go_num, by omega, HD.out⟩
            case measure => simp [intOf]; omega
          · have ho : ((d : Int) % 2 == 1) = false := by simp; omega
            have hst : ((d / 2 : Nat) : Int) = ((step d : Nat) : Int) := by rw [step, if_neg hodd]
            go_wp2
            go_round
            case rel => exact ⟨k + 1, step d, by rw [← hst]; rfl, by go_num, by omega, HD.out⟩
            case measure => simp [intOf]; omega
        · have hk2 : k = 8 := by omega
          have HE := HD8.out hk2
          subst hk2
          go_wp2
          go_round
          case rel => exact ⟨i + 1, d, rfl, by go_num, by omega, by rw [HE]; exact HN.out⟩
          case measure => simp [intOf]; omega
    · have HE : Hid (c = crc S s.data.toList) := by
        show c = crc S s.data.toList
        rw [HC.out, crc_all S s i (by omega)]
      go_wp2
      go_ret
      exact ⟨by rw [← HE.out]; rfl, rfl⟩

set_option maxHeartbeats 400000 in
set_option maxRecDepth 100000 in
theorem SumOf_any (s : ByteArray) (w : World) (hs : s.size ≤ 1099511627776) (ht : FT w) :
    Calls Tryd.prog 36 #[.string s] w fun e w' => e = .returned (.int .u32 ((sumL s.data.toList : Nat) : Int)) ∧ w = w' := by
  go_enter Tryd.func36, Tryd.ntmps36
  go_wp2_with (go_at_call 58; refine (more_any 4294967295 s _ (by omega) hs ht).mono ?_; rintro e w1 ⟨rfl, rfl⟩)
  go_ret
  exact ⟨rfl, rfl⟩
set_option maxHeartbeats 400000 in
set_option maxRecDepth 100000 in
theorem sSumOf_any (s : ByteArray) (w : World) (hs : s.size ≤ 1099511627776) :
    Calls Tryd.prog 40 #[.string s] w fun e w' => e = .returned (.int .u32 ((sumL s.data.toList : Nat) : Int)) ∧ w = w' := by
  go_enter Tryd.func40, Tryd.ntmps40
  go_wp2_with (go_at_call 64; refine (sSumMore_any 4294967295 s _ (by omega) hs).mono ?_; rintro e w1 ⟨rfl, rfl⟩)
  go_ret
  exact ⟨rfl, rfl⟩

def fourCells (x : Nat) : Array Value := #[.int .u8 ((x : Int) / 16777216), .int .u8 ((x : Int) / 65536 % 256), .int .u8 ((x : Int) / 256 % 256), .int .u8 ((x : Int) % 256)]
theorem four_cells (x : Nat) (hx : x < 4294967296) : (four x).map bv = (fourCells x).toList := by
  simp [four, fourCells, bv]
  omega
theorem conv_four (w : World) (x : Nat) (hx : x < 4294967296) : (convert 22 9 (.slice (some ⟨w.heap.size, 0, none⟩) 4 4)).run Tryd.prog (w.alloc (.cells (fourCells x) 5)) = .ok (.string ⟨(four x).toArray⟩) (w.alloc (.cells (fourCells x) 5)) := by
  refine run_convert_bytes_back _ 22 9 5 ⟨w.heap.size, 0, none⟩ 4 (four x) Tryd.underlying22 Tryd.underlying5 Tryd.underlying9 fun j hj => ?_
  have e : (⟨w.heap.size, 0, none⟩ : Addr).add j = ⟨w.heap.size, j, none⟩ := by unfold Addr.add; split <;> simp_all
  rw [e, cell_of_row _ w.heap.size j _ 5 (0, 0) (heap_alloc_new w _)]
  have h4 := four_cells x hx
  have h5 := congrArg (fun l => l[j]?) h4
  simp only [List.getElem?_map, Array.getElem?_toList] at h5
  rw [← h5, List.getElem?_eq_getElem hj]
  rfl

end Go.Proofs.YtigojleieihdoaaDoor
