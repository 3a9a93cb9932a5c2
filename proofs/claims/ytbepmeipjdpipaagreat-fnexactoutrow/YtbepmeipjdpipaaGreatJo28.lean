import Derived.Test.YtbepmeipjdpipaaGreatJo03
import Derived.Laws.IdiomStrings
import Derived.Test.YtbepmeipjdpipaaGreatJo04
import Derived.Deep.Strs
import Derived.ProofKit
import Derived.OpenShut
import Derived.ChangeOld
namespace Go.Proofs.YtbepmeipjdpipaaGreat
open Go.RowKit
def mkDig (u : Nat) (t : ByteArray) : ByteArray := if u = 0 then t else mkDig (u / 10) (⟨#[UInt8.ofNat (48 + u % 10)]⟩ ++ t)
termination_by u
decreasing_by omega
def markS (k : Nat) : ByteArray := ⟨#[109]⟩ ++ mkDig k ⟨#[]⟩
theorem mkDig_step {u : Nat} (h : u ≠ 0) (t : ByteArray) : mkDig u t = mkDig (u / 10) (⟨#[UInt8.ofNat (48 + u % 10)]⟩ ++ t) := by
 rw [mkDig, if_neg h]
theorem mkDig_zero (t : ByteArray) : mkDig 0 t = t := by rw [mkDig, if_pos rfl]
theorem conv_one8 (wr : World) (u : Nat) :
  (convert 100 9 (.slice (some ⟨wr.heap.size, 0, none⟩) 1 1)).run Tryz.prog (wr.alloc (.cells #[.int .u8 (48 + (u : Int) % 10)] 5)) = .ok (.string ⟨#[UInt8.ofNat (48 + u % 10)]⟩) (wr.alloc (.cells #[.int .u8 (48 + (u : Int) % 10)] 5)) := by
 have e : (UInt8.ofNat (48 + u % 10)).toNat = 48 + u % 10 := by rw [UInt8.toNat_ofNat']; omega
 refine run_convert_bytes_back _ 100 9 5 ⟨wr.heap.size, 0, none⟩ 1 [UInt8.ofNat (48 + u % 10)] Tryz.underlying100 Tryz.underlying5 Tryz.underlying9 fun j hj => ?_
 have hj0 : j = 0 := by simpa using hj
 subst hj0
 show (wr.alloc _).cell? ⟨wr.heap.size, 0, none⟩ = some (.int .u8 (((UInt8.ofNat (48 + u % 10)).toNat : Nat) : Int))
 rw [e, cell_new1 wr _ _ _ rfl]
 simp
set_option maxHeartbeats 2000000 in
set_option maxRecDepth 100000 in
theorem markText_any (K : Nat) (w : World) (h0 : 0 < K) (h1 : K ≤ 1000000000) :
  Calls Tryz.prog 55 #[.int .i64 (K : Int)] w fun e w' => e = .returned (.string (markS K)) ∧ Hid (Below w.heap.size w w') := by
 have hz : ¬ (K : Int) ≤ 0 := by omega
 go_enter Tryz.func55, Tryz.ntmps55
 go_wp2
 go_loopw [0, 3] (fun n s wr => ∃ (u : Nat) (t : ByteArray), n = .int .i64 (u : Int) ∧ s = .string t ∧ Hid (mkDig u t = mkDig K ⟨#[]⟩) ∧ Hid (t.size ≤ 31 ∧ u * 2 ^ t.size ≤ K) ∧ Hid (Below w.heap.size w wr)) (fun n _ _ => (intOf n).toNat)
 case atStart => exact ⟨K, ⟨#[]⟩, rfl, rfl, rfl, ⟨by show (0 : Nat) ≤ 31; omega, by show K * 2 ^ 0 ≤ K; omega⟩, Below.refl _ _⟩
 case round =>
  obtain ⟨u, t, rfl, rfl, HE, HS, HB⟩ := hrel
  obtain ⟨ts, HTS⟩ : ∃ n, Hid (t.size = n) := ⟨_, rfl⟩
  have hs := HS.out
  have hst : t.size ≤ 31 := hs.1
  have hsz := HB.out.size
  by_cases hu : u = 0
  ·subst hu
   have HD : Hid (markS K = ⟨#[109]⟩ ++ t) := by show _ = _; unfold markS; rw [← HE.out, mkDig_zero]
   obtain ⟨MM, HMM⟩ : ∃ m, Hid (m = markS K) := ⟨_, rfl⟩
   rw [HD.out] at HMM
   have hov : ¬ (9223372036854775807 < (⟨#[109]⟩ : ByteArray).size + t.size) := by show ¬ (_ < 1 + t.size); omega
   have hov2 : ¬ (9223372036854775807 < 1 + t.size) := by omega
   clear hs
   go_wp2
   go_ret
   exact ⟨by rw [HD.out]; rfl, HB⟩
  ·have hpos : (0 : Int) < (u : Int) := by omega
   have hp2 : 0 < 2 ^ t.size := Nat.pow_pos (by omega)
   have hts : t.size < 30 := by
    rcases Nat.lt_or_ge t.size 30 with h | h
    ·exact h
    ·have h2 : 2 ^ 30 ≤ 2 ^ t.size := Nat.pow_le_pow_right (by omega) h
     have h3 : 1 * 2 ^ t.size ≤ u * 2 ^ t.size := Nat.mul_le_mul_right _ (by omega)
     omega
   have huK : u ≤ 1000000000 := by
    have h3 : u * 1 ≤ u * 2 ^ t.size := Nat.mul_le_mul_left _ hp2
    omega
   have hconv := conv_one8 wr u
   obtain ⟨C, HC⟩ : ∃ C : ByteArray, Hid (C = ⟨#[UInt8.ofNat (48 + u % 10)]⟩) := ⟨_, rfl⟩
   rw [← HC.out] at hconv
   have hov : ¬ (9223372036854775807 < C.size + t.size) := by rw [HC.out]; show ¬ (_ < 1 + t.size); omega
   have HN1 : Hid (mkDig (u / 10) (C ++ t) = mkDig K ⟨#[]⟩) := by show _ = _; rw [← HE.out, mkDig_step hu, HC.out]
   have HN2 : Hid ((C ++ t).size ≤ 31 ∧ (u / 10) * 2 ^ (C ++ t).size ≤ K) := by
    have e : (C ++ t).size = t.size + 1 := by rw [ByteArray.size_append, HC.out]; show 1 + t.size = _; omega
    rw [e]
    refine ⟨by omega, ?_⟩
    have h4 : u / 10 * 2 ≤ u := by omega
    have h5 : (u / 10 * 2) * 2 ^ t.size ≤ u * 2 ^ t.size := Nat.mul_le_mul_right _ h4
    rw [Nat.pow_succ, Nat.mul_comm (2 ^ t.size) 2, ← Nat.mul_assoc]
    exact Nat.le_trans h5 hs.2
   have HU : Hid (u ≠ 0) := hu
   clear hs hu hp2 HC
   go_wp2
   go_roundw
   case rel => exact ⟨u / 10, C ++ t, by go_num, rfl, HN1, HN2, HB.out.alloc hsz _⟩
   case measure => have := HU.out; simp [intOf]; omega
theorem markText_at (K : Nat) (x : Int) (w : World) (hx : x = (K : Int)) (h0 : 0 < K) (h1 : K ≤ 1000000000) : Calls Tryz.prog 55 #[.int .i64 x] w fun e w' => e = .returned (.string (markS K)) ∧ Hid (Below w.heap.size w w') := by
 subst hx; exact markText_any K w h0 h1
def mkT (K j : Nat) : Value := .string (markS (K + j))
def mkF (K j : Nat) : Value := if j % 2 = 0 then .string (markS (K + j)) else .int .i64 ((K + j : Nat) : Int)
set_option maxHeartbeats 4000000 in
set_option maxRecDepth 100000 in
theorem markStringS_any (lo hi : Nat) (a : Option Addr) (n cap K : Nat) (c : Nat → Value) (w : World) (ha : FlOwn 1 lo hi w a n c) (hm : n ≤ 2097152) (h0 : 0 < K) (hK : K ≤ 16777216) :
  Calls Tryz.prog 36 #[.slice a n cap, .int .i64 (K : Int)] w fun e w' => e = .returned (.int .i64 ((K + n * 1 : Nat) : Int)) ∧ Hid (FlOwn 1 lo hi w' a n (mkT K)) ∧ Hid (KeptP (fun c => lo ≤ c ∧ c < hi) w w') := by
 by_cases h0n : n = 0
 ·subst h0n
  clear ha
  go_enter Tryz.func36, Tryz.ntmps36
  go_wp2
  go_loop [5, 1] (fun i k => i = .int .i64 0 ∧ k = .int .i64 (K : Int)) (fun _ _ => 0)
  case atStart => exact ⟨rfl, rfl⟩
  case round =>
   obtain ⟨rfl, rfl⟩ := hrel
   go_wp2
   go_ret
   exact ⟨by first | rfl | simp, .inl rfl, KeptP.refl _ _⟩
 ·obtain ⟨b, rfl, h1, h2, hb⟩ : ∃ b, a = some ⟨b, 0, none⟩ ∧ lo ≤ b ∧ b < hi ∧ Blk w b (n * 1) c := by
   rcases ha with h | h
   ·exact absurd h h0n
   ·exact h
  have HX : Hid (lo ≤ b ∧ b < hi) := ⟨h1, h2⟩
  have HB0 : Hid (Blk w b (n * 1) c) := hb
  have HBW : Hid (b < w.heap.size) := hb.lt
  clear ha hb h1 h2
  go_enter Tryz.func36, Tryz.ntmps36
  go_wp2
  go_loopw [5, 1] (fun i x wr => ∃ k : Nat, i = .int .i64 k ∧ x = .int .i64 ((K + k * 1 : Nat) : Int) ∧ k ≤ n ∧ Hid (Blk wr b (n * 1) (fun j => if j < k * 1 then mkT K j else c j)) ∧ Hid (KeptP (fun c => lo ≤ c ∧ c < hi) w wr)) (fun i _ _ => n - (intOf i).toNat)
  case atStart => exact ⟨0, rfl, by simp, by omega, HB0.out.congr (fun j hj => by rw [if_neg (by omega)]), KeptP.refl _ _⟩
  case round =>
   obtain ⟨k, rfl, rfl, hk, HP, HL⟩ := hrel
   by_cases hlt : k < n
   ·have hlt1 : (k : Int) < (n : Int) := by omega
    have hlt0 : (0 : Int) ≤ (k : Int) := by omega
    obtain ⟨q, HQ⟩ : ∃ q : Nat, Hid (q = K + k * 1) := ⟨_, rfl⟩
    rw [← HQ.out]
    have hq1 : 0 < q := by have := HQ.out; omega
    have hq2 : q ≤ 100000000 := by have := HQ.out; omega
    go_wp2_with fail
    refine (markText_any q wr hq1 (by omega)).mono ?_
    rintro e v0 ⟨rfl, HV0⟩
    have HPa0 : Hid (Blk v0 b (n * 1) (fun j => if j < k * 1 then mkT K j else c j)) := HP.out.of_block (HV0.out.block _ HP.out.lt)
    have HLa0 : Hid (KeptP (fun c => lo ≤ c ∧ c < hi) w v0) := HL.out.trans (KeptP.of_below HV0.out (fun _ hk _ => hk))
    have hd0 := HPa0.out.cell (i := k) (by omega)
    have hf0 := Blk.frozen HPa0.out (k)
    obtain ⟨u0, HU0⟩ : ∃ V, Hid (V = v0.setCell ⟨b, k, none⟩ (.string (markS q))) := ⟨_, rfl⟩
    clear HV0 HP HL
    go_upto_region 5 with fail
    first | rw [← HU0.out] | (rw [show _ = u0 from HU0.out.symm]) | skip
    have HP0x : Hid (Blk u0 b (n * 1) (fun j => if j = k then .string (markS q) else ((fun j => if j < k * 1 then mkT K j else c j)) j)) := by rw [HU0.out]; exact Blk.set HPa0.out (k) (by omega) _
    have HL0x : Hid (KeptP (fun c => lo ≤ c ∧ c < hi) w u0) := by rw [HU0.out]; exact HLa0.out.setCell HX.out _
    clear HU0 hd0 hf0 HPa0 HLa0
    have HFIN : Hid (Blk u0 b (n * 1) (fun j => if j < (k + 1) * 1 then mkT K j else c j)) := by
     refine HP0x.out.congr fun j hj => ?_
     dsimp only
     by_cases e0 : j = k
     ·subst e0; rw [if_pos rfl]; rw [if_pos (by omega)]; unfold mkT; rw [show K + j = q by have := HQ.out; omega]
     rw [if_neg e0]
     by_cases e9 : j < k * 1
     ·rw [if_pos e9, if_pos (by omega)]
     ·rw [if_neg e9, if_neg (by omega)]
    go_wp2
    go_roundw
    case rel => exact ⟨k + 1, by go_num, by have h9 := HQ.out; first | (go_num; omega) | (congr 1; push_cast; omega), by omega, HFIN, HL0x⟩
    case measure => simp [intOf]; omega
   ·obtain rfl : k = n := by omega
    go_wp2
    go_ret
    exact ⟨rfl, .inr ⟨b, rfl, HX.out.1, HX.out.2, HP.out.congr fun j hj => by rw [if_pos hj]⟩, HL⟩
set_option maxHeartbeats 4000000 in
set_option maxRecDepth 100000 in
theorem markAtomS_any (lo hi : Nat) (a : Option Addr) (n cap K : Nat) (c : Nat → Value) (w : World) (ha : FlOwn 3 lo hi w a n c) (hm : n ≤ 1048576) (h0 : 0 < K) (hK : K ≤ 16777216) :
  Calls Tryz.prog 37 #[.slice a n cap, .int .i64 (K : Int)] w fun e w' => e = .returned (.int .i64 ((K + n * 3 : Nat) : Int)) ∧ Hid (FlOwn 3 lo hi w' a n (mkT K)) ∧ Hid (KeptP (fun c => lo ≤ c ∧ c < hi) w w') := by
 by_cases h0n : n = 0
 ·subst h0n
  clear ha
  go_enter Tryz.func37, Tryz.ntmps37
  go_wp2
  go_loop [5, 1] (fun i k => i = .int .i64 0 ∧ k = .int .i64 (K : Int)) (fun _ _ => 0)
  case atStart => exact ⟨rfl, rfl⟩
  case round =>
   obtain ⟨rfl, rfl⟩ := hrel
   go_wp2
   go_ret
   exact ⟨by first | rfl | simp, .inl rfl, KeptP.refl _ _⟩
 ·obtain ⟨b, rfl, h1, h2, hb⟩ : ∃ b, a = some ⟨b, 0, none⟩ ∧ lo ≤ b ∧ b < hi ∧ Blk w b (n * 3) c := by
   rcases ha with h | h
   ·exact absurd h h0n
   ·exact h
  have HX : Hid (lo ≤ b ∧ b < hi) := ⟨h1, h2⟩
  have HB0 : Hid (Blk w b (n * 3) c) := hb
  have HBW : Hid (b < w.heap.size) := hb.lt
  clear ha hb h1 h2
  go_enter Tryz.func37, Tryz.ntmps37
  go_wp2
  go_loopw [5, 1] (fun i x wr => ∃ k : Nat, i = .int .i64 k ∧ x = .int .i64 ((K + k * 3 : Nat) : Int) ∧ k ≤ n ∧ Hid (Blk wr b (n * 3) (fun j => if j < k * 3 then mkT K j else c j)) ∧ Hid (KeptP (fun c => lo ≤ c ∧ c < hi) w wr)) (fun i _ _ => n - (intOf i).toNat)
  case atStart => exact ⟨0, rfl, by simp, by omega, HB0.out.congr (fun j hj => by rw [if_neg (by omega)]), KeptP.refl _ _⟩
  case round =>
   obtain ⟨k, rfl, rfl, hk, HP, HL⟩ := hrel
   by_cases hlt : k < n
   ·have hlt1 : (k : Int) < (n : Int) := by omega
    have hlt0 : (0 : Int) ≤ (k : Int) := by omega
    obtain ⟨q, HQ⟩ : ∃ q : Nat, Hid (q = K + k * 3) := ⟨_, rfl⟩
    rw [← HQ.out]
    have hq1 : 0 < q := by have := HQ.out; omega
    have hq2 : q ≤ 100000000 := by have := HQ.out; omega
    go_wp2_with fail
    refine (markText_any q wr hq1 (by omega)).mono ?_
    rintro e v0 ⟨rfl, HV0⟩
    have HPa0 : Hid (Blk v0 b (n * 3) (fun j => if j < k * 3 then mkT K j else c j)) := HP.out.of_block (HV0.out.block _ HP.out.lt)
    have HLa0 : Hid (KeptP (fun c => lo ≤ c ∧ c < hi) w v0) := HL.out.trans (KeptP.of_below HV0.out (fun _ hk _ => hk))
    have hd0 := HPa0.out.cell (i := k * 3) (by omega)
    have hf0 := Blk.frozen HPa0.out (k * 3)
    obtain ⟨u0, HU0⟩ : ∃ V, Hid (V = v0.setCell ⟨b, k * 3, none⟩ (.string (markS q))) := ⟨_, rfl⟩
    clear HV0 HP HL
    go_upto_region 5 with fail
    first | rw [← HU0.out] | (rw [show _ = u0 from HU0.out.symm]) | skip
    have HP0x : Hid (Blk u0 b (n * 3) (fun j => if j = k * 3 then .string (markS q) else ((fun j => if j < k * 3 then mkT K j else c j)) j)) := by rw [HU0.out]; exact Blk.set HPa0.out (k * 3) (by omega) _
    have HL0x : Hid (KeptP (fun c => lo ≤ c ∧ c < hi) w u0) := by rw [HU0.out]; exact HLa0.out.setCell HX.out _
    clear HU0 hd0 hf0 HPa0 HLa0
    go_wp2_with fail
    refine (markText_at (q + 1) ((q : Int) + 1) u0 (by omega) (by omega) (by omega)).mono ?_
    rintro e v1 ⟨rfl, HV1⟩
    have HPa1 : Hid (Blk v1 b (n * 3) (fun j => if j = k * 3 then .string (markS q) else ((fun j => if j < k * 3 then mkT K j else c j)) j)) := HP0x.out.of_block (HV1.out.block _ HP0x.out.lt)
    have HLa1 : Hid (KeptP (fun c => lo ≤ c ∧ c < hi) w v1) := HL0x.out.trans (KeptP.of_below HV1.out (fun _ hk _ => hk))
    have hd1 := HPa1.out.cell (i := k * 3 + 1) (by omega)
    have hf1 := Blk.frozen HPa1.out (k * 3 + 1)
    obtain ⟨u1, HU1⟩ : ∃ V, Hid (V = v1.setCell ⟨b, k * 3 + 1, none⟩ (.string (markS (q + 1)))) := ⟨_, rfl⟩
    clear HV1 HP0x HL0x
    go_upto_region 7 with fail
    first | rw [← HU1.out] | (rw [show _ = u1 from HU1.out.symm]) | skip
    have HP1x : Hid (Blk u1 b (n * 3) (fun j => if j = k * 3 + 1 then .string (markS (q + 1)) else ((fun j => if j = k * 3 then .string (markS q) else ((fun j => if j < k * 3 then mkT K j else c j)) j)) j)) := by rw [HU1.out]; exact Blk.set HPa1.out (k * 3 + 1) (by omega) _
    have HL1x : Hid (KeptP (fun c => lo ≤ c ∧ c < hi) w u1) := by rw [HU1.out]; exact HLa1.out.setCell HX.out _
    clear HU1 hd1 hf1 HPa1 HLa1
    go_wp2_with fail
    refine (markText_at (q + 2) ((q : Int) + 1 + 1) u1 (by omega) (by omega) (by omega)).mono ?_
    rintro e v2 ⟨rfl, HV2⟩
    have HPa2 : Hid (Blk v2 b (n * 3) (fun j => if j = k * 3 + 1 then .string (markS (q + 1)) else ((fun j => if j = k * 3 then .string (markS q) else ((fun j => if j < k * 3 then mkT K j else c j)) j)) j)) := HP1x.out.of_block (HV2.out.block _ HP1x.out.lt)
    have HLa2 : Hid (KeptP (fun c => lo ≤ c ∧ c < hi) w v2) := HL1x.out.trans (KeptP.of_below HV2.out (fun _ hk _ => hk))
    have hd2 := HPa2.out.cell (i := k * 3 + 2) (by omega)
    have hf2 := Blk.frozen HPa2.out (k * 3 + 2)
    obtain ⟨u2, HU2⟩ : ∃ V, Hid (V = v2.setCell ⟨b, k * 3 + 2, none⟩ (.string (markS (q + 2)))) := ⟨_, rfl⟩
    clear HV2 HP1x HL1x
    go_upto_region 9 with fail
    first | rw [← HU2.out] | (rw [show _ = u2 from HU2.out.symm]) | skip
    have HP2x : Hid (Blk u2 b (n * 3) (fun j => if j = k * 3 + 2 then .string (markS (q + 2)) else ((fun j => if j = k * 3 + 1 then .string (markS (q + 1)) else ((fun j => if j = k * 3 then .string (markS q) else ((fun j => if j < k * 3 then mkT K j else c j)) j)) j)) j)) := by rw [HU2.out]; exact Blk.set HPa2.out (k * 3 + 2) (by omega) _
    have HL2x : Hid (KeptP (fun c => lo ≤ c ∧ c < hi) w u2) := by rw [HU2.out]; exact HLa2.out.setCell HX.out _
    clear HU2 hd2 hf2 HPa2 HLa2
    have HFIN : Hid (Blk u2 b (n * 3) (fun j => if j < (k + 1) * 3 then mkT K j else c j)) := by
     refine HP2x.out.congr fun j hj => ?_
     dsimp only
     by_cases e2 : j = k * 3 + 2
     ·subst e2; rw [if_pos rfl]; rw [if_pos (show k * 3 + 2 < (k + 1) * 3 by omega)]; unfold mkT; rw [show K + (k * 3 + 2) = q + 2 by have := HQ.out; omega]
     rw [if_neg e2]
     by_cases e1 : j = k * 3 + 1
     ·subst e1; rw [if_pos rfl]; rw [if_pos (show k * 3 + 1 < (k + 1) * 3 by omega)]; unfold mkT; rw [show K + (k * 3 + 1) = q + 1 by have := HQ.out; omega]
     rw [if_neg e1]
     by_cases e0 : j = k * 3
     ·subst e0; rw [if_pos rfl]; rw [if_pos (show k * 3 < (k + 1) * 3 by omega)]; unfold mkT; rw [show K + k * 3 = q by have := HQ.out; omega]
     rw [if_neg e0]
     by_cases e9 : j < k * 3
     ·rw [if_pos e9, if_pos (by omega)]
     ·rw [if_neg e9, if_neg (by omega)]
    go_wp2
    go_roundw
    case rel => exact ⟨k + 1, by go_num, by have h9 := HQ.out; first | (go_num; omega) | (congr 1; push_cast; omega), by omega, HFIN, HL2x⟩
    case measure => simp [intOf]; omega
   ·obtain rfl : k = n := by omega
    go_wp2
    go_ret
    exact ⟨rfl, .inr ⟨b, rfl, HX.out.1, HX.out.2, HP.out.congr fun j hj => by rw [if_pos hj]⟩, HL⟩
set_option maxHeartbeats 4000000 in
set_option maxRecDepth 100000 in
theorem markFilterS_any (lo hi : Nat) (a : Option Addr) (n cap K : Nat) (c : Nat → Value) (w : World) (ha : FlOwn 4 lo hi w a n c) (hm : n ≤ 1048576) (h0 : 0 < K) (hK : K ≤ 16777216) :
  Calls Tryz.prog 38 #[.slice a n cap, .int .i64 (K : Int)] w fun e w' => e = .returned (.int .i64 ((K + n * 4 : Nat) : Int)) ∧ Hid (FlOwn 4 lo hi w' a n (mkF K)) ∧ Hid (KeptP (fun c => lo ≤ c ∧ c < hi) w w') := by
 by_cases h0n : n = 0
 ·subst h0n
  clear ha
  go_enter Tryz.func38, Tryz.ntmps38
  go_wp2
  go_loop [5, 1] (fun i k => i = .int .i64 0 ∧ k = .int .i64 (K : Int)) (fun _ _ => 0)
  case atStart => exact ⟨rfl, rfl⟩
  case round =>
   obtain ⟨rfl, rfl⟩ := hrel
   go_wp2
   go_ret
   exact ⟨by first | rfl | simp, .inl rfl, KeptP.refl _ _⟩
 ·obtain ⟨b, rfl, h1, h2, hb⟩ : ∃ b, a = some ⟨b, 0, none⟩ ∧ lo ≤ b ∧ b < hi ∧ Blk w b (n * 4) c := by
   rcases ha with h | h
   ·exact absurd h h0n
   ·exact h
  have HX : Hid (lo ≤ b ∧ b < hi) := ⟨h1, h2⟩
  have HB0 : Hid (Blk w b (n * 4) c) := hb
  have HBW : Hid (b < w.heap.size) := hb.lt
  clear ha hb h1 h2
  go_enter Tryz.func38, Tryz.ntmps38
  go_wp2
  go_loopw [5, 1] (fun i x wr => ∃ k : Nat, i = .int .i64 k ∧ x = .int .i64 ((K + k * 4 : Nat) : Int) ∧ k ≤ n ∧ Hid (Blk wr b (n * 4) (fun j => if j < k * 4 then mkF K j else c j)) ∧ Hid (KeptP (fun c => lo ≤ c ∧ c < hi) w wr)) (fun i _ _ => n - (intOf i).toNat)
  case atStart => exact ⟨0, rfl, by simp, by omega, HB0.out.congr (fun j hj => by rw [if_neg (by omega)]), KeptP.refl _ _⟩
  case round =>
   obtain ⟨k, rfl, rfl, hk, HP, HL⟩ := hrel
   by_cases hlt : k < n
   ·have hlt1 : (k : Int) < (n : Int) := by omega
    have hlt0 : (0 : Int) ≤ (k : Int) := by omega
    obtain ⟨q, HQ⟩ : ∃ q : Nat, Hid (q = K + k * 4) := ⟨_, rfl⟩
    rw [← HQ.out]
    have hq1 : 0 < q := by have := HQ.out; omega
    have hq2 : q ≤ 100000000 := by have := HQ.out; omega
    go_wp2_with fail
    refine (markText_any q wr hq1 (by omega)).mono ?_
    rintro e v0 ⟨rfl, HV0⟩
    have HPa0 : Hid (Blk v0 b (n * 4) (fun j => if j < k * 4 then mkF K j else c j)) := HP.out.of_block (HV0.out.block _ HP.out.lt)
    have HLa0 : Hid (KeptP (fun c => lo ≤ c ∧ c < hi) w v0) := HL.out.trans (KeptP.of_below HV0.out (fun _ hk _ => hk))
    have hd0 := HPa0.out.cell (i := k * 4) (by omega)
    have hf0 := Blk.frozen HPa0.out (k * 4)
    obtain ⟨u0, HU0⟩ : ∃ V, Hid (V = v0.setCell ⟨b, k * 4, none⟩ (.string (markS q))) := ⟨_, rfl⟩
    clear HV0 HP HL
    go_upto_region 5 with fail
    first | rw [← HU0.out] | (rw [show _ = u0 from HU0.out.symm]) | skip
    have HP0x : Hid (Blk u0 b (n * 4) (fun j => if j = k * 4 then .string (markS q) else ((fun j => if j < k * 4 then mkF K j else c j)) j)) := by rw [HU0.out]; exact Blk.set HPa0.out (k * 4) (by omega) _
    have HL0x : Hid (KeptP (fun c => lo ≤ c ∧ c < hi) w u0) := by rw [HU0.out]; exact HLa0.out.setCell HX.out _
    clear HU0 hd0 hf0 HPa0 HLa0
    have hd1 := HP0x.out.cell (i := k * 4 + 1) (by omega)
    have hf1 := Blk.frozen HP0x.out (k * 4 + 1)
    obtain ⟨u1, HU1⟩ : ∃ V, Hid (V = u0.setCell ⟨b, k * 4 + 1, none⟩ (.int .i64 ((q : Int) + 1))) := ⟨_, rfl⟩
    go_upto_region 7 with fail
    first | rw [← HU1.out] | (rw [show _ = u1 from HU1.out.symm]) | skip
    have HP1x : Hid (Blk u1 b (n * 4) (fun j => if j = k * 4 + 1 then .int .i64 ((q : Int) + 1) else ((fun j => if j = k * 4 then .string (markS q) else ((fun j => if j < k * 4 then mkF K j else c j)) j)) j)) := by rw [HU1.out]; exact Blk.set HP0x.out (k * 4 + 1) (by omega) _
    have HL1x : Hid (KeptP (fun c => lo ≤ c ∧ c < hi) w u1) := by rw [HU1.out]; exact HL0x.out.setCell HX.out _
    clear HU1 hd1 hf1 HP0x HL0x
    go_wp2_with fail
    refine (markText_at (q + 2) ((q : Int) + 1 + 1) u1 (by omega) (by omega) (by omega)).mono ?_
    rintro e v2 ⟨rfl, HV2⟩
    have HPa2 : Hid (Blk v2 b (n * 4) (fun j => if j = k * 4 + 1 then .int .i64 ((q : Int) + 1) else ((fun j => if j = k * 4 then .string (markS q) else ((fun j => if j < k * 4 then mkF K j else c j)) j)) j)) := HP1x.out.of_block (HV2.out.block _ HP1x.out.lt)
    have HLa2 : Hid (KeptP (fun c => lo ≤ c ∧ c < hi) w v2) := HL1x.out.trans (KeptP.of_below HV2.out (fun _ hk _ => hk))
    have hd2 := HPa2.out.cell (i := k * 4 + 2) (by omega)
    have hf2 := Blk.frozen HPa2.out (k * 4 + 2)
    obtain ⟨u2, HU2⟩ : ∃ V, Hid (V = v2.setCell ⟨b, k * 4 + 2, none⟩ (.string (markS (q + 2)))) := ⟨_, rfl⟩
    clear HV2 HP1x HL1x
    go_upto_region 9 with fail
    first | rw [← HU2.out] | (rw [show _ = u2 from HU2.out.symm]) | skip
    have HP2x : Hid (Blk u2 b (n * 4) (fun j => if j = k * 4 + 2 then .string (markS (q + 2)) else ((fun j => if j = k * 4 + 1 then .int .i64 ((q : Int) + 1) else ((fun j => if j = k * 4 then .string (markS q) else ((fun j => if j < k * 4 then mkF K j else c j)) j)) j)) j)) := by rw [HU2.out]; exact Blk.set HPa2.out (k * 4 + 2) (by omega) _
    have HL2x : Hid (KeptP (fun c => lo ≤ c ∧ c < hi) w u2) := by rw [HU2.out]; exact HLa2.out.setCell HX.out _
    clear HU2 hd2 hf2 HPa2 HLa2
    have hd3 := HP2x.out.cell (i := k * 4 + 3) (by omega)
    have hf3 := Blk.frozen HP2x.out (k * 4 + 3)
    obtain ⟨u3, HU3⟩ : ∃ V, Hid (V = u2.setCell ⟨b, k * 4 + 3, none⟩ (.int .i64 ((q : Int) + 1 + 1 + 1))) := ⟨_, rfl⟩
    go_upto_region 11 with fail
    first | rw [← HU3.out] | (rw [show _ = u3 from HU3.out.symm]) | skip
    have HP3x : Hid (Blk u3 b (n * 4) (fun j => if j = k * 4 + 3 then .int .i64 ((q : Int) + 1 + 1 + 1) else ((fun j => if j = k * 4 + 2 then .string (markS (q + 2)) else ((fun j => if j = k * 4 + 1 then .int .i64 ((q : Int) + 1) else ((fun j => if j = k * 4 then .string (markS q) else ((fun j => if j < k * 4 then mkF K j else c j)) j)) j)) j)) j)) := by rw [HU3.out]; exact Blk.set HP2x.out (k * 4 + 3) (by omega) _
    have HL3x : Hid (KeptP (fun c => lo ≤ c ∧ c < hi) w u3) := by rw [HU3.out]; exact HL2x.out.setCell HX.out _
    clear HU3 hd3 hf3 HP2x HL2x
    have HFIN : Hid (Blk u3 b (n * 4) (fun j => if j < (k + 1) * 4 then mkF K j else c j)) := by
     refine HP3x.out.congr fun j hj => ?_
     dsimp only
     by_cases e3 : j = k * 4 + 3
     ·subst e3; rw [if_pos rfl]; rw [if_pos (show k * 4 + 3 < (k + 1) * 4 by omega)]; unfold mkF; rw [if_neg (by omega), show K + (k * 4 + 3) = q + 3 by have := HQ.out; omega]; congr 1
     rw [if_neg e3]
     by_cases e2 : j = k * 4 + 2
     ·subst e2; rw [if_pos rfl]; rw [if_pos (show k * 4 + 2 < (k + 1) * 4 by omega)]; unfold mkF; rw [if_pos (by omega), show K + (k * 4 + 2) = q + 2 by have := HQ.out; omega]
     rw [if_neg e2]
     by_cases e1 : j = k * 4 + 1
     ·subst e1; rw [if_pos rfl]; rw [if_pos (show k * 4 + 1 < (k + 1) * 4 by omega)]; unfold mkF; rw [if_neg (by omega), show K + (k * 4 + 1) = q + 1 by have := HQ.out; omega]; congr 1
     rw [if_neg e1]
     by_cases e0 : j = k * 4
     ·subst e0; rw [if_pos rfl]; rw [if_pos (show k * 4 < (k + 1) * 4 by omega)]; unfold mkF; rw [if_pos (by omega), ← HQ.out]
     rw [if_neg e0]
     by_cases e9 : j < k * 4
     ·rw [if_pos e9, if_pos (by omega)]
     ·rw [if_neg e9, if_neg (by omega)]
    go_wp2
    go_roundw
    case rel => exact ⟨k + 1, by go_num, by have h9 := HQ.out; first | (go_num; omega) | (congr 1; push_cast; omega), by omega, HFIN, HL3x⟩
    case measure => simp [intOf]; omega
   ·obtain rfl : k = n := by omega
    go_wp2
    go_ret
    exact ⟨rfl, .inr ⟨b, rfl, HX.out.1, HX.out.2, HP.out.congr fun j hj => by rw [if_pos hj]⟩, HL⟩
set_option maxHeartbeats 2000000 in
theorem markQuery_any (lo hi : Nat) (e : Bool) (a b c : Option Addr) (n1 c1 n2 c2 n3 c3 K : Nat) (f1 f2 f3 : Nat → Value) (w : World) (ha : QOwn lo hi w a b c n1 n2 n3 f1 f2 f3) (hh : hi ≤ w.heap.size) (hz : n1 ≤ 1048576 ∧ n2 ≤ 1048576 ∧ n3 ≤ 1048576) (h0 : 0 < K) (hK : K ≤ 8) :
  Calls Tryz.prog 14 #[qv e a n1 c1 b n2 c2 c n3 c3, .int .i64 (K : Int)] w fun e w' => ∃ m : Nat, e = .returned (.int .i64 (m : Int)) ∧ Hid (m = K + n1 + n2 * 3 + n3 * 4) ∧ Hid (QOwn lo hi w' a b c n1 n2 n3 (mkT K) (mkT (K + n1)) (mkF (K + n1 + n2 * 3))) ∧ Hid (KeptP (fun c => lo ≤ c ∧ c < hi) w w') := by
 obtain ⟨m1, m2, hm, ha1, ha2, ha3⟩ := ha
 obtain ⟨B, HB⟩ : ∃ B, Hid (B = w.heap.size) := ⟨_, rfl⟩
 obtain ⟨W, HW⟩ : ∃ W, Hid (W = w.alloc (.cells #[.bool e, .slice a n1 c1, .slice b n2 c2, .slice c n3 c3] 32)) := ⟨_, rfl⟩
 have HBW : Hid (Below w.heap.size w W) := by rw [HW.out]; exact below1 w _
 have HKW : Hid (KeptP (fun c => lo ≤ c ∧ c < hi) w W) := KeptP.of_below HBW.out (fun _ hk _ => hk)
 have HQ : Hid (Blk W B 4 (q4 (.bool e) (.slice a n1 c1) (.slice b n2 c2) (.slice c n3 c3))) := by rw [HW.out]; exact blk_four w B HB.out _ _ _ _ _
 have HA1 : Hid (FlOwn 1 lo m1 W a n1 f1) := ha1.below HBW.out (by omega)
 have HA2 : Hid (FlOwn 3 m1 m2 W b n2 f2) := ha2.below HBW.out (by omega)
 have HA3 : Hid (FlOwn 4 m2 hi W c n3 f3) := ha3.below HBW.out hh
 have HHB : Hid (hi ≤ B) := by rw [HB.out]; exact hh
 have HMM : Hid (lo ≤ m1 ∧ m1 ≤ m2 ∧ m2 ≤ hi) := hm
 clear ha1 ha2 ha3 hh hm
 obtain ⟨q0, q1, q2, q3⟩ := q_cells HQ.out
 go_enter Tryz.func14, Tryz.ntmps14
 go_upto_region 1 with fail
 rw [← HB.out, ← HW.out]
 clear HW
 go_wp2_with fail
 refine (markStringS_any lo m1 a n1 c1 K f1 W HA1.out (by omega) h0 (by omega)).mono ?_
 rintro e1 w1 ⟨rfl, HX1, HK1⟩
 obtain ⟨k1, HE1⟩ : ∃ k, Hid (k = K + n1 * 1) := ⟨_, rfl⟩
 rw [← HE1.out]
 have hk1 : 0 < k1 ∧ k1 ≤ 1048584 := by have := HE1.out; omega
 have HQ1 : Hid (Blk w1 B 4 (q4 (.bool e) (.slice a n1 c1) (.slice b n2 c2) (.slice c n3 c3))) := HK1.out.blk HQ.out (by have := HHB.out; have := HMM.out; omega)
 have HA21 : Hid (FlOwn 3 m1 m2 w1 b n2 f2) := HA2.out.kept HK1.out (fun k h1 h2 => by omega)
 have HA31 : Hid (FlOwn 4 m2 hi w1 c n3 f3) := HA3.out.kept HK1.out (fun k h1 h2 => by have := HMM.out; omega)
 have HKW1 : Hid (KeptP (fun c => lo ≤ c ∧ c < hi) w w1) := HKW.out.trans (HK1.out.mono (fun k h => by have := HMM.out; omega))
 clear q0 q1 q2 q3 HK1 HA1 HA2 HA3
 obtain ⟨q0, q1, q2, q3⟩ := q_cells HQ1.out
 go_wp2_with fail
 refine (markAtomS_any m1 m2 b n2 c2 k1 f2 w1 HA21.out hz.2.1 hk1.1 (by omega)).mono ?_
 rintro e2 w2 ⟨rfl, HX2, HK2⟩
 obtain ⟨k2, HE2⟩ : ∃ k, Hid (k = k1 + n2 * 3) := ⟨_, rfl⟩
 rw [← HE2.out]
 have hk2 : 0 < k2 ∧ k2 ≤ 4194400 := by have := HE2.out; omega
 have HQ2 : Hid (Blk w2 B 4 (q4 (.bool e) (.slice a n1 c1) (.slice b n2 c2) (.slice c n3 c3))) := HK2.out.blk HQ1.out (by have := HHB.out; have := HMM.out; omega)
 have HX12 : Hid (FlOwn 1 lo m1 w2 a n1 (mkT K)) := HX1.out.kept HK2.out (fun k h1 h2 => by omega)
 have HA32 : Hid (FlOwn 4 m2 hi w2 c n3 f3) := HA31.out.kept HK2.out (fun k h1 h2 => by omega)
 have HKW2 : Hid (KeptP (fun c => lo ≤ c ∧ c < hi) w w2) := HKW1.out.trans (HK2.out.mono (fun k h => by have := HMM.out; omega))
 clear q0 q1 q2 q3 HK2 HX1 HA21 HA31
 obtain ⟨q0, q1, q2, q3⟩ := q_cells HQ2.out
 go_wp2_with fail
 refine (markFilterS_any m2 hi c n3 c3 k2 f3 w2 HA32.out hz.2.2 hk2.1 (by omega)).mono ?_
 rintro e3 w3 ⟨rfl, HX3, HK3⟩
 obtain ⟨k3, HE3⟩ : ∃ k, Hid (k = k2 + n3 * 4) := ⟨_, rfl⟩
 rw [← HE3.out]
 have HX13 : Hid (FlOwn 1 lo m1 w3 a n1 (mkT K)) := HX12.out.kept HK3.out (fun k h1 h2 => by have := HMM.out; omega)
 have HX23 : Hid (FlOwn 3 m1 m2 w3 b n2 (mkT k1)) := HX2.out.kept HK3.out (fun k h1 h2 => by omega)
 have HKW3 : Hid (KeptP (fun c => lo ≤ c ∧ c < hi) w w3) := HKW2.out.trans (HK3.out.mono (fun k h => by have := HMM.out; omega))
 clear q0 q1 q2 q3 HK3 HX12 HX2
 have e1 : k1 = K + n1 := by rw [HE1.out]; omega
 have e2 : k2 = K + n1 + n2 * 3 := by rw [HE2.out, e1]
 rw [e1] at HX23
 rw [e2] at HX3
 clear hk1 hk2
 go_wp2
 go_ret
 exact ⟨k3, rfl, by show _ = _; rw [HE3.out, e2], ⟨m1, m2, HMM.out, HX13.out, HX23.out, HX3.out⟩, HKW3⟩
end Go.Proofs.YtbepmeipjdpipaaGreat

namespace Go.Proofs.YtbepmeipjdpipaaGreat
open Go.RowKit
open Go.ChangeShapes Go.WideShapes Go.ChangeAt Go.Deep in
theorem trod_struct4 {H : Type} {enc : TypeId × Value → H} {P : Program} {w : World} {base : Nat} {spare : Nat → Bool} {held : Bool} {t : TypeId} {f0 f1 f2 f3 : Field} {fuel : Nat} {cs : List Value} {x : DataW H × List MemPlace} (ht : P.underlying t = some (.struct #[f0, f1, f2, f3])) (h : DataW.trod enc P w base spare held fuel t cs = some x) :
  ∃ y0 y1 y2 y3 n, cs.length = P.cellsOf t ∧ DataW.trod enc P w base spare held n f0.type ((cs.drop f0.offset).take (P.cellsOf f0.type)) = some y0 ∧
   DataW.trod enc P w base spare held n f1.type ((cs.drop f1.offset).take (P.cellsOf f1.type)) = some y1 ∧ DataW.trod enc P w base spare held n f2.type ((cs.drop f2.offset).take (P.cellsOf f2.type)) = some y2 ∧ DataW.trod enc P w base spare held n f3.type ((cs.drop f3.offset).take (P.cellsOf f3.type)) = some y3 := by
 obtain ⟨xs, n, _, rfl, hl, hlen, hf⟩ := DataW.trod_struct ht h
 match xs, hlen with
 | [y0, y1, y2, y3], _ => exact ⟨y0, y1, y2, y3, n, hl, by simpa using hf 0 f0 rfl, by simpa using hf 1 f1 rfl, by simpa using hf 2 f2 rfl, by simpa using hf 3 f3 rfl⟩
open Go.ChangeShapes Go.WideShapes Go.ChangeAt Go.Deep in
set_option maxRecDepth 100000 in
theorem texts_trod {H : Type} {enc : TypeId × Value → H} {W : World} {fuel : Nat} {v : Value} {x : DataW H × List MemPlace}
  (hf : DataW.trod enc Tryz.prog W 0 (fun _ => true) true fuel 22 [v] = some x) : ∃ (ao : Option Addr) (n cap : Nat) (l : List Tx), v = .slice ao n cap ∧ n ≤ maxLen ∧ l.length = n ∧ (∀ i, i < n → (tat l i).size ≤ maxLen) ∧ FlIn 1 0 W.heap.size W ao n (tC l) := by
 rcases open_strs Tryz.underlying22 Tryz.underlying9 (by kernel_rfl) hf with ⟨hcs, _⟩ | ⟨a, len, cap, m, Sx, hcs, _, hl, hm, hmm, _, hx⟩
 ·simp at hcs
  subst hcs
  exact ⟨none, 0, 0, [], rfl, Nat.zero_le _, rfl, fun i hi => absurd hi (Nat.not_lt_zero _), .inl rfl⟩
 ·simp at hcs
  subst hcs
  have hlm : len ≤ m := by rw [hmm]; simp; exact hl
  have hgd : ∀ i, i < len → tat ((List.range len).map Sx) i = Sx i := fun i hi => by simp [tat, List.getD, hi]
  refine ⟨some a, len, cap, (List.range len).map Sx, rfl, by omega, by simp, fun i hi => by rw [hgd i hi]; exact (hx i (by omega)).2, ?_⟩
  by_cases h0 : len = 0
  ·exact .inl h0
  ·obtain ⟨b, off, spot⟩ := a
   have c0 := (hx 0 (by omega)).1
   obtain rfl := spot_none c0
   rw [add_none] at c0
   refine .inr ⟨b, off, rfl, Nat.zero_le _, lt_of_cell c0, fun j hj => ?_⟩
   have ck := (hx j (by omega)).1
   rw [add_none] at ck
   rw [ck]
   unfold tC
   rw [hgd j (by omega)]
open Go.ChangeShapes Go.WideShapes Go.ChangeAt Go.Deep in
set_option maxRecDepth 100000 in
theorem atoms_trod {H : Type} {enc : TypeId × Value → H} {W : World} {fuel : Nat} {v : Value} {x : DataW H × List MemPlace}
  (hf : DataW.trod enc Tryz.prog W 0 (fun _ => true) true fuel 23 [v] = some x) : ∃ (ao : Option Addr) (n cap : Nat) (l : List At), v = .slice ao n cap ∧ n ≤ maxLen ∧ l.length = n ∧ (∀ i, i < n → (aat l i).1.size ≤ maxLen ∧ (aat l i).2.1.size ≤ maxLen ∧ (aat l i).2.2.size ≤ maxLen) ∧ FlIn 3 0 W.heap.size W ao n (aC l) := by
 rcases open_slice Tryz.underlying23 hf with ⟨hcs, _⟩ | ⟨a, len, cap, m, n, D, Pl, hcs, _, hl, hm, hmm, _, hx⟩
 ·simp at hcs
  subst hcs
  exact ⟨none, 0, 0, [], rfl, Nat.zero_le _, rfl, fun i hi => absurd hi (Nat.not_lt_zero _), .inl rfl⟩
 ·simp at hcs
  subst hcs
  have ce : Tryz.prog.cellsOf 68 = 3 := by kernel_rfl
  have hlm : len ≤ m := by rw [hmm]; simp; exact hl
  have each : ∀ i, i < len → ∃ q : At, W.cell? (a.add (i * 3)) = some (.string q.1) ∧ W.cell? (a.add (i * 3 + 1)) = some (.string q.2.1) ∧ W.cell? (a.add (i * 3 + 2)) = some (.string q.2.2) ∧ (q.1.size ≤ maxLen ∧ q.2.1.size ≤ maxLen ∧ q.2.2.size ≤ maxLen) := by
   intro i hi
   obtain ⟨cs', h1, h2⟩ := hx i (by omega)
   rw [ce] at h1
   obtain ⟨_, hlen, hcell⟩ := World.cells?_some h1
   obtain ⟨y0, y1, y2, k, _, _, g0, g1, g2⟩ := trod_struct3 Tryz.underlying68 h2
   match cs', hlen with
   | [v0, v1, v2], _ =>
    have c9 : Tryz.prog.cellsOf 9 = 1 := by kernel_rfl
    simp only [c9, List.drop_zero, List.drop_succ_cons, List.take_succ_cons, List.take_zero] at g0 g1 g2
    obtain ⟨z0, e0, _, s0⟩ := DataW.trod_string Tryz.underlying9 g0
    obtain ⟨z1, e1, _, s1⟩ := DataW.trod_string Tryz.underlying9 g1
    obtain ⟨z2, e2, _, s2⟩ := DataW.trod_string Tryz.underlying9 g2
    simp at e0 e1 e2
    have q0 := hcell 0 (by omega)
    have q1 := hcell 1 (by omega)
    have q2 := hcell 2 (by omega)
    rw [add_add] at q0 q1 q2
    subst e0 e1 e2
    exact ⟨(z0, z1, z2), by simpa using q0, by simpa using q1, by simpa using q2, s0, s1, s2⟩
  obtain ⟨f, hfn⟩ := choose_lt each
  have hgd : ∀ i, i < len → aat ((List.range len).map f) i = f i := fun i hi => by simp [aat, List.getD, hi]
  refine ⟨some a, len, cap, (List.range len).map f, rfl, by omega, by simp, fun i hi => by rw [hgd i hi]; exact (hfn i hi).2.2.2, ?_⟩
  by_cases h0 : len = 0
  ·exact .inl h0
  ·obtain ⟨b, off, spot⟩ := a
   have c0 := (hfn 0 (by omega)).1
   obtain rfl := spot_none (by simpa using c0)
   rw [add_none] at c0
   refine .inr ⟨b, off, rfl, Nat.zero_le _, lt_of_cell c0, fun j hj => ?_⟩
   obtain ⟨c0, c1, c2, _⟩ := hfn (j / 3) (by omega)
   rw [add_none] at c0 c1 c2
   unfold aC
   rw [hgd (j / 3) (by omega)]
   rcases (show j = j / 3 * 3 ∨ j = j / 3 * 3 + 1 ∨ j = j / 3 * 3 + 2 by omega) with h | h | h
   ·rw [if_pos (by omega), ← c0, ← h]
   ·rw [if_neg (by omega), if_pos (by omega), ← c1, ← h]
   ·rw [if_neg (by omega), if_neg (by omega), ← c2, ← h]
open Go.ChangeShapes Go.WideShapes Go.ChangeAt Go.Deep in
set_option maxRecDepth 100000 in
theorem filters_trod {H : Type} {enc : TypeId × Value → H} {W : World} {fuel : Nat} {v : Value} {x : DataW H × List MemPlace}
  (hf : DataW.trod enc Tryz.prog W 0 (fun _ => true) true fuel 24 [v] = some x) : ∃ (ao : Option Addr) (n cap : Nat) (l : List Fl), v = .slice ao n cap ∧ n ≤ maxLen ∧ l.length = n ∧ (∀ i, i < n → (fat l i).1.size ≤ maxLen ∧ (fat l i).2.2.1.size ≤ maxLen) ∧ FlIn 4 0 W.heap.size W ao n (fC l) := by
 rcases open_slice Tryz.underlying24 hf with ⟨hcs, _⟩ | ⟨a, len, cap, m, n, D, Pl, hcs, _, hl, hm, hmm, _, hx⟩
 ·simp at hcs
  subst hcs
  exact ⟨none, 0, 0, [], rfl, Nat.zero_le _, rfl, fun i hi => absurd hi (Nat.not_lt_zero _), .inl rfl⟩
 ·simp at hcs
  subst hcs
  have ce : Tryz.prog.cellsOf 70 = 4 := by kernel_rfl
  have hlm : len ≤ m := by rw [hmm]; simp; exact hl
  have each : ∀ i, i < len → ∃ q : Fl, W.cell? (a.add (i * 4)) = some (.string q.1) ∧ W.cell? (a.add (i * 4 + 1)) = some (.int .i64 q.2.1) ∧ W.cell? (a.add (i * 4 + 2)) = some (.string q.2.2.1) ∧ W.cell? (a.add (i * 4 + 3)) = some (.int .i64 q.2.2.2) ∧ (q.1.size ≤ maxLen ∧ q.2.2.1.size ≤ maxLen) := by
   intro i hi
   obtain ⟨cs', h1, h2⟩ := hx i (by omega)
   rw [ce] at h1
   obtain ⟨_, hlen, hcell⟩ := World.cells?_some h1
   obtain ⟨y0, y1, y2, y3, k, _, g0, g1, g2, g3⟩ := trod_struct4 Tryz.underlying70 h2
   match cs', hlen with
   | [v0, v1, v2, v3], _ =>
    have c9 : Tryz.prog.cellsOf 9 = 1 := by kernel_rfl
    have c3 : Tryz.prog.cellsOf 3 = 1 := by kernel_rfl
    simp only [c9, c3, List.drop_zero, List.drop_succ_cons, List.take_succ_cons, List.take_zero] at g0 g1 g2 g3
    obtain ⟨z0, e0, _, s0⟩ := DataW.trod_string Tryz.underlying9 g0
    obtain ⟨z1, e1, _, _⟩ := DataW.trod_int Tryz.underlying3 g1
    obtain ⟨z2, e2, _, s2⟩ := DataW.trod_string Tryz.underlying9 g2
    obtain ⟨z3, e3, _, _⟩ := DataW.trod_int Tryz.underlying3 g3
    simp at e0 e1 e2 e3
    have q0 := hcell 0 (by omega)
    have q1 := hcell 1 (by omega)
    have q2 := hcell 2 (by omega)
    have q3 := hcell 3 (by omega)
    rw [add_add] at q0 q1 q2 q3
    subst e0 e1 e2 e3
    exact ⟨(z0, z1, z2, z3), by simpa using q0, by simpa using q1, by simpa using q2, by simpa using q3, s0, s2⟩
  obtain ⟨f, hfn⟩ := choose_lt each
  have hgd : ∀ i, i < len → fat ((List.range len).map f) i = f i := fun i hi => by simp [fat, List.getD, hi]
  refine ⟨some a, len, cap, (List.range len).map f, rfl, by omega, by simp, fun i hi => by rw [hgd i hi]; exact (hfn i hi).2.2.2.2, ?_⟩
  by_cases h0 : len = 0
  ·exact .inl h0
  ·obtain ⟨b, off, spot⟩ := a
   have c0 := (hfn 0 (by omega)).1
   obtain rfl := spot_none (by simpa using c0)
   rw [add_none] at c0
   refine .inr ⟨b, off, rfl, Nat.zero_le _, lt_of_cell c0, fun j hj => ?_⟩
   obtain ⟨c0, c1, c2, c3, _⟩ := hfn (j / 4) (by omega)
   rw [add_none] at c0 c1 c2 c3
   unfold fC
   rw [hgd (j / 4) (by omega)]
   rcases (show j = j / 4 * 4 ∨ j = j / 4 * 4 + 1 ∨ j = j / 4 * 4 + 2 ∨ j = j / 4 * 4 + 3 by omega) with h | h | h | h
   ·rw [if_pos (by omega), ← c0, ← h]
   ·rw [if_neg (by omega), if_pos (by omega), ← c1, ← h]
   ·rw [if_neg (by omega), if_neg (by omega), if_pos (by omega), ← c2, ← h]
   ·rw [if_neg (by omega), if_neg (by omega), if_neg (by omega), ← c3, ← h]
theorem cellsQ : Tryz.prog.cellsOf 26 = 4 := by kernel_rfl
open Go.ChangeShapes Go.WideShapes Go.ChangeAt Go.Deep in
set_option maxRecDepth 100000 in
theorem query_in {H : Type} {enc : TypeId × Value → H} {W : World} {r : Reach} {b0 : Nat} {v : Value} {d : DataW H} {ps : List MemPlace} (hv : Value.okWide Tryz.prog W r b0 26 v)
  (h : DataW.Trod enc Tryz.prog W 0 (fun _ => true) true 26 v d ps) : ∃ (e : Bool) (a : Option Addr) (n x : Nat) (b : Option Addr) (m y : Nat) (c : Option Addr) (k z : Nat) (o : List Tx) (t : List At) (f : List Fl), v = qv e a n x b m y c k z ∧ (o.length = n ∧ t.length = m ∧ f.length = k) ∧ QLe maxLen n m k o t f ∧ QIn 0 W.heap.size W a b c n m k (tC o) (aC t) (fC f) := by
 obtain ⟨cs, rfl, hsz⟩ := okWide_struct Tryz.underlying26 hv
 have h1 : cs.size = 4 := hsz.trans cellsQ
 obtain ⟨v0, v1, v2, v3, rfl⟩ : ∃ v0 v1 v2 v3, cs = #[v0, v1, v2, v3] := by
  refine ⟨cs[0], cs[1], cs[2], cs[3], ?_⟩
  apply Array.ext (by simpa using h1)
  intro i hi hi'
  simp at hi'
  rcases (show i = 0 ∨ i = 1 ∨ i = 2 ∨ i = 3 by omega) with rfl | rfl | rfl | rfl <;> rfl
 obtain ⟨fuel, hf⟩ := h
 obtain ⟨y0, y1, y2, y3, n, _, g0, g1, g2, g3⟩ := trod_struct4 Tryz.underlying26 hf
 have c4 : Tryz.prog.cellsOf 4 = 1 := by kernel_rfl
 have k1 : Tryz.prog.cellsOf 22 = 1 := by kernel_rfl
 have k2 : Tryz.prog.cellsOf 23 = 1 := by kernel_rfl
 have k3 : Tryz.prog.cellsOf 24 = 1 := by kernel_rfl
 have h0' : DataW.trod enc Tryz.prog W 0 (fun _ => true) true n 4 [v0] = some y0 := by simpa [Value.cells, c4] using g0
 have h1' : DataW.trod enc Tryz.prog W 0 (fun _ => true) true n 22 [v1] = some y1 := by simpa [Value.cells, k1] using g1
 have h2' : DataW.trod enc Tryz.prog W 0 (fun _ => true) true n 23 [v2] = some y2 := by simpa [Value.cells, k2] using g2
 have h3' : DataW.trod enc Tryz.prog W 0 (fun _ => true) true n 24 [v3] = some y3 := by simpa [Value.cells, k3] using g3
 obtain ⟨e, ee, _⟩ := DataW.trod_bool Tryz.underlying4 h0'
 simp at ee
 obtain ⟨a1, n1, c1, l1, rfl, hm1, hl1, hs1, hr1⟩ := texts_trod h1'
 obtain ⟨a2, n2, c2, l2, rfl, hm2, hl2, hs2, hr2⟩ := atoms_trod h2'
 obtain ⟨a3, n3, c3, l3, rfl, hm3, hl3, hs3, hr3⟩ := filters_trod h3'
 subst ee
 exact ⟨e, a1, n1, c1, a2, n2, c2, a3, n3, c3, l1, l2, l3, rfl, ⟨hl1, hl2, hl3⟩, ⟨⟨hm1, hm2, hm3⟩, hs1, hs2, hs3⟩, hr1, hr2, hr3⟩
end Go.Proofs.YtbepmeipjdpipaaGreat
