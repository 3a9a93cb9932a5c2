/-
  Marks in texts and questions: markText, markStringS, markAtomS, markFilterS, markQuery, heldStringS.
-/
import Derived.Test.YtkcflhlipdnbnaaQyT
import Derived.Laws.IdiomStrings
namespace Go.Proofs.Ytkcflhlipdnbnaa
open Go.RowKit

def mkDig (u : Nat) (t : ByteArray) : ByteArray := if u = 0 then t else mkDig (u / 10) (⟨#[UInt8.ofNat (48 + u % 10)]⟩ ++ t)
termination_by u
decreasing_by omega
/-- the mark of k -/
def markS (k : Nat) : ByteArray := ⟨#[109]⟩ ++ mkDig k ⟨#[]⟩
theorem mkDig_step {u : Nat} (h : u ≠ 0) (t : ByteArray) : mkDig u t = mkDig (u / 10) (⟨#[UInt8.ofNat (48 + u % 10)]⟩ ++ t) := by
  rw [mkDig, if_neg h]
theorem mkDig_zero (t : ByteArray) : mkDig 0 t = t := by rw [mkDig, if_pos rfl]
theorem conv_one8 (wr : World) (u : Nat) :
    (convert 65 9 (.slice (some ⟨wr.heap.size, 0, none⟩) 1 1)).run Try.prog (wr.alloc (.cells #[.int .u8 (48 + (u : Int) % 10)] 5)) = .ok (.string ⟨#[UInt8.ofNat (48 + u % 10)]⟩) (wr.alloc (.cells #[.int .u8 (48 + (u : Int) % 10)] 5)) := by
  have e : (UInt8.ofNat (48 + u % 10)).toNat = 48 + u % 10 := by rw [UInt8.toNat_ofNat']; omega
  refine run_convert_bytes_back _ 65 9 5 ⟨wr.heap.size, 0, none⟩ 1 [UInt8.ofNat (48 + u % 10)] Try.underlying65 Try.underlying5 Try.underlying9 fun j hj => ?_
  have hj0 : j = 0 := by simpa using hj
  subst hj0
  show (wr.alloc _).cell? ⟨wr.heap.size, 0, none⟩ = some (.int .u8 (((UInt8.ofNat (48 + u % 10)).toNat : Nat) : Int))
  rw [e, cell_new1 wr _ _ _ rfl]
  simp

set_option maxHeartbeats 2000000 in
set_option maxRecDepth 100000 in
theorem markText_any (K : Nat) (w : World) (h0 : 0 < K) (h1 : K ≤ 1000000000) :
    Calls Try.prog 65 #[.int .i64 (K : Int)] w fun e w' => e = .returned (.string (markS K)) ∧ Hid (Below w.heap.size w w') := by
  have hz : ¬ (K : Int) ≤ 0 := by omega
  go_enter Try.func65, Try.ntmps65
  go_wp2
  go_loopw [0, 3] (fun n s wr => ∃ (u : Nat) (t : ByteArray), n = .int .i64 (u : Int) ∧ s = .string t ∧ Hid (mkDig u t = mkDig K ⟨#[]⟩) ∧ Hid (t.size ≤ 31 ∧ u * 2 ^ t.size ≤ K) ∧ Hid (Below w.heap.size w wr)) (fun n _ _ => (intOf n).toNat)
  case atStart => exact ⟨K, ⟨#[]⟩, rfl, rfl, rfl, ⟨by show (0 : Nat) ≤ 31; omega, by show K * 2 ^ 0 ≤ K; omega⟩, Below.refl _ _⟩
  case round =>
    obtain ⟨u, t, rfl, rfl, HE, HS, HB⟩ := hrel
    obtain ⟨ts, HTS⟩ : ∃ n, Hid (t.size = n) := ⟨_, rfl⟩
    have hs := HS.out
    have hst : t.size ≤ 31 := hs.1
    have hsz := HB.out.size
    by_cases hu : u = 0
    · subst hu
      have HD : Hid (markS K = ⟨#[109]⟩ ++ t) := by show _ = _; unfold markS; rw [← HE.out, mkDig_zero]
      obtain ⟨MM, HMM⟩ : ∃ m, Hid (m = markS K) := ⟨_, rfl⟩
      rw [HD.out] at HMM
      have hov : ¬ (9223372036854775807 < (⟨#[109]⟩ : ByteArray).size + t.size) := by show ¬ (_ < 1 + t.size); omega
      have hov2 : ¬ (9223372036854775807 < 1 + t.size) := by omega
      clear hs
      go_wp2
      go_ret
      exact ⟨by rw [HD.out]; rfl, HB⟩
    · have hpos : (0 : Int) < (u : Int) := by omega
      have hp2 : 0 < 2 ^ t.size := Nat.pow_pos (by omega)
      have hts : t.size < 30 := by
        rcases Nat.lt_or_ge t.size 30 with h | h
        · exact h
        · have h2 : 2 ^ 30 ≤ 2 ^ t.size := Nat.pow_le_pow_right (by omega) h
          have h3 : 1 * 2 ^ t.size ≤ u * 2 ^ t.size := Nat.mul_le_mul_right _ (by omega)
          omega
      have huK : u ≤ 1000000000 := by
        have h3 : u * 1 ≤ u * 2 ^ t.size := Nat.mul_le_mul_left _ hp2
        omega
      have hconv := conv_one8 wr u
      obtain ⟨C, HC⟩ : ∃ C : ByteArray, Hid (C = ⟨#[UInt8.ofNat (48 + u % 10)]⟩) := ⟨_, rfl⟩
      rw [← HC.out] at hconv
      have hov : ¬ (9223372036854775807 < C.size + t.size) := by rw [HC.out]; show ¬ (_ < 1 + t.size); omega
      have HN1 : Hid (mkDig (u / 10) (C ++ t) = mkDig K ⟨#[]⟩) := by show _ = _; rw [← HE.out, mkDig_step hu, HC.out]
      have HN2 : Hid ((C ++ t).size ≤ 31 ∧ (u / 10) * 2 ^ (C ++ t).size ≤ K) := by
        have e : (C ++ t).size = t.size + 1 := by rw [ByteArray.size_append, HC.out]; show 1 + t.size = _; omega
        rw [e]
        refine ⟨by omega, ?_⟩
        have h4 : u / 10 * 2 ≤ u := by omega
        have h5 : (u / 10 * 2) * 2 ^ t.size ≤ u * 2 ^ t.size := Nat.mul_le_mul_right _ h4
        rw [Nat.pow_succ, Nat.mul_comm (2 ^ t.size) 2, ← Nat.mul_assoc]
        exact Nat.le_trans h5 hs.2
      have HU : Hid (u ≠ 0) := hu
      clear hs hu hp2 HC
      go_wp2
      go_roundw
      case rel => exact ⟨u / 10, C ++ t, by go_num, rfl, HN1, HN2, HB.out.alloc hsz _⟩
      case measure => have := HU.out; simp [intOf]; omega

theorem markText_at (K : Nat) (x : Int) (w : World) (hx : x = (K : Int)) (h0 : 0 < K) (h1 : K ≤ 1000000000) : Calls Try.prog 65 #[.int .i64 x] w fun e w' => e = .returned (.string (markS K)) ∧ Hid (Below w.heap.size w w') := by
  subst hx; exact markText_any K w h0 h1
/-- marks from K on, as cells -/
def mkT (K j : Nat) : Value := .string (markS (K + j))
def mkF (K j : Nat) : Value := if j % 2 = 0 then .string (markS (K + j)) else .int .i64 ((K + j : Nat) : Int)
theorem mkF0 (K i j : Nat) (h : (i + j) % 2 = 0) : mkF K (i + j) = .string (markS (K + (i + j))) := by unfold mkF; rw [if_pos h]
theorem mkF1 (K i j : Nat) (h : (i + j) % 2 = 1) : mkF K (i + j) = .int .i64 ((K + (i + j) : Nat) : Int) := by unfold mkF; rw [if_neg (by omega)]

set_option maxHeartbeats 4000000 in
set_option maxRecDepth 100000 in
theorem markStringS_any (lo hi : Nat) (a : Option Addr) (n cap K : Nat) (c : Nat → Value) (w : World) (ha : FlOwn 1 lo hi w a n c) (hm : n ≤ 2097152) (h0 : 0 < K) (hK : K ≤ 16777216) :
    Calls Try.prog 26 #[.slice a n cap, .int .i64 (K : Int)] w fun e w' => e = .returned (.int .i64 ((K + n * 1 : Nat) : Int)) ∧ Hid (FlOwn 1 lo hi w' a n (mkT K)) ∧ Hid (KeptP (fun c => lo ≤ c ∧ c < hi) w w') := by
  by_cases h0n : n = 0
  · subst h0n
    clear ha
    go_enter Try.func26, Try.ntmps26
    go_wp2
    go_loop [5, 1] (fun i k => i = .int .i64 0 ∧ k = .int .i64 (K : Int)) (fun _ _ => 0)
    case atStart => exact ⟨rfl, rfl⟩
    case round =>
      obtain ⟨rfl, rfl⟩ := hrel
      go_wp2
      go_ret
      exact ⟨by first | rfl | simp, .inl rfl, KeptP.refl _ _⟩
  · obtain ⟨b, rfl, h1, h2, hb⟩ : ∃ b, a = some ⟨b, 0, none⟩ ∧ lo ≤ b ∧ b < hi ∧ Blk w b (n * 1) c := by
      rcases ha with h | h
      · exact absurd h h0n
      · exact h
    have HX : Hid (lo ≤ b ∧ b < hi) := ⟨h1, h2⟩
    have HB0 : Hid (Blk w b (n * 1) c) := hb
    have HBW : Hid (b < w.heap.size) := hb.lt
    clear ha hb h1 h2
    go_enter Try.func26, Try.ntmps26
    go_wp2
    go_loopw [5, 1] (fun i x wr => ∃ k : Nat, i = .int .i64 k ∧ x = .int .i64 ((K + k * 1 : Nat) : Int) ∧ k ≤ n ∧ Hid (Blk wr b (n * 1) (fun j => if j < k * 1 then mkT K j else c j)) ∧ Hid (KeptP (fun c => lo ≤ c ∧ c < hi) w wr)) (fun i _ _ => n - (intOf i).toNat)
    case atStart => exact ⟨0, rfl, by simp, by omega, HB0.out.congr (fun j hj => by rw [if_neg (by omega)]), KeptP.refl _ _⟩
    case round =>
      obtain ⟨k, rfl, rfl, hk, HP, HL⟩ := hrel
      by_cases hlt : k < n
      · have hlt1 : (k : Int) < (n : Int) := by omega
        have hlt0 : (0 : Int) ≤ (k : Int) := by omega
        obtain ⟨q, HQ⟩ : ∃ q : Nat, Hid (q = K + k * 1) := ⟨_, rfl⟩
        rw [← HQ.out]
        have hq1 : 0 < q := by have := HQ.out; omega
        have hq2 : q ≤ 100000000 := by have := HQ.out; omega
        go_wp2_with fail
        refine (markText_any q wr hq1 (by omega)).mono ?_
        rintro e v0 ⟨rfl, HV0⟩
        have HPa0 : Hid (Blk v0 b (n * 1) (fun j => if j < k * 1 then mkT K j else c j)) := HP.out.of_block (HV0.out.block _ HP.out.lt)
        have HLa0 : Hid (KeptP (fun c => lo ≤ c ∧ c < hi) w v0) := HL.out.trans (KeptP.of_below HV0.out (fun _ hk _ => hk))
        have hd0 := HPa0.out.cell (i := k) (by omega)
        have hf0 := Blk.frozen HPa0.out (k)
        obtain ⟨u0, HU0⟩ : ∃ V, Hid (V = v0.setCell ⟨b, k, none⟩ (.string (markS q))) := ⟨_, rfl⟩
        clear HV0 HP HL
        go_upto_region 5 with fail
        first | rw [← HU0.out] | (rw [show _ = u0 from HU0.out.symm]) | skip
        have HP0x : Hid (Blk u0 b (n * 1) (fun j => if j = k then .string (markS q) else ((fun j => if j < k * 1 then mkT K j else c j)) j)) := by rw [HU0.out]; exact Blk.set HPa0.out (k) (by omega) _
        have HL0x : Hid (KeptP (fun c => lo ≤ c ∧ c < hi) w u0) := by rw [HU0.out]; exact HLa0.out.setCell HX.out _
        clear HU0 hd0 hf0 HPa0 HLa0
        have HFIN : Hid (Blk u0 b (n * 1) (fun j => if j < (k + 1) * 1 then mkT K j else c j)) := by
          refine HP0x.out.congr fun j hj => ?_
          dsimp only
          by_cases e0 : j = k
          · subst e0; rw [if_pos rfl]; rw [if_pos (by omega)]; unfold mkT; rw [show K + j = q by have := HQ.out; omega]
          rw [if_neg e0]
          by_cases e9 : j < k * 1
          · rw [if_pos e9, if_pos (by omega)]
          · rw [if_neg e9, if_neg (by omega)]
        go_wp2
        go_roundw
        case rel => exact ⟨k + 1, by go_num, by have h9 := HQ.out; first | (go_num; omega) | (congr 1; push_cast; omega), by omega, HFIN, HL0x⟩
        case measure => simp [intOf]; omega
      · obtain rfl : k = n := by omega
        go_wp2
        go_ret
        exact ⟨rfl, .inr ⟨b, rfl, HX.out.1, HX.out.2, HP.out.congr fun j hj => by rw [if_pos hj]⟩, HL⟩

set_option maxHeartbeats 4000000 in
set_option maxRecDepth 100000 in
theorem markAtomS_any (lo hi : Nat) (a : Option Addr) (n cap K : Nat) (c : Nat → Value) (w : World) (ha : FlOwn 3 lo hi w a n c) (hm : n ≤ 1048576) (h0 : 0 < K) (hK : K ≤ 16777216) :
    Calls Try.prog 63 #[.slice a n cap, .int .i64 (K : Int)] w fun e w' => e = .returned (.int .i64 ((K + n * 3 : Nat) : Int)) ∧ Hid (FlOwn 3 lo hi w' a n (mkT K)) ∧ Hid (KeptP (fun c => lo ≤ c ∧ c < hi) w w') := by
  by_cases h0n : n = 0
  · subst h0n
    clear ha
    go_enter Try.func63, Try.ntmps63
    go_wp2
    go_loop [5, 1] (fun i k => i = .int .i64 0 ∧ k = .int .i64 (K : Int)) (fun _ _ => 0)
    case atStart => exact ⟨rfl, rfl⟩
    case round =>
      obtain ⟨rfl, rfl⟩ := hrel
      go_wp2
      go_ret
      exact ⟨by first | rfl | simp, .inl rfl, KeptP.refl _ _⟩
  · obtain ⟨b, rfl, h1, h2, hb⟩ : ∃ b, a = some ⟨b, 0, none⟩ ∧ lo ≤ b ∧ b < hi ∧ Blk w b (n * 3) c := by
      rcases ha with h | h
      · exact absurd h h0n
      · exact h
    have HX : Hid (lo ≤ b ∧ b < hi) := ⟨h1, h2⟩
    have HB0 : Hid (Blk w b (n * 3) c) := hb
    have HBW : Hid (b < w.heap.size) := hb.lt
    clear ha hb h1 h2
    go_enter Try.func63, Try.ntmps63
    go_wp2
    go_loopw [5, 1] (fun i x wr => ∃ k : Nat, i = .int .i64 k ∧ x = .int .i64 ((K + k * 3 : Nat) : Int) ∧ k ≤ n ∧ Hid (Blk wr b (n * 3) (fun j => if j < k * 3 then mkT K j else c j)) ∧ Hid (KeptP (fun c => lo ≤ c ∧ c < hi) w wr)) (fun i _ _ => n - (intOf i).toNat)
    case atStart => exact ⟨0, rfl, by simp, by omega, HB0.out.congr (fun j hj => by rw [if_neg (by omega)]), KeptP.refl _ _⟩
    case round =>
      obtain ⟨k, rfl, rfl, hk, HP, HL⟩ := hrel
      by_cases hlt : k < n
      · have hlt1 : (k : Int) < (n : Int) := by omega
        have hlt0 : (0 : Int) ≤ (k : Int) := by omega
        obtain ⟨q, HQ⟩ : ∃ q : Nat, Hid (q = K + k * 3) := ⟨_, rfl⟩
        rw [← HQ.out]
        have hq1 : 0 < q := by have := HQ.out; omega
        have hq2 : q ≤ 100000000 := by have := HQ.out; omega
        go_wp2_with fail
        refine (markText_any q wr hq1 (by omega)).mono ?_
        rintro e v0 ⟨rfl, HV0⟩
        have HPa0 : Hid (Blk v0 b (n * 3) (fun j => if j < k * 3 then mkT K j else c j)) := HP.out.of_block (HV0.out.block _ HP.out.lt)
        have HLa0 : Hid (KeptP (fun c => lo ≤ c ∧ c < hi) w v0) := HL.out.trans (KeptP.of_below HV0.out (fun _ hk _ => hk))
        have hd0 := HPa0.out.cell (i := k * 3) (by omega)
        have hf0 := Blk.frozen HPa0.out (k * 3)
        obtain ⟨u0, HU0⟩ : ∃ V, Hid (V = v0.setCell ⟨b, k * 3, none⟩ (.string (markS q))) := ⟨_, rfl⟩
        clear HV0 HP HL
        go_upto_region 5 with fail
        first | rw [← HU0.out] | (rw [show _ = u0 from HU0.out.symm]) | skip
        have HP0x : Hid (Blk u0 b (n * 3) (fun j => if j = k * 3 then .string (markS q) else ((fun j => if j < k * 3 then mkT K j else c j)) j)) := by rw [HU0.out]; exact Blk.set HPa0.out (k * 3) (by omega) _
        have HL0x : Hid (KeptP (fun c => lo ≤ c ∧ c < hi) w u0) := by rw [HU0.out]; exact HLa0.out.setCell HX.out _
        clear HU0 hd0 hf0 HPa0 HLa0
        go_wp2_with fail
        refine (markText_at (q + 1) ((q : Int) + 1) u0 (by omega) (by omega) (by omega)).mono ?_
        rintro e v1 ⟨rfl, HV1⟩
        have HPa1 : Hid (Blk v1 b (n * 3) (fun j => if j = k * 3 then .string (markS q) else ((fun j => if j < k * 3 then mkT K j else c j)) j)) := HP0x.out.of_block (HV1.out.block _ HP0x.out.lt)
        have HLa1 : Hid (KeptP (fun c => lo ≤ c ∧ c < hi) w v1) := HL0x.out.trans (KeptP.of_below HV1.out (fun _ hk _ => hk))
        have hd1 := HPa1.out.cell (i := k * 3 + 1) (by omega)
        have hf1 := Blk.frozen HPa1.out (k * 3 + 1)
        obtain ⟨u1, HU1⟩ : ∃ V, Hid (V = v1.setCell ⟨b, k * 3 + 1, none⟩ (.string (markS (q + 1)))) := ⟨_, rfl⟩
        clear HV1 HP0x HL0x
        go_upto_region 7 with fail
        first | rw [← HU1.out] | (rw [show _ = u1 from HU1.out.symm]) | skip
        have HP1x : Hid (Blk u1 b (n * 3) (fun j => if j = k * 3 + 1 then .string (markS (q + 1)) else ((fun j => if j = k * 3 then .string (markS q) else ((fun j => if j < k * 3 then mkT K j else c j)) j)) j)) := by rw [HU1.out]; exact Blk.set HPa1.out (k * 3 + 1) (by omega) _
        have HL1x : Hid (KeptP (fun c => lo ≤ c ∧ c < hi) w u1) := by rw [HU1.out]; exact HLa1.out.setCell HX.out _
        clear HU1 hd1 hf1 HPa1 HLa1
        go_wp2_with fail
        refine (markText_at (q + 2) ((q : Int) + 1 + 1) u1 (by omega) (by omega) (by omega)).mono ?_
        rintro e v2 ⟨rfl, HV2⟩
        have HPa2 : Hid (Blk v2 b (n * 3) (fun j => if j = k * 3 + 1 then .string (markS (q + 1)) else ((fun j => if j = k * 3 then .string (markS q) else ((fun j => if j < k * 3 then mkT K j else c j)) j)) j)) := HP1x.out.of_block (HV2.out.block _ HP1x.out.lt)
        have HLa2 : Hid (KeptP (fun c => lo ≤ c ∧ c < hi) w v2) := HL1x.out.trans (KeptP.of_below HV2.out (fun _ hk _ => hk))
        have hd2 := HPa2.out.cell (i := k * 3 + 2) (by omega)
        have hf2 := Blk.frozen HPa2.out (k * 3 + 2)
        obtain ⟨u2, HU2⟩ : ∃ V, Hid (V = v2.setCell ⟨b, k * 3 + 2, none⟩ (.string (markS (q + 2)))) := ⟨_, rfl⟩
        clear HV2 HP1x HL1x
        go_upto_region 9 with fail
        first | rw [← HU2.out] | (rw [show _ = u2 from HU2.out.symm]) | skip
        have HP2x : Hid (Blk u2 b (n * 3) (fun j => if j = k * 3 + 2 then .string (markS (q + 2)) else ((fun j => if j = k * 3 + 1 then .string (markS (q + 1)) else ((fun j => if j = k * 3 then .string (markS q) else ((fun j => if j < k * 3 then mkT K j else c j)) j)) j)) j)) := by rw [HU2.out]; exact Blk.set HPa2.out (k * 3 + 2) (by omega) _
        have HL2x : Hid (KeptP (fun c => lo ≤ c ∧ c < hi) w u2) := by rw [HU2.out]; exact HLa2.out.setCell HX.out _
        clear HU2 hd2 hf2 HPa2 HLa2
        have HFIN : Hid (Blk u2 b (n * 3) (fun j => if j < (k + 1) * 3 then mkT K j else c j)) := by
          refine HP2x.out.congr fun j hj => ?_
          dsimp only
          by_cases e2 : j = k * 3 + 2
          · subst e2; rw [if_pos rfl]; rw [if_pos (show k * 3 + 2 < (k + 1) * 3 by omega)]; unfold mkT; rw [show K + (k * 3 + 2) = q + 2 by have := HQ.out; omega]
          rw [if_neg e2]
          by_cases e1 : j = k * 3 + 1
          · subst e1; rw [if_pos rfl]; rw [if_pos (show k * 3 + 1 < (k + 1) * 3 by omega)]; unfold mkT; rw [show K + (k * 3 + 1) = q + 1 by have := HQ.out; omega]
          rw [if_neg e1]
          by_cases e0 : j = k * 3
          · subst e0; rw [if_pos rfl]; rw [if_pos (show k * 3 < (k + 1) * 3 by omega)]; unfold mkT; rw [show K + k * 3 = q by have := HQ.out; omega]
          rw [if_neg e0]
          by_cases e9 : j < k * 3
          · rw [if_pos e9, if_pos (by omega)]
          · rw [if_neg e9, if_neg (by omega)]
        go_wp2
        go_roundw
        case rel => exact ⟨k + 1, by go_num, by have h9 := HQ.out; first | (go_num; omega) | (congr 1; push_cast; omega), by omega, HFIN, HL2x⟩
        case measure => simp [intOf]; omega
      · obtain rfl : k = n := by omega
        go_wp2
        go_ret
        exact ⟨rfl, .inr ⟨b, rfl, HX.out.1, HX.out.2, HP.out.congr fun j hj => by rw [if_pos hj]⟩, HL⟩

set_option maxHeartbeats 4000000 in
set_option maxRecDepth 100000 in
theorem markFilterS_any (lo hi : Nat) (a : Option Addr) (n cap K : Nat) (c : Nat → Value) (w : World) (ha : FlOwn 4 lo hi w a n c) (hm : n ≤ 1048576) (h0 : 0 < K) (hK : K ≤ 16777216) :
    Calls Try.prog 64 #[.slice a n cap, .int .i64 (K : Int)] w fun e w' => e = .returned (.int .i64 ((K + n * 4 : Nat) : Int)) ∧ Hid (FlOwn 4 lo hi w' a n (mkF K)) ∧ Hid (KeptP (fun c => lo ≤ c ∧ c < hi) w w') := by
  by_cases h0n : n = 0
  · subst h0n
    clear ha
    go_enter Try.func64, Try.ntmps64
    go_wp2
    go_loop [5, 1] (fun i k => i = .int .i64 0 ∧ k = .int .i64 (K : Int)) (fun _ _ => 0)
    case atStart => exact ⟨rfl, rfl⟩
    case round =>
      obtain ⟨rfl, rfl⟩ := hrel
      go_wp2
      go_ret
      exact ⟨by first | rfl | simp, .inl rfl, KeptP.refl _ _⟩
  · obtain ⟨b, rfl, h1, h2, hb⟩ : ∃ b, a = some ⟨b, 0, none⟩ ∧ lo ≤ b ∧ b < hi ∧ Blk w b (n * 4) c := by
      rcases ha with h | h
      · exact absurd h h0n
      · exact h
    have HX : Hid (lo ≤ b ∧ b < hi) := ⟨h1, h2⟩
    have HB0 : Hid (Blk w b (n * 4) c) := hb
    have HBW : Hid (b < w.heap.size) := hb.lt
    clear ha hb h1 h2
    go_enter Try.func64, Try.ntmps64
    go_wp2
    go_loopw [5, 1] (fun i x wr => ∃ k : Nat, i = .int .i64 k ∧ x = .int .i64 ((K + k * 4 : Nat) : Int) ∧ k ≤ n ∧ Hid (Blk wr b (n * 4) (fun j => if j < k * 4 then mkF K j else c j)) ∧ Hid (KeptP (fun c => lo ≤ c ∧ c < hi) w wr)) (fun i _ _ => n - (intOf i).toNat)
    case atStart => exact ⟨0, rfl, by simp, by omega, HB0.out.congr (fun j hj => by rw [if_neg (by omega)]), KeptP.refl _ _⟩
    case round =>
      obtain ⟨k, rfl, rfl, hk, HP, HL⟩ := hrel
      by_cases hlt : k < n
      · have hlt1 : (k : Int) < (n : Int) := by omega
        have hlt0 : (0 : Int) ≤ (k : Int) := by omega
        obtain ⟨q, HQ⟩ : ∃ q : Nat, Hid (q = K + k * 4) := ⟨_, rfl⟩
        rw [← HQ.out]
        have hq1 : 0 < q := by have := HQ.out; omega
        have hq2 : q ≤ 100000000 := by have := HQ.out; omega
        go_wp2_with fail
        refine (markText_any q wr hq1 (by omega)).mono ?_
        rintro e v0 ⟨rfl, HV0⟩
        have HPa0 : Hid (Blk v0 b (n * 4) (fun j => if j < k * 4 then mkF K j else c j)) := HP.out.of_block (HV0.out.block _ HP.out.lt)
        have HLa0 : Hid (KeptP (fun c => lo ≤ c ∧ c < hi) w v0) := HL.out.trans (KeptP.of_below HV0.out (fun _ hk _ => hk))
        have hd0 := HPa0.out.cell (i := k * 4) (by omega)
        have hf0 := Blk.frozen HPa0.out (k * 4)
        obtain ⟨u0, HU0⟩ : ∃ V, Hid (V = v0.setCell ⟨b, k * 4, none⟩ (.string (markS q))) := ⟨_, rfl⟩
        clear HV0 HP HL
        go_upto_region 5 with fail
        first | rw [← HU0.out] | (rw [show _ = u0 from HU0.out.symm]) | skip
        have HP0x : Hid (Blk u0 b (n * 4) (fun j => if j = k * 4 then .string (markS q) else ((fun j => if j < k * 4 then mkF K j else c j)) j)) := by rw [HU0.out]; exact Blk.set HPa0.out (k * 4) (by omega) _
        have HL0x : Hid (KeptP (fun c => lo ≤ c ∧ c < hi) w u0) := by rw [HU0.out]; exact HLa0.out.setCell HX.out _
        clear HU0 hd0 hf0 HPa0 HLa0
        have hd1 := HP0x.out.cell (i := k * 4 + 1) (by omega)
        have hf1 := Blk.frozen HP0x.out (k * 4 + 1)
        obtain ⟨u1, HU1⟩ : ∃ V, Hid (V = u0.setCell ⟨b, k * 4 + 1, none⟩ (.int .i64 ((q : Int) + 1))) := ⟨_, rfl⟩
        go_upto_region 7 with fail
        first | rw [← HU1.out] | (rw [show _ = u1 from HU1.out.symm]) | skip
        have HP1x : Hid (Blk u1 b (n * 4) (fun j => if j = k * 4 + 1 then .int .i64 ((q : Int) + 1) else ((fun j => if j = k * 4 then .string (markS q) else ((fun j => if j < k * 4 then mkF K j else c j)) j)) j)) := by rw [HU1.out]; exact Blk.set HP0x.out (k * 4 + 1) (by omega) _
        have HL1x : Hid (KeptP (fun c => lo ≤ c ∧ c < hi) w u1) := by rw [HU1.out]; exact HL0x.out.setCell HX.out _
        clear HU1 hd1 hf1 HP0x HL0x
        go_wp2_with fail
        refine (markText_at (q + 2) ((q : Int) + 1 + 1) u1 (by omega) (by omega) (by omega)).mono ?_
        rintro e v2 ⟨rfl, HV2⟩
        have HPa2 : Hid (Blk v2 b (n * 4) (fun j => if j = k * 4 + 1 then .int .i64 ((q : Int) + 1) else ((fun j => if j = k * 4 then .string (markS q) else ((fun j => if j < k * 4 then mkF K j else c j)) j)) j)) := HP1x.out.of_block (HV2.out.block _ HP1x.out.lt)
        have HLa2 : Hid (KeptP (fun c => lo ≤ c ∧ c < hi) w v2) := HL1x.out.trans (KeptP.of_below HV2.out (fun _ hk _ => hk))
        have hd2 := HPa2.out.cell (i := k * 4 + 2) (by omega)
        have hf2 := Blk.frozen HPa2.out (k * 4 + 2)
        obtain ⟨u2, HU2⟩ : ∃ V, Hid (V = v2.setCell ⟨b, k * 4 + 2, none⟩ (.string (markS (q + 2)))) := ⟨_, rfl⟩
        clear HV2 HP1x HL1x
        go_upto_region 9 with fail
        first | rw [← HU2.out] | (rw [show _ = u2 from HU2.out.symm]) | skip
        have HP2x : Hid (Blk u2 b (n * 4) (fun j => if j = k * 4 + 2 then .string (markS (q + 2)) else ((fun j => if j = k * 4 + 1 then .int .i64 ((q : Int) + 1) else ((fun j => if j = k * 4 then .string (markS q) else ((fun j => if j < k * 4 then mkF K j else c j)) j)) j)) j)) := by rw [HU2.out]; exact Blk.set HPa2.out (k * 4 + 2) (by omega) _
        have HL2x : Hid (KeptP (fun c => lo ≤ c ∧ c < hi) w u2) := by rw [HU2.out]; exact HLa2.out.setCell HX.out _
        clear HU2 hd2 hf2 HPa2 HLa2
        have hd3 := HP2x.out.cell (i := k * 4 + 3) (by omega)
        have hf3 := Blk.frozen HP2x.out (k * 4 + 3)
        obtain ⟨u3, HU3⟩ : ∃ V, Hid (V = u2.setCell ⟨b, k * 4 + 3, none⟩ (.int .i64 ((q : Int) + 1 + 1 + 1))) := ⟨_, rfl⟩
        go_upto_region 11 with fail
        first | rw [← HU3.out] | (rw [show _ = u3 from HU3.out.symm]) | skip
        have HP3x : Hid (Blk u3 b (n * 4) (fun j => if j = k * 4 + 3 then .int .i64 ((q : Int) + 1 + 1 + 1) else ((fun j => if j = k * 4 + 2 then .string (markS (q + 2)) else ((fun j => if j = k * 4 + 1 then .int .i64 ((q : Int) + 1) else ((fun j => if j = k * 4 then .string (markS q) else ((fun j => if j < k * 4 then mkF K j else c j)) j)) j)) j)) j)) := by rw [HU3.out]; exact Blk.set HP2x.out (k * 4 + 3) (by omega) _
        have HL3x : Hid (KeptP (fun c => lo ≤ c ∧ c < hi) w u3) := by rw [HU3.out]; exact HL2x.out.setCell HX.out _
        clear HU3 hd3 hf3 HP2x HL2x
        have HFIN : Hid (Blk u3 b (n * 4) (fun j => if j < (k + 1) * 4 then mkF K j else c j)) := by
          refine HP3x.out.congr fun j hj => ?_
          dsimp only
          by_cases e3 : j = k * 4 + 3
          · subst e3; rw [if_pos rfl]; rw [if_pos (show k * 4 + 3 < (k + 1) * 4 by omega)]; unfold mkF; rw [if_neg (by omega), show K + (k * 4 + 3) = q + 3 by have := HQ.out; omega]; congr 1
          rw [if_neg e3]
          by_cases e2 : j = k * 4 + 2
          · subst e2; rw [if_pos rfl]; rw [if_pos (show k * 4 + 2 < (k + 1) * 4 by omega)]; unfold mkF; rw [if_pos (by omega), show K + (k * 4 + 2) = q + 2 by have := HQ.out; omega]
          rw [if_neg e2]
          by_cases e1 : j = k * 4 + 1
          · subst e1; rw [if_pos rfl]; rw [if_pos (show k * 4 + 1 < (k + 1) * 4 by omega)]; unfold mkF; rw [if_neg (by omega), show K + (k * 4 + 1) = q + 1 by have := HQ.out; omega]; congr 1
          rw [if_neg e1]
          by_cases e0 : j = k * 4
          · subst e0; rw [if_pos rfl]; rw [if_pos (show k * 4 < (k + 1) * 4 by omega)]; unfold mkF; rw [if_pos (by omega), ← HQ.out]
          rw [if_neg e0]
          by_cases e9 : j < k * 4
          · rw [if_pos e9, if_pos (by omega)]
          · rw [if_neg e9, if_neg (by omega)]
        go_wp2
        go_roundw
        case rel => exact ⟨k + 1, by go_num, by have h9 := HQ.out; first | (go_num; omega) | (congr 1; push_cast; omega), by omega, HFIN, HL3x⟩
        case measure => simp [intOf]; omega
      · obtain rfl : k = n := by omega
        go_wp2
        go_ret
        exact ⟨rfl, .inr ⟨b, rfl, HX.out.1, HX.out.2, HP.out.congr fun j hj => by rw [if_pos hj]⟩, HL⟩

set_option maxHeartbeats 2000000 in
theorem markQuery_any (lo hi : Nat) (e : Bool) (a b c : Option Addr) (n1 c1 n2 c2 n3 c3 K : Nat) (f1 f2 f3 : Nat → Value) (w : World) (ha : QOwn lo hi w a b c n1 n2 n3 f1 f2 f3) (hh : hi ≤ w.heap.size) (hz : n1 ≤ 1048576 ∧ n2 ≤ 1048576 ∧ n3 ≤ 1048576) (h0 : 0 < K) (hK : K ≤ 8) :
    Calls Try.prog 25 #[qv e a n1 c1 b n2 c2 c n3 c3, .int .i64 (K : Int)] w fun e w' => ∃ m : Nat, e = .returned (.int .i64 (m : Int)) ∧ Hid (m = K + n1 + n2 * 3 + n3 * 4) ∧ Hid (QOwn lo hi w' a b c n1 n2 n3 (mkT K) (mkT (K + n1)) (mkF (K + n1 + n2 * 3))) ∧ Hid (KeptP (fun c => lo ≤ c ∧ c < hi) w w') := by
  obtain ⟨m1, m2, hm, ha1, ha2, ha3⟩ := ha
  obtain ⟨B, HB⟩ : ∃ B, Hid (B = w.heap.size) := ⟨_, rfl⟩
  obtain ⟨W, HW⟩ : ∃ W, Hid (W = w.alloc (.cells #[.bool e, .slice a n1 c1, .slice b n2 c2, .slice c n3 c3] 52)) := ⟨_, rfl⟩
  have HBW : Hid (Below w.heap.size w W) := by rw [HW.out]; exact below1 w _
  have HKW : Hid (KeptP (fun c => lo ≤ c ∧ c < hi) w W) := KeptP.of_below HBW.out (fun _ hk _ => hk)
  have HQ : Hid (Blk W B 4 (q4 (.bool e) (.slice a n1 c1) (.slice b n2 c2) (.slice c n3 c3))) := by rw [HW.out]; exact blk_four w B HB.out _ _ _ _ _
  have HA1 : Hid (FlOwn 1 lo m1 W a n1 f1) := ha1.below HBW.out (by omega)
  have HA2 : Hid (FlOwn 3 m1 m2 W b n2 f2) := ha2.below HBW.out (by omega)
  have HA3 : Hid (FlOwn 4 m2 hi W c n3 f3) := ha3.below HBW.out hh
  have HHB : Hid (hi ≤ B) := by rw [HB.out]; exact hh
  have HMM : Hid (lo ≤ m1 ∧ m1 ≤ m2 ∧ m2 ≤ hi) := hm
  clear ha1 ha2 ha3 hh hm
  obtain ⟨q0, q1, q2, q3⟩ := q_cells HQ.out
  go_enter Try.func25, Try.ntmps25
  go_upto_region 1 with fail
  rw [← HB.out, ← HW.out]
  clear HW
  go_wp2_with fail
  refine (markStringS_any lo m1 a n1 c1 K f1 W HA1.out (by omega) h0 (by omega)).mono ?_
  rintro e1 w1 ⟨rfl, HX1, HK1⟩
  obtain ⟨k1, HE1⟩ : ∃ k, Hid (k = K + n1 * 1) := ⟨_, rfl⟩
  rw [← HE1.out]
  have hk1 : 0 < k1 ∧ k1 ≤ 1048584 := by have := HE1.out; omega
  have HQ1 : Hid (Blk w1 B 4 (q4 (.bool e) (.slice a n1 c1) (.slice b n2 c2) (.slice c n3 c3))) := HK1.out.blk HQ.out (by have := HHB.out; have := HMM.out; omega)
  have HA21 : Hid (FlOwn 3 m1 m2 w1 b n2 f2) := HA2.out.kept HK1.out (fun k h1 h2 => by omega)
  have HA31 : Hid (FlOwn 4 m2 hi w1 c n3 f3) := HA3.out.kept HK1.out (fun k h1 h2 => by have := HMM.out; omega)
  have HKW1 : Hid (KeptP (fun c => lo ≤ c ∧ c < hi) w w1) := HKW.out.trans (HK1.out.mono (fun k h => by have := HMM.out; omega))
  clear q0 q1 q2 q3 HK1 HA1 HA2 HA3
  obtain ⟨q0, q1, q2, q3⟩ := q_cells HQ1.out
  go_wp2_with fail
  refine (markAtomS_any m1 m2 b n2 c2 k1 f2 w1 HA21.out hz.2.1 hk1.1 (by omega)).mono ?_
  rintro e2 w2 ⟨rfl, HX2, HK2⟩
  obtain ⟨k2, HE2⟩ : ∃ k, Hid (k = k1 + n2 * 3) := ⟨_, rfl⟩
  rw [← HE2.out]
  have hk2 : 0 < k2 ∧ k2 ≤ 4194400 := by have := HE2.out; omega
  have HQ2 : Hid (Blk w2 B 4 (q4 (.bool e) (.slice a n1 c1) (.slice b n2 c2) (.slice c n3 c3))) := HK2.out.blk HQ1.out (by have := HHB.out; have := HMM.out; omega)
  have HX12 : Hid (FlOwn 1 lo m1 w2 a n1 (mkT K)) := HX1.out.kept HK2.out (fun k h1 h2 => by omega)
  have HA32 : Hid (FlOwn 4 m2 hi w2 c n3 f3) := HA31.out.kept HK2.out (fun k h1 h2 => by omega)
  have HKW2 : Hid (KeptP (fun c => lo ≤ c ∧ c < hi) w w2) := HKW1.out.trans (HK2.out.mono (fun k h => by have := HMM.out; omega))
  clear q0 q1 q2 q3 HK2 HX1 HA21 HA31
  obtain ⟨q0, q1, q2, q3⟩ := q_cells HQ2.out
  go_wp2_with fail
  refine (markFilterS_any m2 hi c n3 c3 k2 f3 w2 HA32.out hz.2.2 hk2.1 (by omega)).mono ?_
  rintro e3 w3 ⟨rfl, HX3, HK3⟩
  obtain ⟨k3, HE3⟩ : ∃ k, Hid (k = k2 + n3 * 4) := ⟨_, rfl⟩
  rw [← HE3.out]
  have HX13 : Hid (FlOwn 1 lo m1 w3 a n1 (mkT K)) := HX12.out.kept HK3.out (fun k h1 h2 => by have := HMM.out; omega)
  have HX23 : Hid (FlOwn 3 m1 m2 w3 b n2 (mkT k1)) := HX2.out.kept HK3.out (fun k h1 h2 => by omega)
  have HKW3 : Hid (KeptP (fun c => lo ≤ c ∧ c < hi) w w3) := HKW2.out.trans (HK3.out.mono (fun k h => by have := HMM.out; omega))
  clear q0 q1 q2 q3 HK3 HX12 HX2
  have e1 : k1 = K + n1 := by rw [HE1.out]; omega
  have e2 : k2 = K + n1 + n2 * 3 := by rw [HE2.out, e1]
  rw [e1] at HX23
  rw [e2] at HX3
  clear hk1 hk2
  go_wp2
  go_ret
  exact ⟨k3, rfl, by show _ = _; rw [HE3.out, e2], ⟨m1, m2, HMM.out, HX13.out, HX23.out, HX3.out⟩, HKW3⟩

set_option maxHeartbeats 2000000 in
set_option maxRecDepth 100000 in
theorem heldStringS_any (lo hi : Nat) (a : Option Addr) (n cap K : Nat) (w : World) (ha : FlIn 1 lo hi w a n (mkT K)) (hh : hi ≤ w.heap.size) (hm : n ≤ 2097152) (h0 : 0 < K) (hK : K ≤ 16777216) :
    Calls Try.prog 27 #[.slice a n cap, .int .i64 (K : Int)] w fun e w' => e = .returned (.int .i64 ((K + n : Nat) : Int)) ∧ Hid (Below w.heap.size w w') := by
  have HA : Hid (FlIn 1 lo hi w a n (mkT K)) := ha
  have HH : Hid (hi ≤ w.heap.size) := hh
  clear ha hh
  go_enter Try.func27, Try.ntmps27
  go_wp2
  go_loopw [5, 1] (fun i x wr => ∃ k : Nat, i = .int .i64 k ∧ x = .int .i64 ((K + k : Nat) : Int) ∧ k ≤ n ∧ Hid (Below w.heap.size w wr)) (fun i _ _ => n - (intOf i).toNat)
  case atStart => exact ⟨0, rfl, by simp, by omega, Below.refl _ _⟩
  case round =>
    obtain ⟨k, rfl, rfl, hk, HL⟩ := hrel
    by_cases hlt : k < n
    · have hlt1 : (k : Int) < (n : Int) := by omega
      have hlt0 : (0 : Int) ≤ (k : Int) := by omega
      obtain ⟨b, o, rfl, _, _, hc⟩ := (HA.out.below HL.out HH.out).at hlt
      have p0 := hc 0 (by omega)
      rw [Nat.mul_one, Nat.add_zero] at p0
      obtain ⟨q, HQ⟩ : ∃ q : Nat, Hid (q = K + k) := ⟨_, rfl⟩
      have hq1 : 0 < q := by have := HQ.out; omega
      have hq2 : q ≤ 100000000 := by have := HQ.out; omega
      unfold mkT at p0
      rw [← HQ.out] at p0 ⊢
      obtain ⟨M, HM⟩ : ∃ M, Hid (M = markS q) := ⟨_, rfl⟩
      rw [← HM.out] at p0
      have HP0 : Hid (wr.cell? ⟨b, o + k, none⟩ = some (.string M)) := p0
      have HC : Hid (∀ w0, Below wr.heap.size wr w0 → Calls Try.prog 65 #[.int .i64 (q : Int)] w0 fun e w' => e = .returned (.string M) ∧ Hid (Below wr.heap.size wr w') ∧ w'.cell? ⟨b, o + k, none⟩ = some (.string M)) := fun w0 h =>
        (markText_any q w0 hq1 (by omega)).mono fun _ _ ⟨h1, h2⟩ =>
          have hk := h.trans (h2.out.mono h.size)
          ⟨by rw [HM.out]; exact h1, hk, cell_below HP0.out hk (lt_of_cell HP0.out)⟩
      have hmm : (M.toList == M.toList) = true := by simp
      clear hc
      go_wp2_with fail
      go_region_held3 (fun w' => w'.cell? ⟨b, o + k, none⟩ = some (.string M)) (first | exact p0 | exact hk1) (first | (go_at_call 65; refine (HC.out _ ((Below.refl _ _).drew)).mono ?_; rintro e w1 ⟨rfl, HB1, hk1⟩))
      have HL1 : Hid (Below w.heap.size w w1) := HL.out.trans (HB1.out.mono HL.out.size)
      first | rw [show (!M.toList == M.toList) = false by simp] | skip
      go_wp2
      go_roundw
      case rel => exact ⟨k + 1, by go_num, by have h9 := HQ.out; first | (go_num; omega) | (congr 1; push_cast; omega), by omega, HL1⟩
      case measure => simp [intOf]; omega
    · obtain rfl : k = n := by omega
      go_wp2
      go_ret
      exact ⟨rfl, HL⟩
end Go.Proofs.Ytkcflhlipdnbnaa
