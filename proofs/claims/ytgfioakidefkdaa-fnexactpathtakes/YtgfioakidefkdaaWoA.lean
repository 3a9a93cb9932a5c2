/-
  A word as a line of edges; where a step leads in a word (impl.inWord).
-/
import Derived.Test.YtgfioakidefkdaaLdF
import Derived.Test.YtgfioakidefkdaaRpM
import Derived.Deep.DeepCutAuto
namespace Go.Proofs.Ytgfioakidefkdaa
open Go.RowKit

/-- the edges of a word: from each place to the next -/
def lineE (T : ByteArray) (k : Nat) : List Ed := (List.range k).map fun (i : Nat) => ((i : Int), ((bt T i : Nat) : Int), ((i + 1 : Nat) : Int))
theorem lineE_len (T : ByteArray) (k : Nat) : (lineE T k).length = k := by simp [lineE]
theorem lineE_succ (T : ByteArray) (k : Nat) : lineE T (k + 1) = lineE T k ++ [((k : Int), ((bt T k : Nat) : Int), ((k + 1 : Nat) : Int))] := by simp [lineE, List.range_succ]
theorem line_step {T : ByteArray} {k i j : Nat} {c : Int} : stepR (lineE T k) c i j = true ↔ i < k ∧ j = i + 1 ∧ ((bt T i : Nat) : Int) = c := by
  rw [stepR_iff]
  unfold lineE
  rw [List.mem_map]
  constructor
  · rintro ⟨a, ha, h⟩
    have := List.mem_range.1 ha
    simp only [Prod.mk.injEq] at h
    obtain ⟨h1, h2, h3⟩ := h
    obtain rfl : a = i := by omega
    exact ⟨this, by omega, h2⟩
  · rintro ⟨h1, h2, h3⟩
    exact ⟨i, List.mem_range.2 h1, by simp only [Prod.mk.injEq]; exact ⟨trivial, h3, by omega⟩⟩
/-- bits of a step from each place -/
def wstep (T : ByteArray) (c : Int) (k : Nat) : Nat → Nat := fun i => if i < k ∧ ((bt T i : Nat) : Int) = c then 2 ^ (i + 1) else 0
theorem wstep_rep (T : ByteArray) (c : Int) (k : Nat) : Rep (k + 1) (wstep T c k) (stepR (lineE T k) c) := by
  intro i hi j
  unfold wstep
  rw [Bool.eq_iff_iff, Bool.and_eq_true, decide_eq_true_eq, line_step]
  by_cases h : i < k ∧ ((bt T i : Nat) : Int) = c
  · rw [if_pos h, Nat.testBit_two_pow, decide_eq_true_eq]
    constructor
    · intro e; exact ⟨by omega, h.1, by omega, h.2⟩
    · rintro ⟨_, _, e, _⟩; omega
  · rw [if_neg h]
    simp
    intro _ h1 _ h3
    exact h ⟨h1, h3⟩
theorem wstep_lt {T : ByteArray} {c : Int} {k i : Nat} (hi : i < 13) : wstep T c k i < 65536 := by
  unfold wstep
  split
  · have := Nat.pow_lt_pow_right (a := 2) (by omega) (show i + 1 < 16 by omega)
    simpa using this
  · omega

set_option maxHeartbeats 4000000 in
set_option maxRecDepth 100000 in
theorem inWord_any (T : ByteArray) (c : Int) (n : Nat) (w : World) (hn : T.size = n) (hm : n ≤ 12) :
    Calls Try.prog 64 #[.string T, .int .u8 c] w fun e w' => (∃ h, e = .returned (lv h) ∧ Hid (Rep (n + 1) h (stepR (lineE T n) c)) ∧ Hid (∀ i, i < 13 → h i < 65536)) ∧ Hid (Below w.heap.size w w') := by
  have HN : Hid (T.size = n) := hn
  clear hn
  obtain ⟨B, HB⟩ : ∃ B, Hid (B = w.heap.size) := ⟨_, rfl⟩
  obtain ⟨W, HW⟩ : ∃ W, Hid (W = (w.alloc (.cells #[.int .u16 0, .int .u16 0, .int .u16 0, .int .u16 0, .int .u16 0, .int .u16 0, .int .u16 0, .int .u16 0, .int .u16 0, .int .u16 0, .int .u16 0, .int .u16 0, .int .u16 0] 81)).alloc (.cells #[.int .u16 0, .int .u16 0, .int .u16 0, .int .u16 0, .int .u16 0, .int .u16 0, .int .u16 0, .int .u16 0, .int .u16 0, .int .u16 0, .int .u16 0, .int .u16 0, .int .u16 0] 81)) := ⟨_, rfl⟩
  have HBW : Hid (Below w.heap.size w W) := by rw [HW.out]; exact below2 w _ _
  have HR : Hid (LBlk W B (fun _ => 0)) := by rw [HW.out]; exact Blk.alloc (LBlk.zero w B HB.out _) _
  have HX : Hid (LBlk W (B + 1) (fun _ => 0)) := by rw [HW.out]; exact LBlk.zero _ (B + 1) (by rw [HB.out]; simp) _
  go_enter Try.func64, Try.ntmps64
  obtain ⟨FF, HFF⟩ : ∃ F : Func, Hid (F = Try.f64) := ⟨_, rfl⟩
  rw [← HFF.out]
  go_upto_region 2 with fail
  rw [← HB.out, ← HW.out]
  clear HW
  have hsz : (T.size : Int) = (n : Int) := by rw [HN.out]
  go_wp2
  go_loopw [10] (fun i wr => ∃ k : Nat, i = .int .i64 k ∧ k ≤ n ∧ Hid (LBlk wr (B + 1) (wstep T c k)) ∧ Hid (KeptP (fun b => b = B + 1) W wr)) (fun i _ => n - (intOf i).toNat)
  case atStart => exact ⟨0, rfl, by omega, HX.out.congr (fun i _ => by simp [wstep]), KeptP.refl _ _⟩
  case round =>
    obtain ⟨k, rfl, hk, HXR, HL⟩ := hrel
    by_cases hlt : k < n
    · have hlt1 : (k : Int) < (n : Int) := by omega
      have hlt0 : (0 : Int) ≤ (k : Int) := by omega
      have hkT : k < T.size := by rw [HN.out]; exact hlt
      have HBY : Hid ((T[k]'hkT).toNat = bt T k) := by show _ = _; rw [bt_lt hkT]
      have hk2 : (k : Int) < (T.size : Int) := by omega
      by_cases hc : (((T[k]'hkT).toNat : Nat) : Int) = c
      · have HST : Hid (∀ i, i < 13 → wstep T c (k + 1) i = if i = k then 2 ^ (k + 1) else wstep T c k i) := by
          intro i _
          unfold wstep
          by_cases e : i = k
          · subst e; rw [if_pos ⟨by omega, by rw [← HBY.out]; exact hc⟩, if_pos rfl]
          · rw [if_neg e]
            by_cases h2 : i < k
            · simp [h2, show i < k + 1 by omega]
            · simp [h2, show ¬ i < k + 1 by omega]
        have hw : IntKind.i64.wrap ((k : Int) + 1) = ((k + 1 : Nat) : Int) := by simp [IntKind.wrap, IntKind.bits, IntKind.signed]; omega
        have fz := Blk.frozen HXR.out k
        have c1 := HXR.out.get (k := k) (by omega)
        have hk13 : (k : Int) < 13 := by omega
        subst hc
        go_wp2_with fail
        refine (endAt_any (k + 1) _ (by omega)).mono ?_
        rintro e w1 ⟨⟨x, rfl, HXX⟩, rfl⟩
        go_wp2
        go_roundw
        case rel =>
          refine ⟨k + 1, by go_num, by omega, ?_, HL.out.setCell rfl _⟩
          exact (HXR.out.set1 (by omega) x).congr fun i hi => by rw [HST.out i hi, HXX.out]
        case measure => simp [intOf]; omega
      · have hcd : decide ((((T[k]'hkT).toNat : Nat) : Int) = c) = false := decide_eq_false hc
        have HST : Hid (∀ i, i < 13 → wstep T c (k + 1) i = wstep T c k i) := by
          intro i _
          unfold wstep
          by_cases e : i = k
          · subst e; rw [if_neg (fun h => hc (by rw [HBY.out]; exact h.2)), if_neg (fun h => hc (by rw [HBY.out]; exact h.2))]
          · by_cases h2 : i < k
            · simp [h2, show i < k + 1 by omega]
            · simp [h2, show ¬ i < k + 1 by omega]
        go_wp2
        go_roundw
        case rel =>
          exact ⟨k + 1, by go_num, by omega, HXR.out.congr (fun i hi => (HST.out i hi).symm), HL⟩
        case measure => simp [intOf]; omega
    · obtain rfl : k = n := by omega
      have HRR : Hid (LBlk wr B (fun _ => 0)) := HL.out.blk HR.out (by omega)
      have HBE : Hid (Below w.heap.size w wr) := HBW.out.trans (HL.out.to_below HBW.out.size (fun b hb => by have := HB.out; omega))
      go_wp2_with (with_reducible refine wpList_here ?_; first | (refine wpList_load_mid rfl 81 _ rfl (B + 1) 0 rfl (lcells (wstep T c k)) _ HXR.out.range Try.underlying81 rfl (by rw [lcells_len]; exact info_leads) ?_) | (refine wpList_store_mid rfl 81 _ _ rfl B 0 (lcells (wstep T c k)).toArray rfl rfl (by rw [lcells_size]; exact HRR.out.there) (by rw [lcells_size]; exact info_leads) (lcells_one _) ?_; dsimp only [Act.put]))
      obtain rfl : FF = Try.f64 := HFF.out
      refine bodyPost_ret (results_row (k := 4) (t := 81) (b := B) Try.results64 rfl (load_leads (HRR.out.put (wstep T c k)))) rfl ?_
      exact ⟨⟨wstep T c k, rfl, wstep_rep T c k, fun i hi => wstep_lt hi⟩, Below.setCells (by have := HB.out; omega) _ _ HBE.out⟩
end Go.Proofs.Ytgfioakidefkdaa
