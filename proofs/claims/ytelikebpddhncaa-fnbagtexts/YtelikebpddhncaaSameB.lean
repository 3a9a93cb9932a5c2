/-
  laws.sameBag of two bags that are the same.
-/
import Derived.Test.YtelikebpddhncaaItemC
import Derived.Test.YtelikebpddhncaaMarkB
namespace Go.Proofs.Ytelikebpddhncaa
open Go.RowKit

set_option maxHeartbeats 2000000 in
set_option maxRecDepth 100000 in
theorem sameBag_any (lo hi lo' hi' : Nat) (a a' : Option Addr) (n cap cap' : Nat) (l : List It) (w : World) (ha : BagIn lo hi w a l) (hb : BagIn lo' hi' w a' l) (hh : hi ≤ w.heap.size) (hh' : hi' ≤ w.heap.size) (hn : l.length = n) (hm : n ≤ 1048576) (hr : ∀ i, i < n → (at' l i).1.length ≤ 1048576) :
    Calls Try.prog 22 #[.agg #[.slice a n cap], .agg #[.slice a' n cap']] w fun e w' => e = .returned (.bool true) ∧ Below w.heap.size w w' := by
  have HN : Hid (l.length = n) := hn
  have HA : Hid (BagIn lo hi w a l) := ha
  have HBB : Hid (BagIn lo' hi' w a' l) := hb
  have HH : Hid (hi ≤ w.heap.size ∧ hi' ≤ w.heap.size) := ⟨hh, hh'⟩
  have HQ : Hid (∀ i, i < n → (at' l i).1.length ≤ 1048576) := hr
  obtain ⟨B, HB⟩ : ∃ B, Hid (B = w.heap.size) := ⟨_, rfl⟩
  clear ha hb hn hh hh' hr
  have HK0 : Hid (Blk ((w.alloc (.cells #[.slice a n cap] 26)).alloc (.cells #[.slice a' n cap'] 26)) B 1 (fun _ => .slice a n cap)) := (blk_one w B HB.out _ _).alloc _
  have HK1 : Hid (Blk ((w.alloc (.cells #[.slice a n cap] 26)).alloc (.cells #[.slice a' n cap'] 26)) (B + 1) 1 (fun _ => .slice a' n cap')) := blk_one _ (B + 1) (by rw [HB.out]; simp) _ _
  go_enter Try.func22, Try.ntmps22
  go_wp2
  rw [← HB.out]
  go_loopw [5] (fun i wr => ∃ k : Nat, i = .int .i64 k ∧ k ≤ n ∧ Hid (Blk wr B 1 (fun _ => .slice a n cap)) ∧ Hid (Blk wr (B + 1) 1 (fun _ => .slice a' n cap')) ∧ Hid (Below w.heap.size w wr)) (fun i _ => n - (intOf i).toNat)
  case atStart => exact ⟨0, rfl, by omega, HK0, HK1, below2 w _ _⟩
  case round =>
    obtain ⟨k, rfl, hk, HKA, HKB, HL⟩ := hrel
    have q0 := HKA.out.cell (i := 0) (by omega)
    have q1 := HKB.out.cell (i := 0) (by omega)
    by_cases hlt : k < n
    · have hlt1 : (k : Int) < (n : Int) := by omega
      obtain ⟨b, o, rfl, _, _, ra, rc, hc1, hrow, hc2⟩ := (HA.out.below HL.out HH.out.1).item (k := k) (by rw [HN.out]; exact hlt)
      obtain ⟨b', o', rfl, _, _, ra', rc', hc1', hrow', hc2'⟩ := (HBB.out.below HL.out HH.out.2).item (k := k) (by rw [HN.out]; exact hlt)
      have HROW : Hid (RowIn lo hi wr ra (at' l k).1) := hrow
      have HROW' : Hid (RowIn lo' hi' wr ra' (at' l k).1) := hrow'
      obtain ⟨q, HQ1⟩ : ∃ q : Nat, Hid (q = (at' l k).1.length) := ⟨_, rfl⟩
      obtain ⟨t, HT⟩ : ∃ t : Int, Hid (t = (at' l k).2) := ⟨_, rfl⟩
      change wr.cell? _ = some (.slice ra (at' l k).1.length rc) at hc1
      change wr.cell? _ = some (.int .i64 (at' l k).2) at hc2
      change wr.cell? _ = some (.slice ra' (at' l k).1.length rc') at hc1'
      change wr.cell? _ = some (.int .i64 (at' l k).2) at hc2'
      rw [← HQ1.out] at hc1 hc1'
      rw [← HT.out] at hc2 hc2'
      clear hrow hrow'
      have hq : q ≤ 1048576 := by rw [HQ1.out]; exact HQ.out k hlt
      have HC : Hid (∀ w0, Below wr.heap.size wr w0 → Calls Try.prog 70 #[.slice ra q rc, .slice ra' q rc'] w0 fun e w' => e = .returned (.bool true) ∧ Hid (Below wr.heap.size wr w') ∧ (w'.cell? ⟨B, 0, none⟩ = some (.slice (some ⟨b, o, none⟩) n cap) ∧ w'.cell? ⟨B + 1, 0, none⟩ = some (.slice (some ⟨b', o', none⟩) n cap') ∧ w'.cell? ⟨b, o + k * 2, none⟩ = some (.slice ra q rc) ∧ w'.cell? ⟨b, o + k * 2 + 1, none⟩ = some (.int .i64 t) ∧ w'.cell? ⟨b', o' + k * 2, none⟩ = some (.slice ra' q rc') ∧ w'.cell? ⟨b', o' + k * 2 + 1, none⟩ = some (.int .i64 t))) := by
        intro w0 h
        have e1 := HH.out.1; have e2 := HH.out.2; have e3 := HL.out.size; have e4 := h.size
        refine (sameInts_any lo hi lo' hi' ra ra' q q rc rc' (at' l k).1 (at' l k).1 true w0 (HROW.out.below h (by omega)) (HROW'.out.below h (by omega)) HQ1.out.symm HQ1.out.symm hq (by simp)).mono ?_
        rintro e w' ⟨h1, h2⟩
        have hb' : Below wr.heap.size wr w' := h.trans (h2.mono e4)
        exact ⟨h1, hb', cell_below q0 hb' (lt_of_cell q0), cell_below q1 hb' (lt_of_cell q1), cell_below hc1 hb' (lt_of_cell hc1), cell_below hc2 hb' (lt_of_cell hc2), cell_below hc1' hb' (lt_of_cell hc1'), cell_below hc2' hb' (lt_of_cell hc2')⟩
      go_wp2_with fail
      go_region_held (fun w' => w'.cell? ⟨B, 0, none⟩ = some (.slice (some ⟨b, o, none⟩) n cap) ∧ w'.cell? ⟨B + 1, 0, none⟩ = some (.slice (some ⟨b', o', none⟩) n cap') ∧ w'.cell? ⟨b, o + k * 2, none⟩ = some (.slice ra q rc) ∧ w'.cell? ⟨b, o + k * 2 + 1, none⟩ = some (.int .i64 t) ∧ w'.cell? ⟨b', o' + k * 2, none⟩ = some (.slice ra' q rc') ∧ w'.cell? ⟨b', o' + k * 2 + 1, none⟩ = some (.int .i64 t)) (first | exact ⟨q0, q1, hc1, hc2, hc1', hc2'⟩ | exact hk1) ((go_at_call 70; refine (HC.out _ ((Below.refl _ _).drew)).mono ?_; rintro e w1 ⟨rfl, B1, hk1⟩))
      go_wp2
      go_roundw
      case rel => exact ⟨k + 1, by go_num, by omega, HKA.out.of_block (B1.out.block _ HKA.out.lt), HKB.out.of_block (B1.out.block _ HKB.out.lt), HL.out.trans (B1.out.mono HL.out.size)⟩
      case measure => simp [intOf]; omega
    · go_wp2
      go_ret
      exact ⟨rfl, HL.out⟩
end Go.Proofs.Ytelikebpddhncaa
