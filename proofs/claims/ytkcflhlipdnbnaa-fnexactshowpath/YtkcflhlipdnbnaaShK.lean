/-
  The program's text of a piece.
-/
import Derived.Test.YtkcflhlipdnbnaaShJ
import Derived.Laws.Runes
namespace Go.Proofs.Ytkcflhlipdnbnaa
open Go.RowKit

set_option maxHeartbeats 1000000 in
set_option maxRecDepth 100000 in
theorem text_any (lo hi lo2 hi2 : Nat) (b : Option Addr) (m mc : Nat) (ps : List Pc) (a : Option Addr) (k ct : Nat) (TS : List Tx) (x0 x1 : Int) (ra : Option Addr) (q rc : Nat) (ks : List Int) (r : Tx) (w : World) (ha : PathIn lo hi w b ps) (hh : hi ≤ w.heap.size) (hn : ps.length = m) (hk : k ≤ m) (hT : FlIn 1 lo2 hi2 w a k (tC TS)) (hh2 : hi2 ≤ w.heap.size) (hrow : RowIn lo hi w ra ks) (hq : ks.length = q) (hql : q ≤ 1048576) (hko : kidsOk k ks = true) (hfo : formOk (x0, x1, ks) = true) (hsz : ∀ z, z < k → (tat TS z).size ≤ 20) (hr : r = pcT TS ps (x0, x1, ks)) :
    Calls Try.prog 72 #[shwV b m mc a k ct, .agg #[.int .i64 x0, .int .u8 x1, .slice ra q rc]] w fun e w' => e = .returned (.string r) ∧ Hid (Below w.heap.size w w') := by
  obtain ⟨B, HB⟩ : ∃ B, Hid (B = w.heap.size) := ⟨_, rfl⟩
  obtain ⟨W, HW⟩ : ∃ W, Hid (W = (w.alloc (.cells #[.slice b m mc, .slice a k ct] 118)).alloc (.cells #[.int .i64 x0, .int .u8 x1, .slice ra q rc] 120)) := ⟨_, rfl⟩
  have HBW : Hid (Below w.heap.size w W) := by rw [HW.out]; exact below2 w _ _
  have HSW : Hid (W.heap.size = B + 2) := by rw [HW.out, HB.out]; show _ = _; simp
  have HPB : Hid (Blk W B 2 (fun i => if i = 0 then .slice b m mc else .slice a k ct)) := by rw [HW.out]; exact (blk_two w B HB.out _ _ _).alloc _
  have HXB : Hid (Blk W (B + 1) 3 (fun i => if i = 0 then .int .i64 x0 else if i = 1 then .int .u8 x1 else .slice ra q rc)) := by rw [HW.out]; exact blk_three _ (B + 1) (by rw [HB.out]; simp) _ _ _ _
  have HCC : Hid (∀ (bt bh : Tx) w0, Below w.heap.size w w0 → bt = (if x0 = 3 then barT else emT) → bh = behT x0 → ¬ x0 = 1 → Calls Try.prog 94 #[.agg #[.slice b m mc, .slice a k ct], .agg #[.int .i64 x0, .int .u8 x1, .slice ra q rc], .string bt, .string bh] w0 fun e w' => e = .returned (.string r) ∧ Hid (Below w0.heap.size w0 w')) := fun bt bh w0 h h1 h2 h3 =>
    kids_any lo hi lo2 hi2 b m mc ps a k ct TS x0 x1 ra q rc ks bt bh r w0 (ha.below h hh) (Nat.le_trans hh h.size) hn hk (hT.below h hh2) (Nat.le_trans hh2 h.size) (hrow.below h hh) hq hql hko hsz h1 h2 (by rw [hr]; unfold pcT; rw [if_neg h3])
  have HR : Hid (x0 = 1 → r = ⟨#[UInt8.ofNat x1.toNat]⟩) := fun h => by rw [hr]; unfold pcT; rw [if_pos h]
  have hform := formOk_cases hfo
  clear ha hh hn hk hT hh2 hrow hql hko hsz hr hfo
  obtain ⟨c0, c1⟩ : W.cell? ⟨B, 0, none⟩ = some (.slice b m mc) ∧ W.cell? ⟨B, 1, none⟩ = some (.slice a k ct) := ⟨HPB.out.cell (i := 0) (by omega), HPB.out.cell (i := 1) (by omega)⟩
  obtain ⟨c2, c3, c4⟩ : W.cell? ⟨B + 1, 0, none⟩ = some (.int .i64 x0) ∧ W.cell? ⟨B + 1, 1, none⟩ = some (.int .u8 x1) ∧ W.cell? ⟨B + 1, 2, none⟩ = some (.slice ra q rc) := ⟨HXB.out.cell (i := 0) (by omega), HXB.out.cell (i := 1) (by omega), HXB.out.cell (i := 2) (by omega)⟩
  unfold shwV
  go_enter Try.func72, Try.ntmps72
  go_upto_region 1 with fail
  rw [← HB.out]
  first | rw [← HW.out] | (rw [show _ = W from HW.out.symm])
  clear HW HPB HXB
  rcases hform with ⟨rfl, h3, h4⟩ | h23
  · have hl := isL_yes h3
    have HRE : Hid (r = ⟨#[UInt8.ofNat x1.toNat]⟩) := HR.out rfl
    rcases (show x1 = 97 ∨ x1 = 98 ∨ x1 = 99 ∨ x1 = 100 by omega) with h | h | h | h
    all_goals
      subst h
      go_wp2
      go_ret
      exact ⟨by rw [HRE.out]; rfl, HBW⟩
  · have h56 : x0 = 2 ∨ x0 = 3 ∨ x0 = 4 ∨ x0 = 5 ∨ x0 = 6 := by omega
    clear h23
    rcases h56 with h | h | h | h | h
    · subst h
      go_wp2_with (go_at_call 94; refine (HCC.out _ _ _ HBW.out rfl rfl (by decide)).mono ?_; rintro e w4 ⟨rfl, HB4⟩)
      go_ret
      exact ⟨rfl, HBW.out.trans (HB4.out.mono HBW.out.size)⟩
    · subst h
      go_wp2_with (go_at_call 94; refine (HCC.out _ _ _ HBW.out rfl rfl (by decide)).mono ?_; rintro e w4 ⟨rfl, HB4⟩)
      go_ret
      exact ⟨rfl, HBW.out.trans (HB4.out.mono HBW.out.size)⟩
    · subst h
      have HBD : Hid (Below w.heap.size w W.drew) := HBW.out.drew
      have hwr : IntKind.i64.wrap 0 = 0 := by decide
      have hs1 : ∀ w0, (Instr.slice 9 (.string ⟨#[42, 43, 63]⟩) (some (.int .i64 0)) none none).run Try.prog w0 = .ok (.string ⟨#[42, 43, 63]⟩) w0 := fun w0 => (run_slice_string_l w0 9 _ Try.underlying9 .i64 0 (by decide) (by decide +kernel)).trans (by rfl)
      have hs2 : ∀ w0, (Instr.slice 9 (.string ⟨#[42, 43, 63]⟩) none (some (.int .i64 1)) none).run Try.prog w0 = .ok (.string ⟨#[42]⟩) w0 := fun w0 => (run_slice_string_h w0 9 _ Try.underlying9 .i64 1 (by decide) (by decide +kernel)).trans (by rfl)
      have HKS : Hid (∀ wz, Below (B + 2) W wz → (wz.cell? ⟨B, 0, none⟩ = some (.slice b m mc) ∧ wz.cell? ⟨B, 1, none⟩ = some (.slice a k ct)) ∧ wz.cell? ⟨B + 1, 0, none⟩ = some (.int .i64 4) ∧ wz.cell? ⟨B + 1, 1, none⟩ = some (.int .u8 x1) ∧ wz.cell? ⟨B + 1, 2, none⟩ = some (.slice ra q rc)) := fun wz h => ⟨⟨cell_below c0 h (by omega), cell_below c1 h (by omega)⟩, cell_below c2 h (by omega), cell_below c3 h (by omega), cell_below c4 h (by omega)⟩
      go_upto_region 8 with fail
      go_region_held3 (fun wz => (wz.cell? ⟨B, 0, none⟩ = some (.slice b m mc) ∧ wz.cell? ⟨B, 1, none⟩ = some (.slice a k ct)) ∧ wz.cell? ⟨B + 1, 0, none⟩ = some (.int .i64 4) ∧ wz.cell? ⟨B + 1, 1, none⟩ = some (.int .u8 x1) ∧ wz.cell? ⟨B + 1, 2, none⟩ = some (.slice ra q rc)) (first | exact HKS.out _ ((Below.refl _ _).drew) | exact HKS.out _ HK4.out) (first | (go_at_call 94; refine (HCC.out _ _ _ HBD.out rfl rfl (by decide)).mono ?_; rintro e w4 ⟨rfl, HB4⟩; have HK4 : Hid (Below (B + 2) W w4) := ((Below.refl (B + 2) W).drew).trans (HB4.out.mono (by have := HSW.out; simp; omega))))
      go_wp2
      go_ret
      exact ⟨rfl, HBD.out.trans (HB4.out.mono HBD.out.size)⟩
    · subst h
      have HBD : Hid (Below w.heap.size w W.drew) := HBW.out.drew
      have hwr : IntKind.i64.wrap 1 = 1 := by decide
      have hs1 : ∀ w0, (Instr.slice 9 (.string ⟨#[42, 43, 63]⟩) (some (.int .i64 1)) none none).run Try.prog w0 = .ok (.string ⟨#[43, 63]⟩) w0 := fun w0 => (run_slice_string_l w0 9 _ Try.underlying9 .i64 1 (by decide) (by decide +kernel)).trans (by rfl)
      have hs2 : ∀ w0, (Instr.slice 9 (.string ⟨#[43, 63]⟩) none (some (.int .i64 1)) none).run Try.prog w0 = .ok (.string ⟨#[43]⟩) w0 := fun w0 => (run_slice_string_h w0 9 _ Try.underlying9 .i64 1 (by decide) (by decide +kernel)).trans (by rfl)
      have HKS : Hid (∀ wz, Below (B + 2) W wz → (wz.cell? ⟨B, 0, none⟩ = some (.slice b m mc) ∧ wz.cell? ⟨B, 1, none⟩ = some (.slice a k ct)) ∧ wz.cell? ⟨B + 1, 0, none⟩ = some (.int .i64 5) ∧ wz.cell? ⟨B + 1, 1, none⟩ = some (.int .u8 x1) ∧ wz.cell? ⟨B + 1, 2, none⟩ = some (.slice ra q rc)) := fun wz h => ⟨⟨cell_below c0 h (by omega), cell_below c1 h (by omega)⟩, cell_below c2 h (by omega), cell_below c3 h (by omega), cell_below c4 h (by omega)⟩
      go_upto_region 8 with fail
      go_region_held3 (fun wz => (wz.cell? ⟨B, 0, none⟩ = some (.slice b m mc) ∧ wz.cell? ⟨B, 1, none⟩ = some (.slice a k ct)) ∧ wz.cell? ⟨B + 1, 0, none⟩ = some (.int .i64 5) ∧ wz.cell? ⟨B + 1, 1, none⟩ = some (.int .u8 x1) ∧ wz.cell? ⟨B + 1, 2, none⟩ = some (.slice ra q rc)) (first | exact HKS.out _ ((Below.refl _ _).drew) | exact HKS.out _ HK4.out) (first | (go_at_call 94; refine (HCC.out _ _ _ HBD.out rfl rfl (by decide)).mono ?_; rintro e w4 ⟨rfl, HB4⟩; have HK4 : Hid (Below (B + 2) W w4) := ((Below.refl (B + 2) W).drew).trans (HB4.out.mono (by have := HSW.out; simp; omega))))
      go_wp2
      go_ret
      exact ⟨rfl, HBD.out.trans (HB4.out.mono HBD.out.size)⟩
    · subst h
      have HBD : Hid (Below w.heap.size w W.drew) := HBW.out.drew
      have hwr : IntKind.i64.wrap 2 = 2 := by decide
      have hs1 : ∀ w0, (Instr.slice 9 (.string ⟨#[42, 43, 63]⟩) (some (.int .i64 2)) none none).run Try.prog w0 = .ok (.string ⟨#[63]⟩) w0 := fun w0 => (run_slice_string_l w0 9 _ Try.underlying9 .i64 2 (by decide) (by decide +kernel)).trans (by rfl)
      have hs2 : ∀ w0, (Instr.slice 9 (.string ⟨#[63]⟩) none (some (.int .i64 1)) none).run Try.prog w0 = .ok (.string ⟨#[63]⟩) w0 := fun w0 => (run_slice_string_h w0 9 _ Try.underlying9 .i64 1 (by decide) (by decide +kernel)).trans (by rfl)
      have HKS : Hid (∀ wz, Below (B + 2) W wz → (wz.cell? ⟨B, 0, none⟩ = some (.slice b m mc) ∧ wz.cell? ⟨B, 1, none⟩ = some (.slice a k ct)) ∧ wz.cell? ⟨B + 1, 0, none⟩ = some (.int .i64 6) ∧ wz.cell? ⟨B + 1, 1, none⟩ = some (.int .u8 x1) ∧ wz.cell? ⟨B + 1, 2, none⟩ = some (.slice ra q rc)) := fun wz h => ⟨⟨cell_below c0 h (by omega), cell_below c1 h (by omega)⟩, cell_below c2 h (by omega), cell_below c3 h (by omega), cell_below c4 h (by omega)⟩
      go_upto_region 8 with fail
      go_region_held3 (fun wz => (wz.cell? ⟨B, 0, none⟩ = some (.slice b m mc) ∧ wz.cell? ⟨B, 1, none⟩ = some (.slice a k ct)) ∧ wz.cell? ⟨B + 1, 0, none⟩ = some (.int .i64 6) ∧ wz.cell? ⟨B + 1, 1, none⟩ = some (.int .u8 x1) ∧ wz.cell? ⟨B + 1, 2, none⟩ = some (.slice ra q rc)) (first | exact HKS.out _ ((Below.refl _ _).drew) | exact HKS.out _ HK4.out) (first | (go_at_call 94; refine (HCC.out _ _ _ HBD.out rfl rfl (by decide)).mono ?_; rintro e w4 ⟨rfl, HB4⟩; have HK4 : Hid (Below (B + 2) W w4) := ((Below.refl (B + 2) W).drew).trans (HB4.out.mono (by have := HSW.out; simp; omega))))
      go_wp2
      go_ret
      exact ⟨rfl, HBD.out.trans (HB4.out.mono HBD.out.size)⟩
end Go.Proofs.Ytkcflhlipdnbnaa
