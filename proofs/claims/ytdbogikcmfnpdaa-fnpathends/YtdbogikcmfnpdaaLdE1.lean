/-
  Where a shape leads: a step, in a graph and in a word.
-/
import Derived.Test.YtdbogikcmfnpdaaLdE
namespace Go.Proofs.Ytdbogikcmfnpdaa
open Go.RowKit

set_option maxHeartbeats 4000000 in
set_option maxRecDepth 100000 in
theorem leadsOf_stepG (NN : Nat) (s : Int) (a : Option Addr) (n cap : Nat) (av : Value) (c : Int) (R : Rl) (w : World)
    (hst : ∀ w0, Below w.heap.size w w0 → Calls Try.prog 73 #[gv s a n cap, .int .u8 c] w0 fun e w' => (∃ h, e = .returned (lv h) ∧ Hid (Rep NN h R) ∧ Hid (∀ i, i < 13 → h i < 65536)) ∧ Hid (Below w0.heap.size w0 w')) :
    Calls Try.prog 88 #[.iface 135 (.agg #[.int .u8 c]), av, .func (.func 73) #[gv s a n cap] #[]] w fun e w' => (∃ h, e = .returned (lv h) ∧ Hid (Rep NN h R) ∧ Hid (∀ i, i < 13 → h i < 65536)) ∧ Hid (Below w.heap.size w w') := by
  have HST : Hid (∀ w0, Below w.heap.size w w0 → Calls Try.prog 73 #[gv s a n cap, .int .u8 c] w0 fun e w' => (∃ h, e = .returned (lv h) ∧ Hid (Rep NN h R) ∧ Hid (∀ i, i < 13 → h i < 65536)) ∧ Hid (Below w0.heap.size w0 w')) := hst
  clear hst
  obtain ⟨B, HB⟩ : ∃ B, Hid (B = w.heap.size) := ⟨_, rfl⟩
  obtain ⟨W, HW⟩ : ∃ W, Hid (W = (w.alloc (.cells #[.int .u16 0, .int .u16 0, .int .u16 0, .int .u16 0, .int .u16 0, .int .u16 0, .int .u16 0, .int .u16 0, .int .u16 0, .int .u16 0, .int .u16 0, .int .u16 0, .int .u16 0] 87)).alloc (.cells #[.int .u8 c] 135)) := ⟨_, rfl⟩
  have HBW : Hid (Below w.heap.size w W) := by rw [HW.out]; exact below2 w _ _
  have HZ : Hid (LBlk W B (fun _ => 0)) := by rw [HW.out]; exact Blk.alloc (LBlk.zero w B HB.out _) _
  have HS8 : Hid (Blk W (B + 1) 1 (fun _ => .int .u8 c)) := by rw [HW.out]; exact blk_one _ (B + 1) (by rw [HB.out]; simp) _ _
  have ta0 := fun v w => ta_step_step v w
  have s0 := HS8.out.cell (i := 0) (by omega)
  go_enter Try.func88, Try.ntmps88
  obtain ⟨FF, HFF⟩ : ∃ F : Func, Hid (F = Try.f88) := ⟨_, rfl⟩
  rw [← HFF.out]
  go_upto_region 4 with fail
  rw [← HB.out, ← HW.out]
  clear HW
  go_wp2_with fail
  refine (HST.out _ HBW.out).mono ?_
  rintro e w2 ⟨⟨h, rfl, HHR, HHL⟩, HB2⟩
  have HZ2 : Hid (LBlk w2 B (fun _ => 0)) := HZ.out.of (HB2.out.block _ HZ.out.lt)
  have HBE2 : Hid (Below w.heap.size w w2) := HBW.out.trans (HB2.out.mono HBW.out.size)
  go_wp2_with (with_reducible refine wpList_here ?_; refine wpList_store_mid rfl 87 _ _ rfl B 0 (lcells h).toArray rfl rfl (by rw [lcells_size]; exact HZ2.out.there) (by rw [lcells_size]; exact info_leads) (lcells_one _) ?_)
  obtain rfl : FF = Try.f88 := HFF.out
  refine bodyPost_ret (results_row (k := 6) (t := 87) (b := B) Try.results88 rfl (load_leads (HZ2.out.put h))) rfl ?_
  exact ⟨⟨h, rfl, HHR, HHL⟩, Below.setCells (by have := HB.out; omega) _ _ HBE2.out⟩

end Go.Proofs.Ytdbogikcmfnpdaa
