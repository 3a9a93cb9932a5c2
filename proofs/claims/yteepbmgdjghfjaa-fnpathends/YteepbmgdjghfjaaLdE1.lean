/-
  Where a shape leads: leadsOf_step.
-/
import Derived.Test.YteepbmgdjghfjaaLdE
namespace Go.Proofs.Yteepbmgdjghfjaa
open Go.RowKit

set_option maxHeartbeats 4000000 in
set_option maxRecDepth 100000 in
theorem leadsOf_step (lo hi : Nat) (a : Option Addr) (n cap : Nat) (l : List Ed) (NN : Nat) (c : Int) (av : Value) (kk : Nat) (fs : Nat → Nat → Nat) (all : List Rl) (w : World) (ha : EdgesIn lo hi w a l) (hh : hi ≤ w.heap.size) (hn : l.length = n) (hm : n ≤ 1048576) (hok : okG (NN : Int) l = true)
    (hah : AhIn w av kk fs) (hAh : Ahead NN all kk fs) :
    Calls Try.prog 90 #[gv (NN : Int) a n cap, .iface 142 (.agg #[.int .u8 c]), av] w fun e w' => (∃ h, e = .returned (lv h) ∧ Hid (Rep NN h (stepR l c)) ∧ Hid (∀ i, i < 12 → h i < 65536)) ∧ Hid (Below w.heap.size w w') := by
  have HN : Hid (l.length = n) := hn
  have HA : Hid (EdgesIn lo hi w a l) := ha
  have HH : Hid (hi ≤ w.heap.size) := hh
  have HOK : Hid (okG (NN : Int) l = true) := hok
  have HAI : Hid (AhIn w av kk fs) := hah
  have HAH : Hid (Ahead NN all kk fs) := hAh
  have hN12 : NN ≤ 12 := by have := (okG_12 hok).2; omega
  clear ha hh hn hok hah hAh
  obtain ⟨B, HB⟩ : ∃ B, Hid (B = w.heap.size) := ⟨_, rfl⟩
  obtain ⟨W, HW⟩ : ∃ W, Hid (W = ((w.alloc (.cells #[.int .i64 (NN : Int), .slice a n cap] 26)).alloc (.cells #[.int .u16 0, .int .u16 0, .int .u16 0, .int .u16 0, .int .u16 0, .int .u16 0, .int .u16 0, .int .u16 0, .int .u16 0, .int .u16 0, .int .u16 0, .int .u16 0] 93)).alloc (.cells #[.int .u8 c] 142)) := ⟨_, rfl⟩
  have HBW : Hid (Below w.heap.size w W) := by rw [HW.out]; exact below3 w _ _ _
  have HSW : Hid (W.heap.size = B + 3) := by rw [HW.out, HB.out]; show _ = _; simp
  have HG : Hid (Blk W B 2 (fun i => if i = 0 then .int .i64 (NN : Int) else .slice a n cap)) := by rw [HW.out]; exact ((blk_two w B HB.out _ _ _).alloc _).alloc _
  have HZ : Hid (LBlk W (B + 1) (fun _ => 0)) := by rw [HW.out]; exact Blk.alloc (LBlk.zero _ (B + 1) (by rw [HB.out]; simp) _) _
  have HS8 : Hid (Blk W (B + 1 + 1) 1 (fun _ => .int .u8 c)) := by rw [HW.out]; exact blk_one _ (B + 1 + 1) (by rw [HB.out]; simp) _ _
  have ta0 := fun v w => ta_step_step v w
  obtain ⟨g0, g1⟩ := blk_pair_cells HG.out
  have s0 := HS8.out.cell (i := 0) (by omega)
  go_enter Try.func90, Try.ntmps90
  obtain ⟨FF, HFF⟩ : ∃ F : Func, Hid (F = Try.f90) := ⟨_, rfl⟩
  rw [← HFF.out]
  go_upto_region 4 with fail
  rw [← HB.out, ← HW.out]
  clear HW
  go_wp2_with fail
  refine (leadsOfStep_any lo hi (NN : Int) a n cap l c NN W (HA.out.below HBW.out HH.out) (Nat.le_trans HH.out HBW.out.size) HN.out hm HOK.out rfl).mono ?_
  rintro e w2 ⟨⟨h, rfl, HHR, HHL⟩, HB2⟩
  have HZ2 : Hid (LBlk w2 (B + 1) (fun _ => 0)) := HZ.out.of (HB2.out.block _ HZ.out.lt)
  have HBE2 : Hid (Below w.heap.size w w2) := HBW.out.trans (HB2.out.mono HBW.out.size)
  go_wp2_with (with_reducible refine wpList_here ?_; refine wpList_store_mid rfl 93 _ _ rfl (B + 1) 0 (lcells h).toArray rfl rfl (by rw [lcells_size]; exact HZ2.out.there) (by rw [lcells_size]; exact info_leads) (lcells_one _) ?_)
  obtain rfl : FF = Try.f90 := HFF.out
  refine bodyPost_ret (results_row (k := 6) (t := 93) (b := B + 1) Try.results90 rfl (load_leads (HZ2.out.put h))) rfl ?_
  exact ⟨⟨h, rfl, HHR, HHL⟩, Below.setCells (by have := HB.out; omega) _ _ HBE2.out⟩

end Go.Proofs.Yteepbmgdjghfjaa
