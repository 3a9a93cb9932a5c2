/-
  Where a shape leads: leadsOf_star.
-/
import Derived.Test.YtdbogikcmfnpdaaLdE
namespace Go.Proofs.Ytdbogikcmfnpdaa
open Go.RowKit

set_option maxHeartbeats 4000000 in
set_option maxRecDepth 100000 in
theorem leadsOf_star (NN : Nat) (k : Nat) (av fv : Value) (kk : Nat) (fs : Nat → Nat → Nat) (all : List Rl) (w : World) (hN12 : NN ≤ 13)
    (hah : AhIn w av kk fs) (hAh : Ahead NN all kk fs) (hk : k < kk) :
    Calls Try.prog 88 #[.iface 144 (.agg #[.int .i64 (k : Int)]), av, fv] w fun e w' => (∃ h, e = .returned (lv h) ∧ Hid (Rep NN h (starR NN (getR all (k : Int)))) ∧ Hid (∀ i, i < 13 → h i < 65536)) ∧ Hid (Below w.heap.size w w') := by
  have HAI : Hid (AhIn w av kk fs) := hah
  have HAH : Hid (Ahead NN all kk fs) := hAh
  clear hah hAh
  obtain ⟨B, HB⟩ : ∃ B, Hid (B = w.heap.size) := ⟨_, rfl⟩
  obtain ⟨W, HW⟩ : ∃ W, Hid (W = (w.alloc (.cells #[.int .u16 0, .int .u16 0, .int .u16 0, .int .u16 0, .int .u16 0, .int .u16 0, .int .u16 0, .int .u16 0, .int .u16 0, .int .u16 0, .int .u16 0, .int .u16 0, .int .u16 0] 87)).alloc (.cells #[.int .i64 (k : Int)] 144)) := ⟨_, rfl⟩
  have HBW : Hid (Below w.heap.size w W) := by rw [HW.out]; exact below2 w _ _
  have HSW : Hid (W.heap.size = B + 2) := by rw [HW.out, HB.out]; show _ = _; simp
  have HZ : Hid (LBlk W B (fun _ => 0)) := by rw [HW.out]; exact Blk.alloc (LBlk.zero w B HB.out _) _
  have HS8 : Hid (Blk W (B + 1) 1 (fun _ => .int .i64 (k : Int))) := by rw [HW.out]; exact blk_one _ (B + 1) (by rw [HB.out]; simp) _ _
  have ta0 := fun v w => ta_star_step v w
  have ta1 := fun v w => ta_star_row v w
  have ta2 := fun v w => ta_star_alt v w
  have ta3 := fun v w => ta_star_star v w
  have hkk1 : (k : Int) < (kk : Int) := by omega
  have hkk0 : (0 : Int) ≤ (k : Int) := by omega
  obtain ⟨g, cg, rfl, hgl, hrg⟩ := HAI.out.at hk
  have HGB : Hid (g < B) := by rw [HB.out]; exact hgl
  have HRG : Hid (W.rangeAt g (k * 13) (lcells (fs k))) := range_of hrg (HBW.out.block _ hgl)
  have HRK : Hid (Rep NN (fs k) (getR all (k : Int))) := HAH.out.rep k hk
  have HLK : Hid (∀ i, i < 13 → fs k i < 65536) := HAH.out.lt k hk
  have s0 := HS8.out.cell (i := 0) (by omega)
  clear hgl hrg
  go_enter Try.func88, Try.ntmps88
  obtain ⟨FF, HFF⟩ : ∃ F : Func, Hid (F = Try.f88) := ⟨_, rfl⟩
  rw [← HFF.out]
  go_upto_region 25 with fail
  rw [← HB.out, ← HW.out]
  clear HW
  go_wp2_with (with_reducible refine wpList_here ?_; refine wpList_load_mid rfl 87 _ rfl g (k * 13) rfl (lcells (fs k)) _ HRG.out Try.underlying87 rfl (by rw [lcells_len]; exact info_leads) ?_)
  refine (again_any NN (getR all (k : Int)) (fs k) _ hN12 HRK.out HLK.out).mono ?_
  rintro e w2 ⟨⟨h, rfl, HHR, HHL⟩, HB2⟩
  have HZ2 : Hid (LBlk w2 B (fun _ => 0)) := HZ.out.of (HB2.out.block _ HZ.out.lt)
  have HBE2 : Hid (Below w.heap.size w w2) := HBW.out.trans (HB2.out.mono HBW.out.size)
  go_wp2_with (with_reducible refine wpList_here ?_; refine wpList_store_mid rfl 87 _ _ rfl B 0 (lcells h).toArray rfl rfl (by rw [lcells_size]; exact HZ2.out.there) (by rw [lcells_size]; exact info_leads) (lcells_one _) ?_)
  obtain rfl : FF = Try.f88 := HFF.out
  refine bodyPost_ret (results_row (k := 6) (t := 87) (b := B) Try.results88 rfl (load_leads (HZ2.out.put h))) rfl ?_
  exact ⟨⟨h, rfl, HHR, HHL⟩, Below.setCells (by have := HB.out; omega) _ _ HBE2.out⟩

end Go.Proofs.Ytdbogikcmfnpdaa
