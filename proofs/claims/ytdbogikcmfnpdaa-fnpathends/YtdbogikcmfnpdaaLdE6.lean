/-
  Where a shape leads: leadsOf_opt.
-/
import Derived.Test.YtdbogikcmfnpdaaLdE
namespace Go.Proofs.Ytdbogikcmfnpdaa
open Go.RowKit

set_option maxHeartbeats 4000000 in
set_option maxRecDepth 100000 in
theorem leadsOf_opt (NN : Nat) (k : Nat) (av fv : Value) (kk : Nat) (fs : Nat → Nat → Nat) (all : List Rl) (w : World) (hN12 : NN ≤ 13)
    (hah : AhIn w av kk fs) (hAh : Ahead NN all kk fs) (hk : k < kk) :
    Calls Try.prog 88 #[.iface 146 (.agg #[.int .i64 (k : Int)]), av, fv] w fun e w' => (∃ h, e = .returned (lv h) ∧ Hid (Rep NN h (orR (getR all (k : Int)) idR)) ∧ Hid (∀ i, i < 13 → h i < 65536)) ∧ Hid (Below w.heap.size w w') := by
  have HAI : Hid (AhIn w av kk fs) := hah
  have HAH : Hid (Ahead NN all kk fs) := hAh
  clear hah hAh
  obtain ⟨B, HB⟩ : ∃ B, Hid (B = w.heap.size) := ⟨_, rfl⟩
  obtain ⟨W, HW⟩ : ∃ W, Hid (W = (w.alloc (.cells #[.int .u16 0, .int .u16 0, .int .u16 0, .int .u16 0, .int .u16 0, .int .u16 0, .int .u16 0, .int .u16 0, .int .u16 0, .int .u16 0, .int .u16 0, .int .u16 0, .int .u16 0] 87)).alloc (.cells #[.int .i64 (k : Int)] 146)) := ⟨_, rfl⟩
  have HBW : Hid (Below w.heap.size w W) := by rw [HW.out]; exact below2 w _ _
  have HSW : Hid (W.heap.size = B + 2) := by rw [HW.out, HB.out]; show _ = _; simp
  have HZ : Hid (LBlk W B (fun _ => 0)) := by rw [HW.out]; exact Blk.alloc (LBlk.zero w B HB.out _) _
  have HS8 : Hid (Blk W (B + 1) 1 (fun _ => .int .i64 (k : Int))) := by rw [HW.out]; exact blk_one _ (B + 1) (by rw [HB.out]; simp) _ _
  have ta0 := fun v w => ta_opt_step v w
  have ta1 := fun v w => ta_opt_row v w
  have ta2 := fun v w => ta_opt_alt v w
  have ta3 := fun v w => ta_opt_star v w
  have ta4 := fun v w => ta_opt_plus v w
  have ta5 := fun v w => ta_opt_opt v w
  have hkk1 : (k : Int) < (kk : Int) := by omega
  have hkk0 : (0 : Int) ≤ (k : Int) := by omega
  obtain ⟨g, cg, rfl, hgl, hrg⟩ := HAI.out.at hk
  have HGB : Hid (g < B) := by rw [HB.out]; exact hgl
  have HRG : Hid (W.rangeAt g (k * 13) (lcells (fs k))) := range_of hrg (HBW.out.block _ hgl)
  have HRK : Hid (Rep NN (fs k) (getR all (k : Int))) := HAH.out.rep k hk
  have HLK : Hid (∀ i, i < 13 → fs k i < 65536) := HAH.out.lt k hk
  have s0 := HS8.out.cell (i := 0) (by omega)
  clear hgl hrg
  go_enter Try.func88, Try.ntmps88
  obtain ⟨FF, HFF⟩ : ∃ F : Func, Hid (F = Try.f88) := ⟨_, rfl⟩
  rw [← HFF.out]
  go_upto_region 31 with fail
  rw [← HB.out, ← HW.out]
  clear HW
  obtain ⟨P8, HP8⟩ : ∃ P8, Hid (P8 = B + 1) := ⟨_, rfl⟩
  obtain ⟨W2, HW2⟩ : ∃ W2, Hid (W2 = W) := ⟨_, rfl⟩
  rw [← HW2.out] at HRG HZ HBW s0 ⊢
  rw [← HP8.out] at s0 ⊢
  have HZ2 : Hid (LBlk W2 B (fun _ => 0)) := HZ.out
  have HBE2 : Hid (Below w.heap.size w W2) := HBW.out
  have HPL : Hid (B < P8) := by rw [HP8.out]; show _ < _; omega
  have HGL : Hid (g < w.heap.size) := by rw [← HB.out]; exact HGB.out
  have hS0 : W2.drew.cell? ⟨P8, 0, none⟩ = some (.int .i64 (k : Int)) ∧ W2.drew.rangeAt g (k * 13) (lcells (fs k)) := ⟨s0, HRG.out⟩
  refine wp_region_held_drew (S := fun w' => w'.cell? ⟨P8, 0, none⟩ = some (.int .i64 (k : Int)) ∧ w'.rangeAt g (k * 13) (lcells (fs k))) (by kernel_rfl) hS0 (fun hHeld => ?_)
  refine wpAnyH_take (i := 0) (oi := { dst := some 97, op := Go.Op.move (Go.Operand.tmp 1), type := 149, pos := "l06_path.go:360", after := #[], guard := none }) (v := ?_) rfl (by kernel_rfl) (by kernel_rfl) (by kernel_rfl) (fun _ _ _ h => h) (Or.inl ⟨by kernel_rfl, ?_⟩) (by assumption) ?_
  rotate_left
  · intro w hSw; (try dsimp only at hSw); go_simp; try with_reducible rfl
  simp only [Act.put, List.setIfInBounds_toArray, List.set_cons_zero, List.set_cons_succ]
  refine wpAnyH_take (i := 1) (oi := { dst := some 98, op := Go.Op.fieldAddr 146 (Go.Operand.tmp 18) 0, type := 0, pos := "l06_path.go:360", after := #[], guard := none }) (v := ?_) rfl (by kernel_rfl) (by kernel_rfl) (by kernel_rfl) (fun _ _ _ h => h) (Or.inl ⟨by kernel_rfl, ?_⟩) (by assumption) ?_
  rotate_left
  · intro w hSw; (try dsimp only at hSw); go_simp; try with_reducible rfl
  simp only [Act.put, List.setIfInBounds_toArray, List.set_cons_zero, List.set_cons_succ]
  refine wpAnyH_take (i := 2) (oi := { dst := some 99, op := Go.Op.fieldAddr 142 (Go.Operand.tmp 98) 0, type := 0, pos := "l06_path.go:360", after := #[{ on := 1, ground := Go.Ground.data }], guard := none }) (v := ?_) rfl (by kernel_rfl) (by kernel_rfl) (by kernel_rfl) (fun _ _ _ h => h) (Or.inl ⟨by kernel_rfl, ?_⟩) (by assumption) ?_
  rotate_left
  · intro w hSw; (try dsimp only at hSw); go_simp; try with_reducible rfl
  simp only [Act.put, List.setIfInBounds_toArray, List.set_cons_zero, List.set_cons_succ]
  refine wpAnyH_take (i := 3) (oi := { dst := some 100, op := Go.Op.load 3 (Go.Operand.tmp 99), type := 3, pos := "l06_path.go:360", after := #[{ on := 2, ground := Go.Ground.data }], guard := none }) (v := ?_) rfl (by kernel_rfl) (by kernel_rfl) (by kernel_rfl) (fun _ _ _ h => h) (Or.inl ⟨by kernel_rfl, ?_⟩) (by assumption) ?_
  rotate_left
  · intro w hSw; (try dsimp only at hSw); go_simp; try with_reducible rfl
  simp only [Act.put, List.setIfInBounds_toArray, List.set_cons_zero, List.set_cons_succ]
  refine wpAnyH_take (i := 4) (oi := { dst := some 101, op := Go.Op.indexAddr 149 (Go.Operand.tmp 97) (Go.Operand.tmp 100), type := 0, pos := "l06_path.go:360", after := #[{ on := 0, ground := Go.Ground.data }, { on := 3, ground := Go.Ground.data }], guard := none }) (v := ?_) rfl (by kernel_rfl) (by kernel_rfl) (by kernel_rfl) (fun _ _ _ h => h) (Or.inl ⟨by kernel_rfl, ?_⟩) (by assumption) ?_
  rotate_left
  · intro w hSw; (try dsimp only at hSw); go_simp; try with_reducible rfl
  simp only [Act.put, List.setIfInBounds_toArray, List.set_cons_zero, List.set_cons_succ]
  refine wpAnyH_take (i := 5) (oi := { dst := some 102, op := Go.Op.load 87 (Go.Operand.tmp 101), type := 87, pos := "l06_path.go:360", after := #[{ on := 4, ground := Go.Ground.data }], guard := none }) (v := lv (fs k)) rfl (by kernel_rfl) (by kernel_rfl) (by kernel_rfl) (fun _ _ _ h => h) (yieldsIf_load_mid (by kernel_rfl) 87 _ rfl g (k * 13) rfl (lcells (fs k)) _ (fun w h => h.2) Try.underlying87 rfl (by rw [lcells_len]; exact info_leads)) (by assumption) ?_
  simp only [Act.put, List.setIfInBounds_toArray, List.set_cons_zero, List.set_cons_succ]
  refine wpAnyH_ready (rs := [6]) (by kernel_rfl) (by simp) ?_
  refine AllReadyH.cons (o := { dst := some 103, op := Go.Op.call { callee := Go.Callee.value (Go.Operand.func 95), args := #[], argTypes := #[] }, type := 87, pos := "l06_path.go:360", after := #[], guard := none }) rfl (fun K hK => ?_) ?_
  · have hh : W2.drew.cell? ⟨P8, 0, none⟩ = some (.int .i64 (k : Int)) ∧ W2.drew.rangeAt g (k * 13) (lcells (fs k)) := hHeld
    go_simp
    go_wp2_with (go_at_call 95; refine (nothing_any _).mono ?_; rintro e w3 ⟨⟨h, rfl, HHI⟩, HB3⟩)
    have hkw3 : w3.cell? ⟨P8, 0, none⟩ = some (.int .i64 (k : Int)) ∧ w3.rangeAt g (k * 13) (lcells (fs k)) := ⟨cell_below hh.1 HB3.out (lt_of_cell hh.1), range_of hh.2 (HB3.out.block _ (Nat.lt_of_lt_of_le HGL.out HBE2.out.size))⟩
    have HZ3 : Hid (LBlk w3 B (fun _ => 0)) := HZ2.out.of (HB3.out.block _ HZ2.out.lt)
    have HBE3 : Hid (Below w.heap.size w w3) := HBE2.out.drew.trans (HB3.out.mono HBE2.out.size)
    have HHL : Hid (∀ i, i < 13 → h i < 65536) := fun i hi => by rw [HHI.out i hi]; exact idF_lt hi
    refine hK.out _ _ hkw3 (fun hHeld => ?_)
    clear hK K
    try simp only [Act.put, List.setIfInBounds_toArray, List.set_cons_zero, List.set_cons_succ]
    refine wpAnyH_ready (rs := [7]) (by kernel_rfl) (by simp) ?_
    refine AllReadyH.cons (o := { dst := some 104, op := Go.Op.call { callee := Go.Callee.value (Go.Operand.func 97), args := #[Go.Operand.tmp 102, Go.Operand.tmp 103], argTypes := #[87, 87] }, type := 87, pos := "l06_path.go:360", after := #[{ on := 5, ground := Go.Ground.data }, { on := 6, ground := Go.Ground.data }, { on := 6, ground := Go.Ground.chain }], guard := none }) rfl (fun K hK => ?_) ?_
    · have hh : w3.cell? ⟨P8, 0, none⟩ = some (.int .i64 (k : Int)) ∧ w3.rangeAt g (k * 13) (lcells (fs k)) := hHeld
      go_simp
      go_wp2_with (go_at_call 97; refine (or_any (fs k) h _ HLK.out HHL.out).mono ?_; rintro e w4 ⟨rfl, HB4⟩)
      have hkw4 : w4.cell? ⟨P8, 0, none⟩ = some (.int .i64 (k : Int)) ∧ w4.rangeAt g (k * 13) (lcells (fs k)) := ⟨cell_below hh.1 HB4.out (lt_of_cell hh.1), range_of hh.2 (HB4.out.block _ (Nat.lt_of_lt_of_le HGL.out HBE3.out.size))⟩
      have HZ4 : Hid (LBlk w4 B (fun _ => 0)) := HZ3.out.of (HB4.out.block _ HZ3.out.lt)
      have HBE4 : Hid (Below w.heap.size w w4) := HBE3.out.trans (HB4.out.mono HBE3.out.size)
      refine hK.out _ _ hkw4 (fun hHeld => ?_)
      clear hK K
      try simp only [Act.put, List.setIfInBounds_toArray, List.set_cons_zero, List.set_cons_succ]
      refine wpAnyH_ready (rs := [8]) (by kernel_rfl) (by simp) ?_
      refine AllReadyH.cons (o := { dst := none, op := Go.Op.store 87 (Go.Operand.tmp 6) (Go.Operand.tmp 104), type := 0, pos := "l06_path.go:360", after := #[{ on := 7, ground := Go.Ground.data }, { on := 7, ground := Go.Ground.chain }, { on := 0, ground := Go.Ground.phase }, { on := 1, ground := Go.Ground.phase }, { on := 2, ground := Go.Ground.phase }, { on := 3, ground := Go.Ground.phase }, { on := 4, ground := Go.Ground.phase }, { on := 5, ground := Go.Ground.phase }, { on := 6, ground := Go.Ground.phase }, { on := 7, ground := Go.Ground.phase }], guard := none }) rfl (fun K hK => ?_) ?_
      · have hh : w4.cell? ⟨P8, 0, none⟩ = some (.int .i64 (k : Int)) ∧ w4.rangeAt g (k * 13) (lcells (fs k)) := hHeld
        refine wp_store_midH (by kernel_rfl) 87 _ _ rfl B 0 (lcells (orF (fs k) h)).toArray rfl rfl (by rw [lcells_size]; exact HZ4.out.there) (by rw [lcells_size]; exact info_leads) (lcells_one _) ?_
        have HFN : Hid (LBlk (w4.setCells B 0 (lcells (orF (fs k) h))) B (orF (fs k) h)) := HZ4.out.put _
        have HBF : Hid (Below w.heap.size w (w4.setCells B 0 (lcells (orF (fs k) h)))) := Below.setCells (by have := HB.out; omega) _ _ HBE4.out
        have hkf : (w4.setCells B 0 (lcells (orF (fs k) h))).cell? ⟨P8, 0, none⟩ = some (.int .i64 (k : Int)) ∧ (w4.setCells B 0 (lcells (orF (fs k) h))).rangeAt g (k * 13) (lcells (fs k)) := ⟨by rw [← hh.1]; unfold World.cell?; rw [block_setCells (b := B) (c := P8) (by have := HPL.out; omega)], range_of hh.2 (block_setCells (b := B) (c := g) (by have := HGB.out; omega) _ _ _)⟩
        refine hK.out _ _ hkf (fun hHeld => ?_)
        clear hK K
        try simp only [Act.put]
        refine wpAnyH_done (by kernel_rfl) ?_ _
        go_wp2_with fail
        obtain rfl : FF = Try.f88 := HFF.out
        refine bodyPost_ret (results_row (k := 6) (t := 87) (b := B) Try.results88 rfl (load_leads HFN.out)) rfl ?_
        exact ⟨⟨orF (fs k) h, rfl, HRK.out.or ((Rep.id NN).cong hN12 HHI.out), fun i hi => or_lt (HLK.out i hi) (HHL.out i hi)⟩, HBF⟩
      exact AllReadyH.nil
    exact AllReadyH.nil
  exact AllReadyH.nil
end Go.Proofs.Ytdbogikcmfnpdaa
