/-
  Where a shape leads: leadsOf_row.
-/
import Derived.Test.YtdbogikcmfnpdaaLdE
namespace Go.Proofs.Ytdbogikcmfnpdaa
open Go.RowKit

set_option maxHeartbeats 4000000 in
set_option maxRecDepth 100000 in
theorem leadsOf_row (NN : Nat) (ra : Option Addr) (q rc : Nat) (ks : List Int) (lo2 hi2 : Nat) (av fv : Value) (kk : Nat) (fs : Nat → Nat → Nat) (all : List Rl) (w : World) (hN12 : NN ≤ 13)
    (hah : AhIn w av kk fs) (hAh : Ahead NN all kk fs)
    (hrow : RowIn lo2 hi2 w ra ks) (hh2 : hi2 ≤ w.heap.size) (hkl : ks.length = q) (hq : q ≤ 1048576) (hko : kidsOk kk ks = true) (hne : ks ≠ []) :
    Calls Try.prog 88 #[.iface 139 (.agg #[.slice ra q rc]), av, fv] w fun e w' => (∃ h, e = .returned (lv h) ∧ Hid (Rep NN h (rowR NN all ks)) ∧ Hid (∀ i, i < 13 → h i < 65536)) ∧ Hid (Below w.heap.size w w') := by
  have HAI : Hid (AhIn w av kk fs) := hah
  have HAH : Hid (Ahead NN all kk fs) := hAh
  clear hah hAh
  obtain ⟨B, HB⟩ : ∃ B, Hid (B = w.heap.size) := ⟨_, rfl⟩
  obtain ⟨W, HW⟩ : ∃ W, Hid (W = (w.alloc (.cells #[.int .u16 0, .int .u16 0, .int .u16 0, .int .u16 0, .int .u16 0, .int .u16 0, .int .u16 0, .int .u16 0, .int .u16 0, .int .u16 0, .int .u16 0, .int .u16 0, .int .u16 0] 87)).alloc (.cells #[.slice ra q rc] 139)) := ⟨_, rfl⟩
  have HBW : Hid (Below w.heap.size w W) := by rw [HW.out]; exact below2 w _ _
  have HSW : Hid (W.heap.size = B + 2) := by rw [HW.out, HB.out]; show _ = _; simp
  have HZ : Hid (LBlk W B (fun _ => 0)) := by rw [HW.out]; exact Blk.alloc (LBlk.zero w B HB.out _) _
  have HS8 : Hid (Blk W (B + 1) 1 (fun _ => .slice ra q rc)) := by rw [HW.out]; exact blk_one _ (B + 1) (by rw [HB.out]; simp) _ _
  have ta0 := fun v w => ta_row_step v w
  have ta1 := fun v w => ta_row_row v w
  have HRI : Hid (RowIn lo2 hi2 w ra ks) := hrow
  have HH2 : Hid (hi2 ≤ w.heap.size) := hh2
  have HKL : Hid (ks.length = q) := hkl
  have HKO : Hid (kidsOk kk ks = true) := hko
  have HNE : Hid (ks ≠ []) := hne
  clear hne
  clear hrow hh2 hkl hko
  go_enter Try.func88, Try.ntmps88
  obtain ⟨FF, HFF⟩ : ∃ F : Func, Hid (F = Try.f88) := ⟨_, rfl⟩
  rw [← HFF.out]
  go_upto_region 7 with fail
  rw [← HB.out, ← HW.out]
  clear HW
  go_wp2_with fail
  refine (nothing_any W).mono ?_
  rintro e w1 ⟨⟨F0, rfl, HF0⟩, HB1⟩
  obtain ⟨P9, HP⟩ : ∃ P, Hid (P = w1.heap.size) := ⟨_, rfl⟩
  obtain ⟨W2, HW2⟩ : ∃ W1, Hid (W1 = (w1.alloc (.cells #[.int .u16 0, .int .u16 0, .int .u16 0, .int .u16 0, .int .u16 0, .int .u16 0, .int .u16 0, .int .u16 0, .int .u16 0, .int .u16 0, .int .u16 0, .int .u16 0, .int .u16 0] 87)).setCells P9 0 (lcells F0)) := ⟨_, rfl⟩
  have HT1 : Hid ((w1.alloc (.cells #[.int .u16 0, .int .u16 0, .int .u16 0, .int .u16 0, .int .u16 0, .int .u16 0, .int .u16 0, .int .u16 0, .int .u16 0, .int .u16 0, .int .u16 0, .int .u16 0, .int .u16 0] 87)).there w1.heap.size 0 13) := (LBlk.zero w1 _ rfl _).there
  have HX2 : Hid (LBlk W2 P9 F0) := by rw [HW2.out]; exact (LBlk.zero w1 P9 HP.out _).put F0
  have HBW2 : Hid (Below W.heap.size W W2) := by rw [HW2.out]; exact Below.setCells (by have := HP.out; have := HB1.out.size; omega) _ _ (HB1.out.trans ((below1 w1 _).mono HB1.out.size))
  have HPW : Hid (W.heap.size ≤ w1.heap.size) := HB1.out.size
  have HF0L : Hid (∀ i, i < 13 → F0 i < 65536) := fun i hi => by rw [HF0.out i hi]; exact idF_lt hi
  go_upto_region 8 with (with_reducible refine wpList_here ?_; refine wpList_store_mid rfl 87 _ _ rfl w1.heap.size 0 (lcells F0).toArray rfl rfl (by rw [lcells_size]; exact HT1.out) (by rw [lcells_size]; exact info_leads) (lcells_one _) ?_)
  rw [← HP.out]
  first | rw [← HW2.out] | (rw [show _ = W2 from HW2.out.symm])
  clear HT1 HW2 HB1
  have HZ2 : Hid (LBlk W2 B (fun _ => 0)) := HZ.out.of (HBW2.out.block _ HZ.out.lt)
  have HBE2 : Hid (Below w.heap.size w W2) := HBW.out.trans (HBW2.out.mono HBW.out.size)
  have HS2 : Hid (Blk W2 (B + 1) 1 (fun _ => .slice ra q rc)) := HS8.out.of_block (HBW2.out.block _ HS8.out.lt)
  obtain ⟨M, HM⟩ : ∃ M, Hid (M = W2.heap.size) := ⟨_, rfl⟩
  have HPB : Hid (B + 2 ≤ P9 ∧ P9 < M) := ⟨by have := HP.out; have := HSW.out; have := HPW.out; omega, by rw [HM.out]; exact HX2.out.lt⟩
  have s0 := HS2.out.cell (i := 0) (by omega)
  try simp only [Act.put]
  go_wp2
  clear s0
  go_loopw [35] (fun j wr => ∃ (m : Nat) (F : Nat → Nat), j = .int .i64 m ∧ m ≤ q ∧ Hid (LBlk wr P9 F) ∧ Hid (∀ i, i < 13 → F i < 65536) ∧ Hid (Rep NN F (rowI NN all (ks.take m))) ∧ Hid (Off P9 M W2 wr)) (fun j _ => q - (intOf j).toNat)
  case atStart => exact ⟨0, F0, rfl, by omega, HX2, HF0L, (Rep.id NN).cong hN12 HF0.out, KeptP.refl _ _⟩
  case round =>
    obtain ⟨m, F, rfl, hm1, HLB, HFL, HFR, HOF⟩ := hrel
    have HBR : Hid (Below w.heap.size w wr) := HBE2.out.trans (HOF.out.to_below HBE2.out.size (fun c hc => by have := HB.out; have := HPB.out; omega))
    by_cases hmq : m < q
    · have hmq1 : (m : Int) < (q : Int) := by omega
      have hmq0 : (0 : Int) ≤ (m : Int) := by omega
      have hml : m < ks.length := by rw [HKL.out]; exact hmq
      obtain ⟨b, o, rfl, hc⟩ := (HRI.out.below HBR.out HH2.out).num (i := m) hml
      have hz := getD_lt HKO.out hml
      obtain ⟨k, hk⟩ : ∃ k : Nat, ks.getD m 0 = (k : Int) := ⟨(ks.getD m 0).toNat, by omega⟩
      have hkk : k < kk := by omega
      have hkk1 : (k : Int) < (kk : Int) := by omega
      have hkk0 : (0 : Int) ≤ (k : Int) := by omega
      rw [hk] at hc
      obtain ⟨g, cg, rfl, hgl, hrg⟩ := (HAI.out.below HBR.out).at hkk
      have HRG : Hid (wr.rangeAt g (k * 13) (lcells (fs k))) := hrg
      have HRK : Hid (Rep NN (fs k) (getR all (k : Int))) := HAH.out.rep k hkk
      have HLK : Hid (∀ i, i < 13 → fs k i < 65536) := HAH.out.lt k hkk
      have HST : Hid (rowI NN all (ks.take (m + 1)) = behR NN (rowI NN all (ks.take m)) (getR all (k : Int))) := by show _ = _; unfold rowI; rw [fold_take _ _ hml, hk]
      clear hz hrg
      go_upto_region 11 with fail
      refine wp_region_held_drew (S := fun _ => True) (by kernel_rfl) trivial (fun hHeld => ?_)
      refine wpAnyH_take (i := 1) (oi := { dst := some 40, op := Go.Op.move (Go.Operand.tmp 1), type := 149, pos := "l06_path.go:346", after := #[], guard := none }) (v := ?_) rfl (by kernel_rfl) (by kernel_rfl) (by kernel_rfl) (fun _ _ _ h => h) (Or.inl ⟨by kernel_rfl, ?_⟩) (by assumption) ?_
      rotate_left
      · intro w hSw; (try dsimp only at hSw); go_simp; try with_reducible rfl
      simp only [Act.put, List.setIfInBounds_toArray, List.set_cons_zero, List.set_cons_succ]
      refine wpAnyH_take (i := 2) (oi := { dst := some 41, op := Go.Op.move (Go.Operand.tmp 11), type := 3, pos := "l06_path.go:346", after := #[], guard := none }) (v := ?_) rfl (by kernel_rfl) (by kernel_rfl) (by kernel_rfl) (fun _ _ _ h => h) (Or.inl ⟨by kernel_rfl, ?_⟩) (by assumption) ?_
      rotate_left
      · intro w hSw; (try dsimp only at hSw); go_simp; try with_reducible rfl
      simp only [Act.put, List.setIfInBounds_toArray, List.set_cons_zero, List.set_cons_succ]
      refine wpAnyH_take (i := 3) (oi := { dst := some 42, op := Go.Op.indexAddr 149 (Go.Operand.tmp 40) (Go.Operand.tmp 41), type := 0, pos := "l06_path.go:346", after := #[{ on := 1, ground := Go.Ground.data }, { on := 2, ground := Go.Ground.data }], guard := none }) (v := ?_) rfl (by kernel_rfl) (by kernel_rfl) (by kernel_rfl) (fun _ _ _ h => h) (Or.inl ⟨by kernel_rfl, ?_⟩) (by assumption) ?_
      rotate_left
      · intro w hSw; (try dsimp only at hSw); go_simp; try with_reducible rfl
      simp only [Act.put, List.setIfInBounds_toArray, List.set_cons_zero, List.set_cons_succ]
      refine wpAnyH_ready (rs := [0, 4]) (by kernel_rfl) (by simp) ?_
      refine AllReadyH.cons (o := { dst := some 39, op := Go.Op.load 87 (Go.Operand.tmp 9), type := 87, pos := "l06_path.go:346", after := #[], guard := none }) rfl (fun K hK => ?_) ?_
      · refine wp_load_midH (by kernel_rfl) 87 _ rfl P9 0 rfl (lcells F) _ HLB.out.range Try.underlying87 rfl (by rw [lcells_len]; exact info_leads) ?_
        refine hK.out _ _ trivial (fun hHeld => ?_)
        clear hK K
        try simp only [Act.put, List.setIfInBounds_toArray, List.set_cons_zero, List.set_cons_succ]
        refine wpAnyH_ready (rs := [4]) (by kernel_rfl) (by simp) ?_
        refine AllReadyH.cons (o := { dst := some 43, op := Go.Op.load 87 (Go.Operand.tmp 42), type := 87, pos := "l06_path.go:346", after := #[{ on := 3, ground := Go.Ground.data }], guard := none }) rfl (fun K hK => ?_) ?_
        · refine wp_load_midH (by kernel_rfl) 87 _ rfl g (k * 13) rfl (lcells (fs k)) _ HRG.out Try.underlying87 rfl (by rw [lcells_len]; exact info_leads) ?_
          refine hK.out _ _ trivial (fun hHeld => ?_)
          clear hK K
          try simp only [Act.put, List.setIfInBounds_toArray, List.set_cons_zero, List.set_cons_succ]
          refine wpAnyH_ready (rs := [5]) (by kernel_rfl) (by simp) ?_
          refine AllReadyH.cons (o := { dst := some 44, op := Go.Op.call { callee := Go.Callee.value (Go.Operand.func 96), args := #[Go.Operand.tmp 39, Go.Operand.tmp 43], argTypes := #[87, 87] }, type := 87, pos := "l06_path.go:346", after := #[{ on := 0, ground := Go.Ground.data }, { on := 4, ground := Go.Ground.data }], guard := none }) rfl (fun K hK => ?_) ?_
          · go_simp
            go_wp2_with (go_at_call 96; refine (then_any F (fs k) _ HFL.out HLK.out).mono ?_; rintro e w2 ⟨⟨h, rfl, HHT⟩, HB2⟩)
            have HLB2 : Hid (LBlk w2 P9 F) := HLB.out.of (HB2.out.block _ HLB.out.lt)
            have HO2 : Hid (Off P9 M W2 w2) := HOF.out.trans ((KeptP.of_below ((Below.refl _ _).drew) (fun k hk _ => hk)).trans (KeptP.of_below HB2.out (fun k hk _ => hk)))
            refine hK.out _ _ trivial (fun hHeld => ?_)
            clear hK K
            try simp only [Act.put, List.setIfInBounds_toArray, List.set_cons_zero, List.set_cons_succ]
            refine wpAnyH_ready (rs := [6]) (by kernel_rfl) (by simp) ?_
            refine AllReadyH.cons (o := { dst := none, op := Go.Op.store 87 (Go.Operand.tmp 9) (Go.Operand.tmp 44), type := 0, pos := "l06_path.go:346", after := #[{ on := 5, ground := Go.Ground.data }, { on := 5, ground := Go.Ground.chain }, { on := 0, ground := Go.Ground.phase }, { on := 1, ground := Go.Ground.phase }, { on := 2, ground := Go.Ground.phase }, { on := 3, ground := Go.Ground.phase }, { on := 4, ground := Go.Ground.phase }, { on := 5, ground := Go.Ground.phase }], guard := none }) rfl (fun K hK => ?_) ?_
            · refine wp_store_midH (by kernel_rfl) 87 _ _ rfl P9 0 (lcells h).toArray rfl rfl (by rw [lcells_size]; exact HLB2.out.there) (by rw [lcells_size]; exact info_leads) (lcells_one _) ?_
              have HLB3 : Hid (LBlk (w2.setCells P9 0 (lcells h)) P9 h) := HLB2.out.put _
              have HO3 : Hid (Off P9 M W2 (w2.setCells P9 0 (lcells h))) := KeptP.setCells (.inl rfl) _ _ HO2.out
              refine hK.out _ _ trivial (fun hHeld => ?_)
              clear hK K
              try simp only [Act.put]
              refine wpAnyH_done (by kernel_rfl) ?_ _
              go_wp2
              go_roundw
              case rel => exact ⟨m + 1, h, by go_num, by omega, HLB3, fun i hi => by rw [HHT.out i hi]; exact thenTo_lt HLK.out 13 (by omega), by rw [HST.out]; exact (HFR.out.beh hN12 HRK.out).cong hN12 HHT.out, HO3⟩
              case measure => simp [intOf]; omega
            exact AllReadyH.nil
          exact AllReadyH.nil
        exact AllReadyH.nil
      refine AllReadyH.cons (o := { dst := some 43, op := Go.Op.load 87 (Go.Operand.tmp 42), type := 87, pos := "l06_path.go:346", after := #[{ on := 3, ground := Go.Ground.data }], guard := none }) rfl (fun K hK => ?_) ?_
      · refine wp_load_midH (by kernel_rfl) 87 _ rfl g (k * 13) rfl (lcells (fs k)) _ HRG.out Try.underlying87 rfl (by rw [lcells_len]; exact info_leads) ?_
        refine hK.out _ _ trivial (fun hHeld => ?_)
        clear hK K
        try simp only [Act.put, List.setIfInBounds_toArray, List.set_cons_zero, List.set_cons_succ]
        refine wpAnyH_ready (rs := [0]) (by kernel_rfl) (by simp) ?_
        refine AllReadyH.cons (o := { dst := some 39, op := Go.Op.load 87 (Go.Operand.tmp 9), type := 87, pos := "l06_path.go:346", after := #[], guard := none }) rfl (fun K hK => ?_) ?_
        · refine wp_load_midH (by kernel_rfl) 87 _ rfl P9 0 rfl (lcells F) _ HLB.out.range Try.underlying87 rfl (by rw [lcells_len]; exact info_leads) ?_
          refine hK.out _ _ trivial (fun hHeld => ?_)
          clear hK K
          try simp only [Act.put, List.setIfInBounds_toArray, List.set_cons_zero, List.set_cons_succ]
          refine wpAnyH_ready (rs := [5]) (by kernel_rfl) (by simp) ?_
          refine AllReadyH.cons (o := { dst := some 44, op := Go.Op.call { callee := Go.Callee.value (Go.Operand.func 96), args := #[Go.Operand.tmp 39, Go.Operand.tmp 43], argTypes := #[87, 87] }, type := 87, pos := "l06_path.go:346", after := #[{ on := 0, ground := Go.Ground.data }, { on := 4, ground := Go.Ground.data }], guard := none }) rfl (fun K hK => ?_) ?_
          · go_simp
            go_wp2_with (go_at_call 96; refine (then_any F (fs k) _ HFL.out HLK.out).mono ?_; rintro e w2 ⟨⟨h, rfl, HHT⟩, HB2⟩)
            have HLB2 : Hid (LBlk w2 P9 F) := HLB.out.of (HB2.out.block _ HLB.out.lt)
            have HO2 : Hid (Off P9 M W2 w2) := HOF.out.trans ((KeptP.of_below ((Below.refl _ _).drew) (fun k hk _ => hk)).trans (KeptP.of_below HB2.out (fun k hk _ => hk)))
            refine hK.out _ _ trivial (fun hHeld => ?_)
            clear hK K
            try simp only [Act.put, List.setIfInBounds_toArray, List.set_cons_zero, List.set_cons_succ]
            refine wpAnyH_ready (rs := [6]) (by kernel_rfl) (by simp) ?_
            refine AllReadyH.cons (o := { dst := none, op := Go.Op.store 87 (Go.Operand.tmp 9) (Go.Operand.tmp 44), type := 0, pos := "l06_path.go:346", after := #[{ on := 5, ground := Go.Ground.data }, { on := 5, ground := Go.Ground.chain }, { on := 0, ground := Go.Ground.phase }, { on := 1, ground := Go.Ground.phase }, { on := 2, ground := Go.Ground.phase }, { on := 3, ground := Go.Ground.phase }, { on := 4, ground := Go.Ground.phase }, { on := 5, ground := Go.Ground.phase }], guard := none }) rfl (fun K hK => ?_) ?_
            · refine wp_store_midH (by kernel_rfl) 87 _ _ rfl P9 0 (lcells h).toArray rfl rfl (by rw [lcells_size]; exact HLB2.out.there) (by rw [lcells_size]; exact info_leads) (lcells_one _) ?_
              have HLB3 : Hid (LBlk (w2.setCells P9 0 (lcells h)) P9 h) := HLB2.out.put _
              have HO3 : Hid (Off P9 M W2 (w2.setCells P9 0 (lcells h))) := KeptP.setCells (.inl rfl) _ _ HO2.out
              refine hK.out _ _ trivial (fun hHeld => ?_)
              clear hK K
              try simp only [Act.put]
              refine wpAnyH_done (by kernel_rfl) ?_ _
              go_wp2
              go_roundw
              case rel => exact ⟨m + 1, h, by go_num, by omega, HLB3, fun i hi => by rw [HHT.out i hi]; exact thenTo_lt HLK.out 13 (by omega), by rw [HST.out]; exact (HFR.out.beh hN12 HRK.out).cong hN12 HHT.out, HO3⟩
              case measure => simp [intOf]; omega
            exact AllReadyH.nil
          exact AllReadyH.nil
        exact AllReadyH.nil
      exact AllReadyH.nil
    · obtain rfl : m = q := by omega
      have HZR : Hid (LBlk wr B (fun _ => 0)) := HOF.out.blk HZ2.out (by have := HPB.out; omega)
      have HTA : Hid (ks.take m = ks) := by show _ = _; rw [← HKL.out]; exact List.take_length
      rw [HTA.out] at HFR
      go_wp2_with (with_reducible refine wpList_here ?_; first | (refine wpList_load_mid rfl 87 _ rfl P9 0 rfl (lcells F) _ HLB.out.range Try.underlying87 rfl (by rw [lcells_len]; exact info_leads) ?_) | (refine wpList_store_mid rfl 87 _ _ rfl B 0 (lcells F).toArray rfl rfl (by rw [lcells_size]; exact HZR.out.there) (by rw [lcells_size]; exact info_leads) (lcells_one _) ?_))
      obtain rfl : FF = Try.f88 := HFF.out
      refine bodyPost_ret (results_row (k := 6) (t := 87) (b := B) Try.results88 rfl (load_leads (HZR.out.put F))) rfl ?_
      exact ⟨⟨F, rfl, HFR.out.congr (fun i j hi hj => rowI_row HNE.out hi hj), HFL⟩, Below.setCells (by have := HB.out; omega) _ _ HBR.out⟩

end Go.Proofs.Ytdbogikcmfnpdaa
