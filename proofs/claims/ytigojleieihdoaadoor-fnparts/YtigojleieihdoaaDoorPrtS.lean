/-
  The part of one, by the model: spec.PartOf.
-/
import Derived.Test.YtigojleieihdoaaDoorPrt
namespace Go.Proofs.YtigojleieihdoaaDoor
open Go.RowKit

set_option maxHeartbeats 8000000 in
set_option maxRecDepth 100000 in
theorem specPartOf_any (lo hi : Nat) (s : Int) (a : Option Addr) (n cap : Nat) (l : List Ed) (wk nw : Int) (w : World) (ha : EdgesIn lo hi w a l) (hh : hi ≤ w.heap.size) (hn : l.length = n) (hm : n ≤ 1048576) :
    Calls Tryd.prog 28 #[gv s a n cap, .int .i64 wk, .int .i64 nw] w fun e w' => ∃ (a' : Option Addr) (n' cap' : Nat), e = .returned (gv s a' n' cap') ∧ Hid ((partL s l wk nw).length = n') ∧ Hid (EdgesOwn w.heap.size w'.heap.size w' a' (partL s l wk nw)) ∧ Hid (Below w.heap.size w w') := by
  have HN : Hid (l.length = n) := hn
  have HA : Hid (EdgesIn lo hi w a l) := ha
  have HH : Hid (hi ≤ w.heap.size) := hh
  obtain ⟨i0, hi0, hz0, hz1, hz2⟩ := info_parts Tryd.info37
  clear ha hh hn
  obtain ⟨B, HB⟩ : ∃ B, Hid (B = w.heap.size) := ⟨_, rfl⟩
  obtain ⟨W3, HW3⟩ : ∃ W3, Hid (W3 = ((w.alloc (.cells #[.int .i64 s, .slice a n cap] 26)).alloc (.cells #[.int .i64 0, .slice none 0 0] 26)).alloc (.cells #[.int .i64 s, .slice none 0 0] 26)) := ⟨_, rfl⟩
  have HBW : Hid (Below w.heap.size w W3) := by rw [HW3.out]; exact below3 w _ _ _
  have HSW : Hid (W3.heap.size = B + 3) := by rw [HW3.out, HB.out]; show _ = _; simp
  have HG3 : Hid (Blk W3 B 2 (fun i => if i = 0 then .int .i64 s else .slice a n cap)) := by rw [HW3.out]; exact ((blk_two w B HB.out _ _ _).alloc _).alloc _
  have HR3 : Hid (Blk W3 (B + 1) 2 (fun i => if i = 0 then .int .i64 0 else .slice none 0 0)) := by rw [HW3.out]; exact (blk_two _ (B + 1) (by rw [HB.out]; simp) _ _ _).alloc _
  have HP3 : Hid (Blk W3 (B + 2) 2 (fun i => if i = 0 then .int .i64 s else .slice none 0 0)) := by rw [HW3.out]; exact blk_two _ (B + 2) (by rw [HB.out]; simp) _ _ _
  obtain ⟨r, HR⟩ : ∃ r, Hid (r = okG s l) := ⟨_, rfl⟩
  obtain ⟨q, HQ⟩ : ∃ q : Ed → Bool, Hid (q = fun e => decide (ownOf e.1 nw = wk)) := ⟨_, rfl⟩
  obtain ⟨c0, c1⟩ := blk_pair_cells HG3.out
  go_enter Tryd.func28, Tryd.ntmps28
  go_wp2_with fail
  rw [← HB.out, ← HW3.out]
  refine (specGOk_any lo hi s a n cap l r W3 (HA.out.below HBW.out HH.out) (Nat.le_trans HH.out HBW.out.size) HN.out hm HR.out).mono ?_
  rintro e w4 ⟨rfl, HB34⟩
  obtain ⟨M, HMM⟩ : ∃ M, Hid (w4.heap.size = M) := ⟨_, rfl⟩
  have HS4 : Hid (B + 3 ≤ M) := by have := HB34.out.size; have := HSW.out; have := HMM.out; show _ ≤ _; omega
  have HG4 : Hid (Blk w4 B 2 (fun i => if i = 0 then .int .i64 s else .slice a n cap)) := HG3.out.of_block (HB34.out.block _ HG3.out.lt)
  have HR4 : Hid (Blk w4 (B + 1) 2 (fun i => if i = 0 then .int .i64 0 else .slice none 0 0)) := HR3.out.of_block (HB34.out.block _ HR3.out.lt)
  have HP4 : Hid (Blk w4 (B + 2) 2 (fun i => if i = 0 then .int .i64 s else .slice none 0 0)) := HP3.out.of_block (HB34.out.block _ HP3.out.lt)
  have HB4 : Hid (Below w.heap.size w w4) := HBW.out.trans (HB34.out.mono HBW.out.size)
  clear c0 c1 HW3 HG3 HR3 HP3 HB34 HBW HSW
  rcases Bool.eq_false_or_eq_true r with hr | hr
  · subst hr
    have HOK : Hid (okG s l = true) := HR.out.symm
    clear HR
    obtain ⟨c0, c1⟩ := blk_pair_cells HG4.out
    go_wp2
    clear c0 c1
    go_loopw [8] (fun i wr => ∃ (k m : Nat) (a' : Option Addr) (cap' : Nat), i = .int .i64 k ∧ k ≤ n ∧ Hid (((l.take k).filter q).length = m) ∧ Hid (wr.ownsRow M 37 3 (.slice a' m cap') m (ecells ((l.take k).filter q))) ∧ Hid (Blk wr (B + 2) 2 (fun i => if i = 0 then .int .i64 s else .slice a' m cap')) ∧ Hid (Off (B + 2) M w4 wr)) (fun i _ => n - (intOf i).toNat)
    case atStart => exact ⟨0, 0, none, 0, rfl, by omega, rfl, World.ownsRow_nil _ _ _ _, HP4, KeptP.refl _ _⟩
    case round =>
      obtain ⟨k, m, a', cap', rfl, hk, HM, HOW, HG, HL⟩ := hrel
      have hmk : m ≤ k := by rw [← HM.out]; exact filter_len l k
      have hszr : M ≤ wr.heap.size := by rw [← HMM.out]; exact HL.out.size
      have HGR : Hid (Blk wr B 2 (fun i => if i = 0 then .int .i64 s else .slice a n cap)) := HL.out.blk HG4.out (by omega) (by have := HS4.out; omega)
      have HLR : Hid (Below w.heap.size w wr) := HB4.out.trans (HL.out.low (by have := HS4.out; have := HB.out; have := HMM.out; omega) (by have := HB.out; omega) (by have := HS4.out; have := HB.out; omega))
      obtain ⟨c0, c1⟩ := blk_pair_cells HGR.out
      by_cases hlt : k < n
      · have hlt1 : (k : Int) < (n : Int) := by omega
        have hlt0 : (0 : Int) ≤ (k : Int) := by omega
        have HER : Hid (EdgesIn lo hi wr a l) := HA.out.below HLR.out HH.out
        obtain ⟨b, o, rfl, _, _, hx⟩ := HER.out.edge (k := k) (by rw [HN.out]; exact hlt)
        obtain ⟨x, HXX⟩ : ∃ x : Ed, Hid (x = eat l k) := ⟨_, rfl⟩
        rw [← HXX.out] at hx
        have HST : Hid ((l.take (k + 1)).filter q = (l.take k).filter q ++ (if q x = true then [x] else [])) := by show _ = _; rw [filter_step (by rw [HN.out]; exact hlt), HXX.out]
        obtain ⟨x0, x1, x2⟩ := x
        obtain ⟨p0, p1, p2⟩ := hx
        dsimp only at p0 p1 p2
        obtain ⟨z, HZ⟩ : ∃ z, Hid (z = ownOf x0 nw) := ⟨_, rfl⟩
        have HQX : Hid (q (x0, x1, x2) = decide (z = wk)) := by show _ = _; rw [HQ.out, HZ.out]
        rw [HQX.out] at HST
        go_wp2_with fail
        refine (specOwner_any x0 nw z wr HZ.out).mono ?_
        rintro e W ⟨rfl, HWB⟩
        have HGW : Hid (Blk W (B + 2) 2 (fun i => if i = 0 then .int .i64 s else .slice a' m cap')) := HG.out.of_block (HWB.out.block _ HG.out.lt)
        have HGB : Hid (Blk W B 2 (fun i => if i = 0 then .int .i64 s else .slice (some ⟨b, o, none⟩) n cap)) := HGR.out.of_block (HWB.out.block _ HGR.out.lt)
        have HOWW : Hid (W.ownsRow M 37 3 (.slice a' m cap') m (ecells ((l.take k).filter q))) := owns_after HOW.out HWB.out
        have HLWW : Hid (Off (B + 2) M w4 W) := HL.out.more (HWB.out.mono hszr)
        have hszW : M ≤ W.heap.size := Nat.le_trans hszr HWB.out.size
        have p0' := cell_below p0 HWB.out (lt_of_cell p0)
        have p1' := cell_below p1 HWB.out (lt_of_cell p1)
        have p2' := cell_below p2 HWB.out (lt_of_cell p2)
        clear p0 p1 p2 c0 c1 HOW HG HL HWB HGR HLR HER
        by_cases hz : z = wk
        · subst hz
          have HST2 : Hid ((l.take (k + 1)).filter q = (l.take k).filter q ++ [(x0, x1, x2)]) := by show _ = _; rw [HST.out]; simp
          clear HST
          obtain ⟨_, t1⟩ := blk_pair_cells HGW.out
          obtain ⟨_, c1⟩ := blk_pair_cells HGB.out
          have t1a : ∀ u, (W.alloc u).cell? ⟨B + 2, 1, none⟩ = some (.slice a' m cap') := fun u => cell_below t1 (below1 W u) (lt_of_cell t1)
          have t1b : ∀ u, (W.alloc u).drew.cell? ⟨B + 2, 1, none⟩ = some (.slice a' m cap') := fun u => t1a u
          have t1c : ∀ u, (W.drew.alloc u).cell? ⟨B + 2, 1, none⟩ = some (.slice a' m cap') := fun u => t1a u
          have c1a : ∀ u, (W.alloc u).cell? ⟨B, 1, none⟩ = some (.slice (some ⟨b, o, none⟩) n cap) := fun u => cell_below c1 (below1 W u) (lt_of_cell c1)
          have c1b : ∀ u, (W.alloc u).drew.cell? ⟨B, 1, none⟩ = some (.slice (some ⟨b, o, none⟩) n cap) := fun u => c1a u
          have c1c : ∀ u, (W.drew.alloc u).cell? ⟨B, 1, none⟩ = some (.slice (some ⟨b, o, none⟩) n cap) := fun u => c1a u
          have p0 := p0'
          have p1 := p1'
          have p2 := p2'
          have p0a := p0'
          have p1a := p1'
          have p2a := p2'
          clear p0' p1' p2'
          go_wp2_with fail
          refine wp_region_held_drew (S := fun _ => True) (by kernel_rfl) trivial (fun hHeld => ?_)
          refine wpAnyH_take (i := 0) (oi := { dst := some 33, op := Go.Op.fieldAddr 26 (Go.Operand.tmp 7) 1, type := 0, pos := "l05_share.go:32", after := #[], guard := none }) (v := ?_) rfl (by kernel_rfl) (by kernel_rfl) (by kernel_rfl) (fun _ _ _ h => h) (Or.inl ⟨by kernel_rfl, ?_⟩) (by assumption) ?_
          rotate_left
          · intro w hSw; (try dsimp only at hSw); go_simp; try with_reducible rfl
          simp only [Act.put, List.setIfInBounds_toArray, List.set_cons_zero, List.set_cons_succ]
          refine wpAnyH_take (i := 2) (oi := { dst := some 35, op := Go.Op.fieldAddr 26 (Go.Operand.tmp 3) 1, type := 0, pos := "l05_share.go:32", after := #[], guard := none }) (v := ?_) rfl (by kernel_rfl) (by kernel_rfl) (by kernel_rfl) (fun _ _ _ h => h) (Or.inl ⟨by kernel_rfl, ?_⟩) (by assumption) ?_
          rotate_left
          · intro w hSw; (try dsimp only at hSw); go_simp; try with_reducible rfl
          simp only [Act.put, List.setIfInBounds_toArray, List.set_cons_zero, List.set_cons_succ]
          refine wpAnyH_take (i := 4) (oi := { dst := some 37, op := Go.Op.move (Go.Operand.tmp 8), type := 3, pos := "l05_share.go:32", after := #[], guard := none }) (v := ?_) rfl (by kernel_rfl) (by kernel_rfl) (by kernel_rfl) (fun _ _ _ h => h) (Or.inl ⟨by kernel_rfl, ?_⟩) (by assumption) ?_
          rotate_left
          · intro w hSw; (try dsimp only at hSw); go_simp; try with_reducible rfl
          simp only [Act.put, List.setIfInBounds_toArray, List.set_cons_zero, List.set_cons_succ]
          refine wpAnyH_ready (rs := [1, 3]) (by kernel_rfl) (by simp) ?_
          refine AllReadyH.cons (o := { dst := some 34, op := Go.Op.load 24 (Go.Operand.tmp 33), type := 24, pos := "l05_share.go:32", after := #[{ on := 0, ground := Go.Ground.data }], guard := none }) rfl (fun K hK => ?_) ?_
          · go_simp
            refine hK.out _ _ trivial (fun hHeld => ?_)
            clear hK K
            try simp only [Act.put, List.setIfInBounds_toArray, List.set_cons_zero, List.set_cons_succ]
            refine wpAnyH_ready (rs := [3]) (by kernel_rfl) (by simp) ?_
            refine AllReadyH.cons (o := { dst := some 36, op := Go.Op.load 24 (Go.Operand.tmp 35), type := 24, pos := "l05_share.go:32", after := #[{ on := 2, ground := Go.Ground.data }], guard := none }) rfl (fun K hK => ?_) ?_
            · go_simp
              refine hK.out _ _ trivial (fun hHeld => ?_)
              clear hK K
              try simp only [Act.put, List.setIfInBounds_toArray, List.set_cons_zero, List.set_cons_succ]
              refine wpAnyH_take (i := 5) (oi := { dst := some 38, op := Go.Op.indexAddr 24 (Go.Operand.tmp 36) (Go.Operand.tmp 37), type := 0, pos := "l05_share.go:32", after := #[{ on := 3, ground := Go.Ground.data }, { on := 4, ground := Go.Ground.data }], guard := none }) (v := ?_) rfl (by kernel_rfl) (by kernel_rfl) (by kernel_rfl) (fun _ _ _ h => h) (Or.inl ⟨by kernel_rfl, ?_⟩) (by assumption) ?_
              rotate_left
              · intro w hSw; (try dsimp only at hSw); go_simp; try with_reducible rfl
              simp only [Act.put, List.setIfInBounds_toArray, List.set_cons_zero, List.set_cons_succ]
              refine wpAnyH_ready (rs := [6]) (by kernel_rfl) (by simp) ?_
              refine AllReadyH.cons (o := { dst := some 39, op := Go.Op.load 37 (Go.Operand.tmp 38), type := 37, pos := "l05_share.go:32", after := #[{ on := 5, ground := Go.Ground.data }], guard := none }) rfl (fun K hK => ?_) ?_
              · go_simp
                refine hK.out _ _ trivial (fun hHeld => ?_)
                clear hK K
                try simp only [Act.put, List.setIfInBounds_toArray, List.set_cons_zero, List.set_cons_succ]
                refine wpAnyH_ready (rs := [7]) (by kernel_rfl) (by simp) ?_
                refine AllReadyH.cons (o := { dst := some 40, op := Go.Op.buildSlice 24 1 #[(0, Go.Operand.tmp 39)], type := 24, pos := "l05_share.go:32", after := #[{ on := 6, ground := Go.Ground.data }], guard := none }) rfl (fun K hK => ?_) ?_
                · go_simp
                  refine hK.out _ _ trivial (fun hHeld => ?_)
                  clear hK K
                  try simp only [Act.put, List.setIfInBounds_toArray, List.set_cons_zero, List.set_cons_succ]
                  refine wpAnyH_ready (rs := [8]) (by kernel_rfl) (by simp) ?_
                  refine AllReadyH.cons (o := { dst := some 41, op := Go.Op.call { callee := Go.Callee.builtin Go.Builtin.append, args := #[Go.Operand.tmp 34, Go.Operand.tmp 40], argTypes := #[24, 24] }, type := 24, pos := "l05_share.go:32", after := #[{ on := 1, ground := Go.Ground.data }, { on := 7, ground := Go.Ground.data }], guard := none }) rfl (fun K hK => ?_) ?_
                  · refine step_append_lies _ rfl (.tmp 34) (.tmp 40) 24 rfl M 37 i0 _ 3 24 Tryd.underlying24 hi0 hz0 hz1 hz2 rfl (by decide) (.slice a' m cap') m (ecells ((l.take k).filter q)) rfl (own_drew' (HOWW.out.alloc _)) ⟨W.heap.size, 0, none⟩ 1 1 [.int .i64 x0, .int .u8 x1, .int .i64 x2] rfl rfl (news_three W _ _ _ 37) (by simp [Value.oneCell']) (by decide) (by unfold maxLen; omega) (by omega) (by simp; omega) _ rfl ?_
                    intro g5 cap5 w6 hown5 hgrow5 _ _
                    have HB6 : Hid (Below M W w6) := ((Below.refl M W).alloc hszW _).grown (grown_undrew' hgrow5) (by simp; omega) (fun k hk => (HOWW.out.lt k hk).1)
                    have HO6 : Hid (w6.ownsRow M 37 3 (.slice (some ⟨g5, 0, none⟩) (m + 1) cap5) (m + 1) (ecells ((l.take (k + 1)).filter q))) := by rw [HST2.out, ecells_snoc]; exact hown5
                    have HG6 : Hid (Blk w6 (B + 2) 2 (fun i => if i = 0 then .int .i64 s else .slice a' m cap')) := HGW.out.of_block (HB6.out.block _ (by have := HS4.out; omega))
                    clear hown5 hgrow5 t1 t1a t1b t1c p0 p1 p2 p0a p1a p2a c1 c1a c1b c1c
                    refine hK.out _ _ trivial (fun hHeld => ?_)
                    clear hK K
                    try simp only [Act.put, List.setIfInBounds_toArray, List.set_cons_zero, List.set_cons_succ]
                    refine wpAnyH_take (i := 9) (oi := { dst := some 42, op := Go.Op.fieldAddr 26 (Go.Operand.tmp 7) 1, type := 0, pos := "l05_share.go:32", after := #[{ on := 0, ground := Go.Ground.phase }, { on := 1, ground := Go.Ground.phase }, { on := 2, ground := Go.Ground.phase }, { on := 3, ground := Go.Ground.phase }, { on := 4, ground := Go.Ground.phase }, { on := 5, ground := Go.Ground.phase }, { on := 6, ground := Go.Ground.phase }, { on := 7, ground := Go.Ground.phase }, { on := 8, ground := Go.Ground.phase }], guard := none }) (v := ?_) rfl (by kernel_rfl) (by kernel_rfl) (by kernel_rfl) (fun _ _ _ h => h) (Or.inl ⟨by kernel_rfl, ?_⟩) (by assumption) ?_
                    rotate_left
                    · intro w hSw; (try dsimp only at hSw); go_simp; try with_reducible rfl
                    simp only [Act.put, List.setIfInBounds_toArray, List.set_cons_zero, List.set_cons_succ]
                    refine wpAnyH_ready (rs := [10]) (by kernel_rfl) (by simp) ?_
                    refine AllReadyH.cons (o := { dst := none, op := Go.Op.store 24 (Go.Operand.tmp 42) (Go.Operand.tmp 41), type := 0, pos := "l05_share.go:32", after := #[{ on := 9, ground := Go.Ground.data }, { on := 8, ground := Go.Ground.data }, { on := 8, ground := Go.Ground.chain }, { on := 0, ground := Go.Ground.phase }, { on := 1, ground := Go.Ground.phase }, { on := 2, ground := Go.Ground.phase }, { on := 3, ground := Go.Ground.phase }, { on := 4, ground := Go.Ground.phase }, { on := 5, ground := Go.Ground.phase }, { on := 6, ground := Go.Ground.phase }, { on := 7, ground := Go.Ground.phase }, { on := 8, ground := Go.Ground.phase }], guard := none }) rfl (fun K hK => ?_) ?_
                    · obtain ⟨u0, u1⟩ := blk_pair_cells HG6.out
                      have uf1 := HG6.out.frozen 1
                      go_simp
                      refine hK.out _ _ trivial (fun hHeld => ?_)
                      clear hK K
                      try simp only [Act.put, List.setIfInBounds_toArray, List.set_cons_zero, List.set_cons_succ]
                      refine wpAnyH_done (by kernel_rfl) ?_ _
                      clear hHeld u0 u1 uf1
                      go_wp2
                      go_roundw
                      case rel => exact ⟨k + 1, m + 1, some ⟨g5, 0, none⟩, cap5, by go_num, by omega, by show _ = _; rw [HST2.out, List.length_append, HM.out]; rfl, owns_set HO6.out (by have := HS4.out; omega), box_put HG6.out _, (HLWW.out.more HB6.out).put _⟩
                      case measure => simp [intOf]; omega
                    exact AllReadyH.nil
                  exact AllReadyH.nil
                exact AllReadyH.nil
              exact AllReadyH.nil
            exact AllReadyH.nil
          refine AllReadyH.cons (o := { dst := some 36, op := Go.Op.load 24 (Go.Operand.tmp 35), type := 24, pos := "l05_share.go:32", after := #[{ on := 2, ground := Go.Ground.data }], guard := none }) rfl (fun K hK => ?_) ?_
          · go_simp
            refine hK.out _ _ trivial (fun hHeld => ?_)
            clear hK K
            try simp only [Act.put, List.setIfInBounds_toArray, List.set_cons_zero, List.set_cons_succ]
            refine wpAnyH_take (i := 5) (oi := { dst := some 38, op := Go.Op.indexAddr 24 (Go.Operand.tmp 36) (Go.Operand.tmp 37), type := 0, pos := "l05_share.go:32", after := #[{ on := 3, ground := Go.Ground.data }, { on := 4, ground := Go.Ground.data }], guard := none }) (v := ?_) rfl (by kernel_rfl) (by kernel_rfl) (by kernel_rfl) (fun _ _ _ h => h) (Or.inl ⟨by kernel_rfl, ?_⟩) (by assumption) ?_
            rotate_left
            · intro w hSw; (try dsimp only at hSw); go_simp; try with_reducible rfl
            simp only [Act.put, List.setIfInBounds_toArray, List.set_cons_zero, List.set_cons_succ]
            refine wpAnyH_ready (rs := [1, 6]) (by kernel_rfl) (by simp) ?_
            refine AllReadyH.cons (o := { dst := some 34, op := Go.Op.load 24 (Go.Operand.tmp 33), type := 24, pos := "l05_share.go:32", after := #[{ on := 0, ground := Go.Ground.data }], guard := none }) rfl (fun K hK => ?_) ?_
            · go_simp
              refine hK.out _ _ trivial (fun hHeld => ?_)
              clear hK K
              try simp only [Act.put, List.setIfInBounds_toArray, List.set_cons_zero, List.set_cons_succ]
              refine wpAnyH_ready (rs := [6]) (by kernel_rfl) (by simp) ?_
              refine AllReadyH.cons (o := { dst := some 39, op := Go.Op.load 37 (Go.Operand.tmp 38), type := 37, pos := "l05_share.go:32", after := #[{ on := 5, ground := Go.Ground.data }], guard := none }) rfl (fun K hK => ?_) ?_
              · go_simp
                refine hK.out _ _ trivial (fun hHeld => ?_)
                clear hK K
                try simp only [Act.put, List.setIfInBounds_toArray, List.set_cons_zero, List.set_cons_succ]
                refine wpAnyH_ready (rs := [7]) (by kernel_rfl) (by simp) ?_
                refine AllReadyH.cons (o := { dst := some 40, op := Go.Op.buildSlice 24 1 #[(0, Go.Operand.tmp 39)], type := 24, pos := "l05_share.go:32", after := #[{ on := 6, ground := Go.Ground.data }], guard := none }) rfl (fun K hK => ?_) ?_
                · go_simp
                  refine hK.out _ _ trivial (fun hHeld => ?_)
                  clear hK K
                  try simp only [Act.put, List.setIfInBounds_toArray, List.set_cons_zero, List.set_cons_succ]
                  refine wpAnyH_ready (rs := [8]) (by kernel_rfl) (by simp) ?_
                  refine AllReadyH.cons (o := { dst := some 41, op := Go.Op.call { callee := Go.Callee.builtin Go.Builtin.append, args := #[Go.Operand.tmp 34, Go.Operand.tmp 40], argTypes := #[24, 24] }, type := 24, pos := "l05_share.go:32", after := #[{ on := 1, ground := Go.Ground.data }, { on := 7, ground := Go.Ground.data }], guard := none }) rfl (fun K hK => ?_) ?_
                  · refine step_append_lies _ rfl (.tmp 34) (.tmp 40) 24 rfl M 37 i0 _ 3 24 Tryd.underlying24 hi0 hz0 hz1 hz2 rfl (by decide) (.slice a' m cap') m (ecells ((l.take k).filter q)) rfl (own_drew' (HOWW.out.alloc _)) ⟨W.heap.size, 0, none⟩ 1 1 [.int .i64 x0, .int .u8 x1, .int .i64 x2] rfl rfl (news_three W _ _ _ 37) (by simp [Value.oneCell']) (by decide) (by unfold maxLen; omega) (by omega) (by simp; omega) _ rfl ?_
                    intro g5 cap5 w6 hown5 hgrow5 _ _
                    have HB6 : Hid (Below M W w6) := ((Below.refl M W).alloc hszW _).grown (grown_undrew' hgrow5) (by simp; omega) (fun k hk => (HOWW.out.lt k hk).1)
                    have HO6 : Hid (w6.ownsRow M 37 3 (.slice (some ⟨g5, 0, none⟩) (m + 1) cap5) (m + 1) (ecells ((l.take (k + 1)).filter q))) := by rw [HST2.out, ecells_snoc]; exact hown5
                    have HG6 : Hid (Blk w6 (B + 2) 2 (fun i => if i = 0 then .int .i64 s else .slice a' m cap')) := HGW.out.of_block (HB6.out.block _ (by have := HS4.out; omega))
                    clear hown5 hgrow5 t1 t1a t1b t1c p0 p1 p2 p0a p1a p2a c1 c1a c1b c1c
                    refine hK.out _ _ trivial (fun hHeld => ?_)
                    clear hK K
                    try simp only [Act.put, List.setIfInBounds_toArray, List.set_cons_zero, List.set_cons_succ]
                    refine wpAnyH_take (i := 9) (oi := { dst := some 42, op := Go.Op.fieldAddr 26 (Go.Operand.tmp 7) 1, type := 0, pos := "l05_share.go:32", after := #[{ on := 0, ground := Go.Ground.phase }, { on := 1, ground := Go.Ground.phase }, { on := 2, ground := Go.Ground.phase }, { on := 3, ground := Go.Ground.phase }, { on := 4, ground := Go.Ground.phase }, { on := 5, ground := Go.Ground.phase }, { on := 6, ground := Go.Ground.phase }, { on := 7, ground := Go.Ground.phase }, { on := 8, ground := Go.Ground.phase }], guard := none }) (v := ?_) rfl (by kernel_rfl) (by kernel_rfl) (by kernel_rfl) (fun _ _ _ h => h) (Or.inl ⟨by kernel_rfl, ?_⟩) (by assumption) ?_
                    rotate_left
                    · intro w hSw; (try dsimp only at hSw); go_simp; try with_reducible rfl
                    simp only [Act.put, List.setIfInBounds_toArray, List.set_cons_zero, List.set_cons_succ]
                    refine wpAnyH_ready (rs := [10]) (by kernel_rfl) (by simp) ?_
                    refine AllReadyH.cons (o := { dst := none, op := Go.Op.store 24 (Go.Operand.tmp 42) (Go.Operand.tmp 41), type := 0, pos := "l05_share.go:32", after := #[{ on := 9, ground := Go.Ground.data }, { on := 8, ground := Go.Ground.data }, { on := 8, ground := Go.Ground.chain }, { on := 0, ground := Go.Ground.phase }, { on := 1, ground := Go.Ground.phase }, { on := 2, ground := Go.Ground.phase }, { on := 3, ground := Go.Ground.phase }, { on := 4, ground := Go.Ground.phase }, { on := 5, ground := Go.Ground.phase }, { on := 6, ground := Go.Ground.phase }, { on := 7, ground := Go.Ground.phase }, { on := 8, ground := Go.Ground.phase }], guard := none }) rfl (fun K hK => ?_) ?_
                    · obtain ⟨u0, u1⟩ := blk_pair_cells HG6.out
                      have uf1 := HG6.out.frozen 1
                      go_simp
                      refine hK.out _ _ trivial (fun hHeld => ?_)
                      clear hK K
                      try simp only [Act.put, List.setIfInBounds_toArray, List.set_cons_zero, List.set_cons_succ]
                      refine wpAnyH_done (by kernel_rfl) ?_ _
                      clear hHeld u0 u1 uf1
                      go_wp2
                      go_roundw
                      case rel => exact ⟨k + 1, m + 1, some ⟨g5, 0, none⟩, cap5, by go_num, by omega, by show _ = _; rw [HST2.out, List.length_append, HM.out]; rfl, owns_set HO6.out (by have := HS4.out; omega), box_put HG6.out _, (HLWW.out.more HB6.out).put _⟩
                      case measure => simp [intOf]; omega
                    exact AllReadyH.nil
                  exact AllReadyH.nil
                exact AllReadyH.nil
              exact AllReadyH.nil
            refine AllReadyH.cons (o := { dst := some 39, op := Go.Op.load 37 (Go.Operand.tmp 38), type := 37, pos := "l05_share.go:32", after := #[{ on := 5, ground := Go.Ground.data }], guard := none }) rfl (fun K hK => ?_) ?_
            · go_simp
              refine hK.out _ _ trivial (fun hHeld => ?_)
              clear hK K
              try simp only [Act.put, List.setIfInBounds_toArray, List.set_cons_zero, List.set_cons_succ]
              refine wpAnyH_ready (rs := [1, 7]) (by kernel_rfl) (by simp) ?_
              refine AllReadyH.cons (o := { dst := some 34, op := Go.Op.load 24 (Go.Operand.tmp 33), type := 24, pos := "l05_share.go:32", after := #[{ on := 0, ground := Go.Ground.data }], guard := none }) rfl (fun K hK => ?_) ?_
              · go_simp
                refine hK.out _ _ trivial (fun hHeld => ?_)
                clear hK K
                try simp only [Act.put, List.setIfInBounds_toArray, List.set_cons_zero, List.set_cons_succ]
                refine wpAnyH_ready (rs := [7]) (by kernel_rfl) (by simp) ?_
                refine AllReadyH.cons (o := { dst := some 40, op := Go.Op.buildSlice 24 1 #[(0, Go.Operand.tmp 39)], type := 24, pos := "l05_share.go:32", after := #[{ on := 6, ground := Go.Ground.data }], guard := none }) rfl (fun K hK => ?_) ?_
                · go_simp
                  refine hK.out _ _ trivial (fun hHeld => ?_)
                  clear hK K
                  try simp only [Act.put, List.setIfInBounds_toArray, List.set_cons_zero, List.set_cons_succ]
                  refine wpAnyH_ready (rs := [8]) (by kernel_rfl) (by simp) ?_
                  refine AllReadyH.cons (o := { dst := some 41, op := Go.Op.call { callee := Go.Callee.builtin Go.Builtin.append, args := #[Go.Operand.tmp 34, Go.Operand.tmp 40], argTypes := #[24, 24] }, type := 24, pos := "l05_share.go:32", after := #[{ on := 1, ground := Go.Ground.data }, { on := 7, ground := Go.Ground.data }], guard := none }) rfl (fun K hK => ?_) ?_
                  · refine step_append_lies _ rfl (.tmp 34) (.tmp 40) 24 rfl M 37 i0 _ 3 24 Tryd.underlying24 hi0 hz0 hz1 hz2 rfl (by decide) (.slice a' m cap') m (ecells ((l.take k).filter q)) rfl (own_drew' (HOWW.out.alloc _)) ⟨W.heap.size, 0, none⟩ 1 1 [.int .i64 x0, .int .u8 x1, .int .i64 x2] rfl rfl (news_three W _ _ _ 37) (by simp [Value.oneCell']) (by decide) (by unfold maxLen; omega) (by omega) (by simp; omega) _ rfl ?_
                    intro g5 cap5 w6 hown5 hgrow5 _ _
                    have HB6 : Hid (Below M W w6) := ((Below.refl M W).alloc hszW _).grown (grown_undrew' hgrow5) (by simp; omega) (fun k hk => (HOWW.out.lt k hk).1)
                    have HO6 : Hid (w6.ownsRow M 37 3 (.slice (some ⟨g5, 0, none⟩) (m + 1) cap5) (m + 1) (ecells ((l.take (k + 1)).filter q))) := by rw [HST2.out, ecells_snoc]; exact hown5
                    have HG6 : Hid (Blk w6 (B + 2) 2 (fun i => if i = 0 then .int .i64 s else .slice a' m cap')) := HGW.out.of_block (HB6.out.block _ (by have := HS4.out; omega))
                    clear hown5 hgrow5 t1 t1a t1b t1c p0 p1 p2 p0a p1a p2a c1 c1a c1b c1c
                    refine hK.out _ _ trivial (fun hHeld => ?_)
                    clear hK K
                    try simp only [Act.put, List.setIfInBounds_toArray, List.set_cons_zero, List.set_cons_succ]
                    refine wpAnyH_take (i := 9) (oi := { dst := some 42, op := Go.Op.fieldAddr 26 (Go.Operand.tmp 7) 1, type := 0, pos := "l05_share.go:32", after := #[{ on := 0, ground := Go.Ground.phase }, { on := 1, ground := Go.Ground.phase }, { on := 2, ground := Go.Ground.phase }, { on := 3, ground := Go.Ground.phase }, { on := 4, ground := Go.Ground.phase }, { on := 5, ground := Go.Ground.phase }, { on := 6, ground := Go.Ground.phase }, { on := 7, ground := Go.Ground.phase }, { on := 8, ground := Go.Ground.phase }], guard := none }) (v := ?_) rfl (by kernel_rfl) (by kernel_rfl) (by kernel_rfl) (fun _ _ _ h => h) (Or.inl ⟨by kernel_rfl, ?_⟩) (by assumption) ?_
                    rotate_left
                    · intro w hSw; (try dsimp only at hSw); go_simp; try with_reducible rfl
                    simp only [Act.put, List.setIfInBounds_toArray, List.set_cons_zero, List.set_cons_succ]
                    refine wpAnyH_ready (rs := [10]) (by kernel_rfl) (by simp) ?_
                    refine AllReadyH.cons (o := { dst := none, op := Go.Op.store 24 (Go.Operand.tmp 42) (Go.Operand.tmp 41), type := 0, pos := "l05_share.go:32", after := #[{ on := 9, ground := Go.Ground.data }, { on := 8, ground := Go.Ground.data }, { on := 8, ground := Go.Ground.chain }, { on := 0, ground := Go.Ground.phase }, { on := 1, ground := Go.Ground.phase }, { on := 2, ground := Go.Ground.phase }, { on := 3, ground := Go.Ground.phase }, { on := 4, ground := Go.Ground.phase }, { on := 5, ground := Go.Ground.phase }, { on := 6, ground := Go.Ground.phase }, { on := 7, ground := Go.Ground.phase }, { on := 8, ground := Go.Ground.phase }], guard := none }) rfl (fun K hK => ?_) ?_
                    · obtain ⟨u0, u1⟩ := blk_pair_cells HG6.out
                      have uf1 := HG6.out.frozen 1
                      go_simp
                      refine hK.out _ _ trivial (fun hHeld => ?_)
                      clear hK K
                      try simp only [Act.put, List.setIfInBounds_toArray, List.set_cons_zero, List.set_cons_succ]
                      refine wpAnyH_done (by kernel_rfl) ?_ _
                      clear hHeld u0 u1 uf1
                      go_wp2
                      go_roundw
                      case rel => exact ⟨k + 1, m + 1, some ⟨g5, 0, none⟩, cap5, by go_num, by omega, by show _ = _; rw [HST2.out, List.length_append, HM.out]; rfl, owns_set HO6.out (by have := HS4.out; omega), box_put HG6.out _, (HLWW.out.more HB6.out).put _⟩
                      case measure => simp [intOf]; omega
                    exact AllReadyH.nil
                  exact AllReadyH.nil
                exact AllReadyH.nil
              refine AllReadyH.cons (o := { dst := some 40, op := Go.Op.buildSlice 24 1 #[(0, Go.Operand.tmp 39)], type := 24, pos := "l05_share.go:32", after := #[{ on := 6, ground := Go.Ground.data }], guard := none }) rfl (fun K hK => ?_) ?_
              · go_simp
                refine hK.out _ _ trivial (fun hHeld => ?_)
                clear hK K
                try simp only [Act.put, List.setIfInBounds_toArray, List.set_cons_zero, List.set_cons_succ]
                refine wpAnyH_ready (rs := [1]) (by kernel_rfl) (by simp) ?_
                refine AllReadyH.cons (o := { dst := some 34, op := Go.Op.load 24 (Go.Operand.tmp 33), type := 24, pos := "l05_share.go:32", after := #[{ on := 0, ground := Go.Ground.data }], guard := none }) rfl (fun K hK => ?_) ?_
                · go_simp
                  refine hK.out _ _ trivial (fun hHeld => ?_)
                  clear hK K
                  try simp only [Act.put, List.setIfInBounds_toArray, List.set_cons_zero, List.set_cons_succ]
                  refine wpAnyH_ready (rs := [8]) (by kernel_rfl) (by simp) ?_
                  refine AllReadyH.cons (o := { dst := some 41, op := Go.Op.call { callee := Go.Callee.builtin Go.Builtin.append, args := #[Go.Operand.tmp 34, Go.Operand.tmp 40], argTypes := #[24, 24] }, type := 24, pos := "l05_share.go:32", after := #[{ on := 1, ground := Go.Ground.data }, { on := 7, ground := Go.Ground.data }], guard := none }) rfl (fun K hK => ?_) ?_
                  · refine step_append_lies _ rfl (.tmp 34) (.tmp 40) 24 rfl M 37 i0 _ 3 24 Tryd.underlying24 hi0 hz0 hz1 hz2 rfl (by decide) (.slice a' m cap') m (ecells ((l.take k).filter q)) rfl (own_drew' (HOWW.out.alloc _)) ⟨W.heap.size, 0, none⟩ 1 1 [.int .i64 x0, .int .u8 x1, .int .i64 x2] rfl rfl (news_three W _ _ _ 37) (by simp [Value.oneCell']) (by decide) (by unfold maxLen; omega) (by omega) (by simp; omega) _ rfl ?_
                    intro g5 cap5 w6 hown5 hgrow5 _ _
                    have HB6 : Hid (Below M W w6) := ((Below.refl M W).alloc hszW _).grown (grown_undrew' hgrow5) (by simp; omega) (fun k hk => (HOWW.out.lt k hk).1)
                    have HO6 : Hid (w6.ownsRow M 37 3 (.slice (some ⟨g5, 0, none⟩) (m + 1) cap5) (m + 1) (ecells ((l.take (k + 1)).filter q))) := by rw [HST2.out, ecells_snoc]; exact hown5
                    have HG6 : Hid (Blk w6 (B + 2) 2 (fun i => if i = 0 then .int .i64 s else .slice a' m cap')) := HGW.out.of_block (HB6.out.block _ (by have := HS4.out; omega))
                    clear hown5 hgrow5 t1 t1a t1b t1c p0 p1 p2 p0a p1a p2a c1 c1a c1b c1c
                    refine hK.out _ _ trivial (fun hHeld => ?_)
                    clear hK K
                    try simp only [Act.put, List.setIfInBounds_toArray, List.set_cons_zero, List.set_cons_succ]
                    refine wpAnyH_take (i := 9) (oi := { dst := some 42, op := Go.Op.fieldAddr 26 (Go.Operand.tmp 7) 1, type := 0, pos := "l05_share.go:32", after := #[{ on := 0, ground := Go.Ground.phase }, { on := 1, ground := Go.Ground.phase }, { on := 2, ground := Go.Ground.phase }, { on := 3, ground := Go.Ground.phase }, { on := 4, ground := Go.Ground.phase }, { on := 5, ground := Go.Ground.phase }, { on := 6, ground := Go.Ground.phase }, { on := 7, ground := Go.Ground.phase }, { on := 8, ground := Go.Ground.phase }], guard := none }) (v := ?_) rfl (by kernel_rfl) (by kernel_rfl) (by kernel_rfl) (fun _ _ _ h => h) (Or.inl ⟨by kernel_rfl, ?_⟩) (by assumption) ?_
                    rotate_left
                    · intro w hSw; (try dsimp only at hSw); go_simp; try with_reducible rfl
                    simp only [Act.put, List.setIfInBounds_toArray, List.set_cons_zero, List.set_cons_succ]
                    refine wpAnyH_ready (rs := [10]) (by kernel_rfl) (by simp) ?_
                    refine AllReadyH.cons (o := { dst := none, op := Go.Op.store 24 (Go.Operand.tmp 42) (Go.Operand.tmp 41), type := 0, pos := "l05_share.go:32", after := #[{ on := 9, ground := Go.Ground.data }, { on := 8, ground := Go.Ground.data }, { on := 8, ground := Go.Ground.chain }, { on := 0, ground := Go.Ground.phase }, { on := 1, ground := Go.Ground.phase }, { on := 2, ground := Go.Ground.phase }, { on := 3, ground := Go.Ground.phase }, { on := 4, ground := Go.Ground.phase }, { on := 5, ground := Go.Ground.phase }, { on := 6, ground := Go.Ground.phase }, { on := 7, ground := Go.Ground.phase }, { on := 8, ground := Go.Ground.phase }], guard := none }) rfl (fun K hK => ?_) ?_
                    · obtain ⟨u0, u1⟩ := blk_pair_cells HG6.out
                      have uf1 := HG6.out.frozen 1
                      go_simp
                      refine hK.out _ _ trivial (fun hHeld => ?_)
                      clear hK K
                      try simp only [Act.put, List.setIfInBounds_toArray, List.set_cons_zero, List.set_cons_succ]
                      refine wpAnyH_done (by kernel_rfl) ?_ _
                      clear hHeld u0 u1 uf1
                      go_wp2
                      go_roundw
                      case rel => exact ⟨k + 1, m + 1, some ⟨g5, 0, none⟩, cap5, by go_num, by omega, by show _ = _; rw [HST2.out, List.length_append, HM.out]; rfl, owns_set HO6.out (by have := HS4.out; omega), box_put HG6.out _, (HLWW.out.more HB6.out).put _⟩
                      case measure => simp [intOf]; omega
                    exact AllReadyH.nil
                  exact AllReadyH.nil
                exact AllReadyH.nil
              exact AllReadyH.nil
            exact AllReadyH.nil
          exact AllReadyH.nil

        · have HST2 : Hid ((l.take (k + 1)).filter q = (l.take k).filter q) := by show _ = _; rw [HST.out]; simp [hz]
          have hd : (z == wk) = false := by simpa using hz
          have hd2 : decide (z = wk) = false := decide_eq_false hz
          clear HST
          go_wp2
          go_roundw
          case rel => exact ⟨k + 1, m, a', cap', by go_num, by omega, by rw [HST2.out]; exact HM, by rw [HST2.out]; exact HOWW, HGW, HLWW⟩
          case measure => simp [intOf]; omega
      · obtain rfl : k = n := by omega
        obtain ⟨PL, HPE⟩ : ∃ PL, Hid (PL = (l.take k).filter q) := ⟨_, rfl⟩
        rw [← HPE.out] at HM HOW
        have HPL : Hid (partL s l wk nw = PL) := by show _ = _; rw [HPE.out, HQ.out, ← HN.out, List.take_length]; exact partL_yes wk nw HOK.out
        obtain ⟨g0, g1⟩ := blk_pair_cells HG.out
        obtain ⟨r0, r1⟩ := blk_pair_cells (HL.out.blk HR4.out (by omega) (by have := HS4.out; omega))
        have rf0 := (HL.out.blk HR4.out (by omega) (by have := HS4.out; omega)).frozen 0
        have rf1 := (HL.out.blk HR4.out (by omega) (by have := HS4.out; omega)).frozen 1
        have HEO : Hid (EdgesOwn M wr.heap.size wr a' PL) := own_in' HOW.out HM.out
        have HLW : Hid (Below w.heap.size w wr) := HB4.out.trans (HL.out.low (by have := HS4.out; have := HB.out; have := HMM.out; omega) (by have := HB.out; omega) (by have := HS4.out; have := HB.out; omega))
        have HSM : Hid (B + 3 ≤ M) := by have := HS4.out; show _ ≤ _; omega
        have HMW : Hid (w4.heap.size ≤ wr.heap.size) := HL.out.size
        clear HOW
        go_wp2
        refine bodyPost_ret (v := .agg #[.int .i64 s, .slice a' m cap']) (by simp [results, Tryd.results28, go_sem, r0, r1]) rfl ?_
        refine ⟨a', m, cap', rfl, by rw [HPL.out]; exact HM, ?_, ?_⟩
        · rw [HPL.out]
          show EdgesOwn _ _ _ _ _
          exact ((HEO.out.setCell (b := B + 1) (j := 0) (by have := HSM.out; omega) _).setCell (b := B + 1) (j := 1) (by have := HSM.out; omega) _).wide (by have := HSM.out; have := HB.out; omega) (by simp)
        · show Below _ _ _
          exact (HLW.out.setCell (p := ⟨B + 1, 0, none⟩) (by show w.heap.size ≤ B + 1; have := HB.out; omega) _).setCell (p := ⟨B + 1, 1, none⟩) (by show w.heap.size ≤ B + 1; have := HB.out; omega) _
  · subst hr
    have HPL : Hid (partL s l wk nw = []) := partL_no wk nw HR.out.symm
    clear HR
    obtain ⟨g0, g1⟩ := blk_pair_cells HP4.out
    obtain ⟨r0, r1⟩ := blk_pair_cells HR4.out
    have rf0 := HR4.out.frozen 0
    have rf1 := HR4.out.frozen 1
    go_wp2
    refine bodyPost_ret (v := .agg #[.int .i64 s, .slice none 0 0]) (by simp [results, Tryd.results28, go_sem, r0, r1]) rfl ?_
    refine ⟨none, 0, 0, rfl, by rw [HPL.out]; rfl, by rw [HPL.out]; exact .inl rfl, ?_⟩
    show Below _ _ _
    exact (HB4.out.setCell (p := ⟨B + 1, 0, none⟩) (by show w.heap.size ≤ B + 1; have := HB.out; omega) _).setCell (p := ⟨B + 1, 1, none⟩) (by show w.heap.size ≤ B + 1; have := HB.out; omega) _

end Go.Proofs.YtigojleieihdoaaDoor
