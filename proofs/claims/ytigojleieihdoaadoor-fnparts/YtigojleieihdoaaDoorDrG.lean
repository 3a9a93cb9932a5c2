/-
  A drawn graph: spec.l04Graph, spec.DrawGraph.
-/
import Derived.Test.YtigojleieihdoaaDoorDrE
import Derived.Test.YtigojleieihdoaaDoorGAddS
import Derived.Test.YtigojleieihdoaaDoorGCln
import Derived.Deep.RegionHeld3
namespace Go.Proofs.YtigojleieihdoaaDoor
open Go.RowKit

theorem okE_in {s : Int} {x : Ed} (h : edIn s x) : okE s x = true := by
  obtain ⟨h1, h2, h3⟩ := h
  unfold okE inV
  simp only [Bool.and_eq_true, decide_eq_true_eq]
  omega
/-- what a drawn graph is behind j rounds -/
def GDr (s : Int) (L : List Ed) (j : Nat) : Prop := okG s L = true ∧ L.length ≤ j ∧ (1 ≤ j → L ≠ [])
theorem gadd_drawn {s : Int} {L : List Ed} {x : Ed} {j : Nat} (h : GDr s L j) (hx : edIn s x) (hj : j ≤ 9) (h1 : 1 ≤ s) (h2 : s ≤ 12) : GDr s (gaddL s L x) (j + 1) := by
  have hl := putE_len L x
  have hlj := h.2.1
  have ho := okG_iff.1 h.1
  have hp : okG s (putE L x) = true := okG_iff.2 ⟨⟨h1, h2⟩, by omega, fun y hy => by
    rcases mem_putE.1 hy with rfl | hy
    · exact okE_in hx
    · exact ho.2.2.1 y hy, srt_putE ho.2.2.2 x⟩
  have e : gaddL s L x = putE L x := by unfold gaddL gaddOk; rw [h.1, hp]; rfl
  rw [e]
  refine ⟨hp, by omega, fun _ h0 => ?_⟩
  have : x ∈ putE L x := mem_putE.2 (.inl rfl)
  rw [h0] at this
  cases this
/-- what a round leaves -/
def GRel (w wr : World) (p n cap : Nat) (ao : Option Addr) (B B3 : Nat) (s : Int) (j : Nat) (a : Option Addr) (nL cL : Nat) (L : List Ed) : Prop :=
  Hid (EdgesIn (B3 + 1) wr.heap.size wr a L) ∧ Hid (GDr s L j) ∧ Hid (Blk wr B3 2 (fun i => if i = 0 then .int .i64 s else .slice a nL cL)) ∧ Hid (Blk wr B 2 (fun i => if i = 0 then .int .i64 0 else .slice none 0 0)) ∧ Hid (CurL p ao n cap wr) ∧ Hid (KeptBut p w wr)
theorem graph_rel {w w4 : World} {p n cap : Nat} {ao : Option Addr} {B B3 : Nat} {s : Int} {j : Nat} {a a0 : Option Addr} {nL cL n0 c0 : Nat} {L : List Ed} {j' : Nat} (hjj : j' = j) (hl : p < w.heap.size ∧ w.heap.size = B ∧ B < B3) (he : EdgesOwn (B3 + 1) w4.heap.size w4 a L) (hg : Blk w4 B3 2 (fun i => if i = 0 then .int .i64 s else .slice a0 n0 c0)) (hr : Blk w4 B 2 (fun i => if i = 0 then .int .i64 0 else .slice none 0 0)) (hc : CurL p ao n cap w4) (hk : KeptBut p w w4) (hd : GDr s L j) :
    GRel w ((w4.setCell ⟨B3, 0, none⟩ (.int .i64 s)).setCell ⟨B3, 1, none⟩ (.slice a nL cL)) p n cap ao B B3 s j' a nL cL L := by
  subst hjj
  refine ⟨((he.setCell (Nat.lt_succ_self _) _).setCell (Nat.lt_succ_self _) _).toIn.wide (Nat.le_refl _) (by simp), hd, ?_, ?_, ?_, ?_⟩
  · exact ((hg.set 0 (by omega) _).set 1 (by omega) _).congr (fun i hi => by rcases (show i = 0 ∨ i = 1 by omega) with rfl | rfl <;> simp)
  · refine hr.of_block ?_
    rw [Below.heap_setCell _ ⟨B3, 1, none⟩ _ B (by show B ≠ B3; omega), Below.heap_setCell _ ⟨B3, 0, none⟩ _ B (by show B ≠ B3; omega)]
  · exact hc.below (((Below.refl B3 w4).setCell (Nat.le_refl _) _).setCell (Nat.le_refl _) _) (by omega)
  · exact (hk.setOut (by omega) _).setOut (by omega) _

set_option maxHeartbeats 8000000 in
set_option maxRecDepth 100000 in
theorem l04Graph_any (w : World) (p n cap : Nat) (ao : Option Addr) (hc : CurL p ao n cap w) :
    Calls Tryd.prog 30 #[.pointer (some ⟨p, 0, none⟩)] w fun e w' => ∃ (s : Int) (a : Option Addr) (nL cL : Nat) (L : List Ed), e = .returned (gv s a nL cL) ∧ Hid (L.length = nL) ∧ Hid (EdgesIn w.heap.size w'.heap.size w' a L) ∧ Hid (GDr s L 10 ∧ 2 ≤ s ∧ s ≤ 5) ∧ Hid (CurL p ao n cap w') ∧ Hid (KeptBut p w w') := by
  have HP : Hid (p < w.heap.size) := hc.lt
  obtain ⟨B, HB⟩ : ∃ B, Hid (w.heap.size = B) := ⟨_, rfl⟩
  have HC : Hid (CurL p ao n cap w) := hc
  clear hc
  go_enter Tryd.func30, Tryd.ntmps30
  go_wp2_with fail
  rw [HB.out]
  generalize hW : World.alloc _ _ = W
  have HC1 : Hid (CurL p ao n cap W) := by show CurL _ _ _ _ _; rw [← hW]; exact HC.out.below (below1 w _) HP.out
  have HK1 : Hid (KeptBut p w W) := by show KeptBut _ _ _; rw [← hW]; exact (KeptBut.refl p w).below (below1 w _)
  have HR1 : Hid (Blk W B 2 (fun i => if i = 0 then .int .i64 0 else .slice none 0 0)) := by show Blk _ _ _ _; rw [← hW]; exact blk_two w B HB.out.symm _ _ _
  clear hW
  refine (HC1.out.draw 4 (by omega) (by omega)).mono ?_
  rintro e w1 ⟨x0, rfl, x00, x01, HC2, HK2⟩
  obtain ⟨B3, HB3⟩ : ∃ B3, Hid (w1.heap.size = B3) := ⟨_, rfl⟩
  have HR2 : Hid (Blk w1 B 2 (fun i => if i = 0 then .int .i64 0 else .slice none 0 0)) := HR1.out.keptBut HK2.out (by have := HP.out; have := HB.out; omega)
  have HK3 : Hid (KeptBut p w w1) := HK1.out.trans HK2.out
  have HPL : Hid (p < w.heap.size ∧ w.heap.size = B ∧ B < B3) := ⟨HP.out, HB.out, by have := HR2.out.lt; have := HB3.out; omega⟩
  have HPB : Hid (B ≠ p ∧ B3 ≠ p) := by have := HPL.out; exact ⟨by omega, by omega⟩
  have HPP : Hid (p < B3 + 1) := by have := HPL.out; show p < B3 + 1; omega
  clear HC1 HK1 HR1 HK2 HP HC
  go_wp2
  rw [HB3.out]
  go_loopw [4] (fun i wr => ∃ (j : Nat) (a : Option Addr) (nL cL : Nat) (L : List Ed), i = .int .i64 j ∧ j ≤ 10 ∧ Hid (L.length = nL) ∧ GRel w wr p n cap ao B B3 (2 + x0) j a nL cL L) (fun i _ => 10 - (intOf i).toNat)
  case atStart =>
    refine ⟨0, none, 0, 0, [], rfl, by omega, rfl, .inl rfl, ⟨okG_iff.2 ⟨⟨by omega, by omega⟩, by simp, by simp, List.Pairwise.nil⟩, by simp, by omega⟩, ?_, ?_, ?_, ?_⟩
    · exact blk_two w1 B3 HB3.out.symm _ _ _
    · exact HR2.out.alloc _
    · exact HC2.out.below (below1 w1 _) HC2.out.lt
    · exact HK3.out.below (below1 w1 _)
  case round =>
    obtain ⟨j, a, nL, cL, L, rfl, hj, HLN, HE1, HLO, HG1, HR1, HCU1, HKK1⟩ := hrel
    clear HC2 HR2 HK3
    go_wp2_with fail
    refine (HCU1.out.draw 9 (by omega) (by omega)).mono ?_
    rintro e w2 ⟨y, rfl, hy0, hy1, HCU2, HK2⟩
    have HKK2 : Hid (KeptBut p w w2) := HKK1.out.trans HK2.out
    have HG2 : Hid (Blk w2 B3 2 (fun i => if i = 0 then .int .i64 (2 + x0) else .slice a nL cL)) := HG1.out.keptBut HK2.out HPB.out.2
    have HR2 : Hid (Blk w2 B 2 (fun i => if i = 0 then .int .i64 0 else .slice none 0 0)) := HR1.out.keptBut HK2.out HPB.out.1
    have HE2 : Hid (EdgesIn (B3 + 1) w2.heap.size w2 a L) := (HE1.out.keptBut HK2.out HPP.out (Nat.le_refl _)).wide (Nat.le_refl _) HK2.out.size
    obtain ⟨c0, c1⟩ := blk_pair_cells HG2.out
    clear HE1 HG1 HR1 HCU1 HKK1 HK2
    by_cases hlt : (j : Int) < 2 + y
    · have hj9 : j ≤ 9 := by omega
      go_wp2_with fail
      refine wp_region_held_drew (S := fun _ => True) (by kernel_rfl) trivial (fun hHeld => ?_)
      refine wpAnyH_take (i := 1) (oi := { dst := some 18, op := Go.Op.move (Go.Operand.tmp 0), type := 53, pos := "l04_graph.go:136", after := #[], guard := none }) (v := ?_) rfl (by kernel_rfl) (by kernel_rfl) (by kernel_rfl) (fun _ _ _ h => h) (Or.inl ⟨by kernel_rfl, ?_⟩) (by assumption) ?_
      rotate_left
      · intro w hSw; (try dsimp only at hSw); go_simp; try with_reducible rfl
      simp only [Act.put, List.setIfInBounds_toArray, List.set_cons_zero, List.set_cons_succ]
      refine wpAnyH_take (i := 2) (oi := { dst := some 19, op := Go.Op.fieldAddr 26 (Go.Operand.tmp 3) 0, type := 0, pos := "l04_graph.go:136", after := #[], guard := none }) (v := ?_) rfl (by kernel_rfl) (by kernel_rfl) (by kernel_rfl) (fun _ _ _ h => h) (Or.inl ⟨by kernel_rfl, ?_⟩) (by assumption) ?_
      rotate_left
      · intro w hSw; (try dsimp only at hSw); go_simp; try with_reducible rfl
      simp only [Act.put, List.setIfInBounds_toArray, List.set_cons_zero, List.set_cons_succ]
      refine wpAnyH_ready (rs := [0, 3]) (by kernel_rfl) (by simp) ?_
      refine AllReadyH.cons (o := { dst := some 17, op := Go.Op.load 26 (Go.Operand.tmp 3), type := 26, pos := "l04_graph.go:136", after := #[], guard := none }) rfl (fun K hK => ?_) ?_
      · go_simp
        refine hK.out _ _ trivial (fun hHeld => ?_)
        clear hK K
        try simp only [Act.put, List.setIfInBounds_toArray, List.set_cons_zero, List.set_cons_succ]
        refine wpAnyH_ready (rs := [3]) (by kernel_rfl) (by simp) ?_
        refine AllReadyH.cons (o := { dst := some 20, op := Go.Op.load 3 (Go.Operand.tmp 19), type := 3, pos := "l04_graph.go:136", after := #[{ on := 2, ground := Go.Ground.data }], guard := none }) rfl (fun K hK => ?_) ?_
        · go_simp
          refine hK.out _ _ trivial (fun hHeld => ?_)
          clear hK K
          try simp only [Act.put, List.setIfInBounds_toArray, List.set_cons_zero, List.set_cons_succ]
          refine wpAnyH_ready (rs := [4]) (by kernel_rfl) (by simp) ?_
          refine AllReadyH.cons (o := { dst := some 21, op := Go.Op.call { callee := Go.Callee.value (Go.Operand.func 55), args := #[Go.Operand.tmp 18, Go.Operand.tmp 20], argTypes := #[53, 3] }, type := 37, pos := "l04_graph.go:136", after := #[{ on := 1, ground := Go.Ground.data }, { on := 3, ground := Go.Ground.data }], guard := none }) rfl (fun K hK => ?_) ?_
          · go_simp
            go_wp2_with (go_at_call 55; refine (l04Edge_any _ p n cap ao (2 + x0) (by omega) (by omega) (HCU2.out.below ((Below.refl _ _).drew) HCU2.out.lt)).mono ?_; rintro e w3 ⟨x, rfl, HX, HC3, HK3⟩)
            have HK3' : Hid (KeptBut p w2 w3) := ((KeptBut.refl p w2).below ((Below.refl _ _).drew)).trans HK3.out
            have HKK3 : Hid (KeptBut p w w3) := HKK2.out.trans HK3'.out
            have HG3 : Hid (Blk w3 B3 2 (fun i => if i = 0 then .int .i64 (2 + x0) else .slice a nL cL)) := HG2.out.keptBut HK3'.out HPB.out.2
            have HR3 : Hid (Blk w3 B 2 (fun i => if i = 0 then .int .i64 0 else .slice none 0 0)) := HR2.out.keptBut HK3'.out HPB.out.1
            have HE3 : Hid (EdgesIn (B3 + 1) w3.heap.size w3 a L) := (HE2.out.keptBut HK3'.out HPP.out (Nat.le_refl _)).wide (Nat.le_refl _) HK3'.out.size
            obtain ⟨c0, c1⟩ := blk_pair_cells HG3.out
            clear HK3 HK3' HKK2 HG2 HR2 HE2 HCU2
            refine hK.out _ _ trivial (fun hHeld => ?_)
            clear hK K
            try simp only [Act.put, List.setIfInBounds_toArray, List.set_cons_zero, List.set_cons_succ]
            refine wpAnyH_ready (rs := [5]) (by kernel_rfl) (by simp) ?_
            refine AllReadyH.cons (o := { dst := some 22, op := Go.Op.call { callee := Go.Callee.value (Go.Operand.func 54), args := #[Go.Operand.tmp 17, Go.Operand.tmp 21], argTypes := #[26, 37] }, type := 38, pos := "l04_graph.go:136", after := #[{ on := 0, ground := Go.Ground.data }, { on := 4, ground := Go.Ground.data }, { on := 4, ground := Go.Ground.chain }], guard := none }) rfl (fun K hK => ?_) ?_
            · go_simp
              go_wp2_with (go_at_call 54; refine (specGAdd_any (B3 + 1) _ (2 + x0) a nL cL L x w3 HE3.out (Nat.le_refl _) HLN.out (by have := HLN.out; have := HLO.out.2.1; omega)).mono ?_; rintro e w4 ⟨a4, n4, c4, ok4, rfl, HOK4, HN4, HE4, HB4⟩)
              have HC4 : Hid (CurL p ao n cap w4) := HC3.out.below HB4.out HC3.out.lt
              have HKK4 : Hid (KeptBut p w w4) := HKK3.out.below HB4.out
              have HG4 : Hid (Blk w4 B3 2 (fun i => if i = 0 then .int .i64 (2 + x0) else .slice a nL cL)) := HG3.out.of_block (HB4.out.block _ HG3.out.lt)
              have HR4 : Hid (Blk w4 B 2 (fun i => if i = 0 then .int .i64 0 else .slice none 0 0)) := HR3.out.of_block (HB4.out.block _ HR3.out.lt)
              have HE4' : Hid (EdgesOwn (B3 + 1) w4.heap.size w4 a4 (gaddL (2 + x0) L x)) := HE4.out.wide HG3.out.lt (Nat.le_refl _)
              clear HC3 HKK3 HG3 HR3 HE3 HE4 HB4 HOK4 c0 c1
              refine hK.out _ _ trivial (fun hHeld => ?_)
              clear hK K
              try simp only [Act.put, List.setIfInBounds_toArray, List.set_cons_zero, List.set_cons_succ]
              refine wpAnyH_take (i := 6) (oi := { dst := some 16, op := Go.Op.move (Go.Operand.tmp 22), type := 38, pos := "l04_graph.go:136", after := #[{ on := 5, ground := Go.Ground.data }], guard := none }) (v := ?_) rfl (by kernel_rfl) (by kernel_rfl) (by kernel_rfl) (fun _ _ _ h => h) (Or.inl ⟨by kernel_rfl, ?_⟩) (by assumption) ?_
              rotate_left
              · intro w hSw; (try dsimp only at hSw); go_simp; try with_reducible rfl
              simp only [Act.put, List.setIfInBounds_toArray, List.set_cons_zero, List.set_cons_succ]
              refine wpAnyH_take (i := 7) (oi := { dst := some 23, op := Go.Op.extract (Go.Operand.tmp 16) 0, type := 26, pos := "l04_graph.go:136", after := #[{ on := 6, ground := Go.Ground.data }], guard := none }) (v := ?_) rfl (by kernel_rfl) (by kernel_rfl) (by kernel_rfl) (fun _ _ _ h => h) (Or.inl ⟨by kernel_rfl, ?_⟩) (by assumption) ?_
              rotate_left
              · intro w hSw; (try dsimp only at hSw); go_simp; try with_reducible rfl
              simp only [Act.put, List.setIfInBounds_toArray, List.set_cons_zero, List.set_cons_succ]
              refine wpAnyH_take (i := 8) (oi := { dst := some 24, op := Go.Op.extract (Go.Operand.tmp 16) 1, type := 4, pos := "l04_graph.go:136", after := #[{ on := 6, ground := Go.Ground.data }, { on := 9, ground := Go.Ground.gcOnly Go.Departure.lateStores }], guard := none }) (v := ?_) rfl (by kernel_rfl) (by kernel_rfl) (by kernel_rfl) (fun _ _ _ h => h) (Or.inl ⟨by kernel_rfl, ?_⟩) (by assumption) ?_
              rotate_left
              · intro w hSw; (try dsimp only at hSw); go_simp; try with_reducible rfl
              simp only [Act.put, List.setIfInBounds_toArray, List.set_cons_zero, List.set_cons_succ]
              refine wpAnyH_ready (rs := [9]) (by kernel_rfl) (by simp) ?_
              refine AllReadyH.cons (o := { dst := none, op := Go.Op.store 26 (Go.Operand.tmp 3) (Go.Operand.tmp 23), type := 0, pos := "l04_graph.go:136", after := #[{ on := 7, ground := Go.Ground.data }, { on := 5, ground := Go.Ground.chain }, { on := 0, ground := Go.Ground.phase }, { on := 1, ground := Go.Ground.phase }, { on := 2, ground := Go.Ground.phase }, { on := 3, ground := Go.Ground.phase }, { on := 4, ground := Go.Ground.phase }, { on := 5, ground := Go.Ground.phase }, { on := 6, ground := Go.Ground.phase }, { on := 7, ground := Go.Ground.phase }, { on := 8, ground := Go.Ground.textOnly Go.Departure.lateStores }], guard := none }) rfl (fun K hK => ?_) ?_
              · obtain ⟨d0, d1⟩ := blk_pair_cells HG4.out
                have df0 := HG4.out.frozen 0
                have df1 := HG4.out.frozen 1
                go_simp
                refine hK.out _ _ trivial (fun hHeld => ?_)
                clear hK K
                try simp only [Act.put, List.setIfInBounds_toArray, List.set_cons_zero, List.set_cons_succ]
                refine wpAnyH_done (by kernel_rfl) ?_ _
                clear hHeld d0 d1 df0 df1
                go_wp2
                go_roundw
                case rel => exact ⟨j + 1, a4, n4, c4, _, by go_num, by omega, HN4, graph_rel (by omega) HPL.out HE4'.out HG4.out HR4.out HC4.out HKK4.out (gadd_drawn HLO.out HX.out hj9 (by omega) (by omega))⟩
                case measure => simp [intOf]; omega
              exact AllReadyH.nil
            exact AllReadyH.nil
          exact AllReadyH.nil
        exact AllReadyH.nil
      refine AllReadyH.cons (o := { dst := some 20, op := Go.Op.load 3 (Go.Operand.tmp 19), type := 3, pos := "l04_graph.go:136", after := #[{ on := 2, ground := Go.Ground.data }], guard := none }) rfl (fun K hK => ?_) ?_
      · go_simp
        refine hK.out _ _ trivial (fun hHeld => ?_)
        clear hK K
        try simp only [Act.put, List.setIfInBounds_toArray, List.set_cons_zero, List.set_cons_succ]
        refine wpAnyH_ready (rs := [0, 4]) (by kernel_rfl) (by simp) ?_
        refine AllReadyH.cons (o := { dst := some 17, op := Go.Op.load 26 (Go.Operand.tmp 3), type := 26, pos := "l04_graph.go:136", after := #[], guard := none }) rfl (fun K hK => ?_) ?_
        · go_simp
          refine hK.out _ _ trivial (fun hHeld => ?_)
          clear hK K
          try simp only [Act.put, List.setIfInBounds_toArray, List.set_cons_zero, List.set_cons_succ]
          refine wpAnyH_ready (rs := [4]) (by kernel_rfl) (by simp) ?_
          refine AllReadyH.cons (o := { dst := some 21, op := Go.Op.call { callee := Go.Callee.value (Go.Operand.func 55), args := #[Go.Operand.tmp 18, Go.Operand.tmp 20], argTypes := #[53, 3] }, type := 37, pos := "l04_graph.go:136", after := #[{ on := 1, ground := Go.Ground.data }, { on := 3, ground := Go.Ground.data }], guard := none }) rfl (fun K hK => ?_) ?_
          · go_simp
            go_wp2_with (go_at_call 55; refine (l04Edge_any _ p n cap ao (2 + x0) (by omega) (by omega) (HCU2.out.below ((Below.refl _ _).drew) HCU2.out.lt)).mono ?_; rintro e w3 ⟨x, rfl, HX, HC3, HK3⟩)
            have HK3' : Hid (KeptBut p w2 w3) := ((KeptBut.refl p w2).below ((Below.refl _ _).drew)).trans HK3.out
            have HKK3 : Hid (KeptBut p w w3) := HKK2.out.trans HK3'.out
            have HG3 : Hid (Blk w3 B3 2 (fun i => if i = 0 then .int .i64 (2 + x0) else .slice a nL cL)) := HG2.out.keptBut HK3'.out HPB.out.2
            have HR3 : Hid (Blk w3 B 2 (fun i => if i = 0 then .int .i64 0 else .slice none 0 0)) := HR2.out.keptBut HK3'.out HPB.out.1
            have HE3 : Hid (EdgesIn (B3 + 1) w3.heap.size w3 a L) := (HE2.out.keptBut HK3'.out HPP.out (Nat.le_refl _)).wide (Nat.le_refl _) HK3'.out.size
            obtain ⟨c0, c1⟩ := blk_pair_cells HG3.out
            clear HK3 HK3' HKK2 HG2 HR2 HE2 HCU2
            refine hK.out _ _ trivial (fun hHeld => ?_)
            clear hK K
            try simp only [Act.put, List.setIfInBounds_toArray, List.set_cons_zero, List.set_cons_succ]
            refine wpAnyH_ready (rs := [5]) (by kernel_rfl) (by simp) ?_
            refine AllReadyH.cons (o := { dst := some 22, op := Go.Op.call { callee := Go.Callee.value (Go.Operand.func 54), args := #[Go.Operand.tmp 17, Go.Operand.tmp 21], argTypes := #[26, 37] }, type := 38, pos := "l04_graph.go:136", after := #[{ on := 0, ground := Go.Ground.data }, { on := 4, ground := Go.Ground.data }, { on := 4, ground := Go.Ground.chain }], guard := none }) rfl (fun K hK => ?_) ?_
            · go_simp
              go_wp2_with (go_at_call 54; refine (specGAdd_any (B3 + 1) _ (2 + x0) a nL cL L x w3 HE3.out (Nat.le_refl _) HLN.out (by have := HLN.out; have := HLO.out.2.1; omega)).mono ?_; rintro e w4 ⟨a4, n4, c4, ok4, rfl, HOK4, HN4, HE4, HB4⟩)
              have HC4 : Hid (CurL p ao n cap w4) := HC3.out.below HB4.out HC3.out.lt
              have HKK4 : Hid (KeptBut p w w4) := HKK3.out.below HB4.out
              have HG4 : Hid (Blk w4 B3 2 (fun i => if i = 0 then .int .i64 (2 + x0) else .slice a nL cL)) := HG3.out.of_block (HB4.out.block _ HG3.out.lt)
              have HR4 : Hid (Blk w4 B 2 (fun i => if i = 0 then .int .i64 0 else .slice none 0 0)) := HR3.out.of_block (HB4.out.block _ HR3.out.lt)
              have HE4' : Hid (EdgesOwn (B3 + 1) w4.heap.size w4 a4 (gaddL (2 + x0) L x)) := HE4.out.wide HG3.out.lt (Nat.le_refl _)
              clear HC3 HKK3 HG3 HR3 HE3 HE4 HB4 HOK4 c0 c1
              refine hK.out _ _ trivial (fun hHeld => ?_)
              clear hK K
              try simp only [Act.put, List.setIfInBounds_toArray, List.set_cons_zero, List.set_cons_succ]
              refine wpAnyH_take (i := 6) (oi := { dst := some 16, op := Go.Op.move (Go.Operand.tmp 22), type := 38, pos := "l04_graph.go:136", after := #[{ on := 5, ground := Go.Ground.data }], guard := none }) (v := ?_) rfl (by kernel_rfl) (by kernel_rfl) (by kernel_rfl) (fun _ _ _ h => h) (Or.inl ⟨by kernel_rfl, ?_⟩) (by assumption) ?_
              rotate_left
              · intro w hSw; (try dsimp only at hSw); go_simp; try with_reducible rfl
              simp only [Act.put, List.setIfInBounds_toArray, List.set_cons_zero, List.set_cons_succ]
              refine wpAnyH_take (i := 7) (oi := { dst := some 23, op := Go.Op.extract (Go.Operand.tmp 16) 0, type := 26, pos := "l04_graph.go:136", after := #[{ on := 6, ground := Go.Ground.data }], guard := none }) (v := ?_) rfl (by kernel_rfl) (by kernel_rfl) (by kernel_rfl) (fun _ _ _ h => h) (Or.inl ⟨by kernel_rfl, ?_⟩) (by assumption) ?_
              rotate_left
              · intro w hSw; (try dsimp only at hSw); go_simp; try with_reducible rfl
              simp only [Act.put, List.setIfInBounds_toArray, List.set_cons_zero, List.set_cons_succ]
              refine wpAnyH_take (i := 8) (oi := { dst := some 24, op := Go.Op.extract (Go.Operand.tmp 16) 1, type := 4, pos := "l04_graph.go:136", after := #[{ on := 6, ground := Go.Ground.data }, { on := 9, ground := Go.Ground.gcOnly Go.Departure.lateStores }], guard := none }) (v := ?_) rfl (by kernel_rfl) (by kernel_rfl) (by kernel_rfl) (fun _ _ _ h => h) (Or.inl ⟨by kernel_rfl, ?_⟩) (by assumption) ?_
              rotate_left
              · intro w hSw; (try dsimp only at hSw); go_simp; try with_reducible rfl
              simp only [Act.put, List.setIfInBounds_toArray, List.set_cons_zero, List.set_cons_succ]
              refine wpAnyH_ready (rs := [9]) (by kernel_rfl) (by simp) ?_
              refine AllReadyH.cons (o := { dst := none, op := Go.Op.store 26 (Go.Operand.tmp 3) (Go.Operand.tmp 23), type := 0, pos := "l04_graph.go:136", after := #[{ on := 7, ground := Go.Ground.data }, { on := 5, ground := Go.Ground.chain }, { on := 0, ground := Go.Ground.phase }, { on := 1, ground := Go.Ground.phase }, { on := 2, ground := Go.Ground.phase }, { on := 3, ground := Go.Ground.phase }, { on := 4, ground := Go.Ground.phase }, { on := 5, ground := Go.Ground.phase }, { on := 6, ground := Go.Ground.phase }, { on := 7, ground := Go.Ground.phase }, { on := 8, ground := Go.Ground.textOnly Go.Departure.lateStores }], guard := none }) rfl (fun K hK => ?_) ?_
              · obtain ⟨d0, d1⟩ := blk_pair_cells HG4.out
                have df0 := HG4.out.frozen 0
                have df1 := HG4.out.frozen 1
                go_simp
                refine hK.out _ _ trivial (fun hHeld => ?_)
                clear hK K
                try simp only [Act.put, List.setIfInBounds_toArray, List.set_cons_zero, List.set_cons_succ]
                refine wpAnyH_done (by kernel_rfl) ?_ _
                clear hHeld d0 d1 df0 df1
                go_wp2
                go_roundw
                case rel => exact ⟨j + 1, a4, n4, c4, _, by go_num, by omega, HN4, graph_rel (by omega) HPL.out HE4'.out HG4.out HR4.out HC4.out HKK4.out (gadd_drawn HLO.out HX.out hj9 (by omega) (by omega))⟩
                case measure => simp [intOf]; omega
              exact AllReadyH.nil
            exact AllReadyH.nil
          exact AllReadyH.nil
        refine AllReadyH.cons (o := { dst := some 21, op := Go.Op.call { callee := Go.Callee.value (Go.Operand.func 55), args := #[Go.Operand.tmp 18, Go.Operand.tmp 20], argTypes := #[53, 3] }, type := 37, pos := "l04_graph.go:136", after := #[{ on := 1, ground := Go.Ground.data }, { on := 3, ground := Go.Ground.data }], guard := none }) rfl (fun K hK => ?_) ?_
        · go_simp
          go_wp2_with (go_at_call 55; refine (l04Edge_any _ p n cap ao (2 + x0) (by omega) (by omega) (HCU2.out.below ((Below.refl _ _).drew) HCU2.out.lt)).mono ?_; rintro e w3 ⟨x, rfl, HX, HC3, HK3⟩)
          have HK3' : Hid (KeptBut p w2 w3) := ((KeptBut.refl p w2).below ((Below.refl _ _).drew)).trans HK3.out
          have HKK3 : Hid (KeptBut p w w3) := HKK2.out.trans HK3'.out
          have HG3 : Hid (Blk w3 B3 2 (fun i => if i = 0 then .int .i64 (2 + x0) else .slice a nL cL)) := HG2.out.keptBut HK3'.out HPB.out.2
          have HR3 : Hid (Blk w3 B 2 (fun i => if i = 0 then .int .i64 0 else .slice none 0 0)) := HR2.out.keptBut HK3'.out HPB.out.1
          have HE3 : Hid (EdgesIn (B3 + 1) w3.heap.size w3 a L) := (HE2.out.keptBut HK3'.out HPP.out (Nat.le_refl _)).wide (Nat.le_refl _) HK3'.out.size
          obtain ⟨c0, c1⟩ := blk_pair_cells HG3.out
          clear HK3 HK3' HKK2 HG2 HR2 HE2 HCU2
          refine hK.out _ _ trivial (fun hHeld => ?_)
          clear hK K
          try simp only [Act.put, List.setIfInBounds_toArray, List.set_cons_zero, List.set_cons_succ]
          refine wpAnyH_ready (rs := [0]) (by kernel_rfl) (by simp) ?_
          refine AllReadyH.cons (o := { dst := some 17, op := Go.Op.load 26 (Go.Operand.tmp 3), type := 26, pos := "l04_graph.go:136", after := #[], guard := none }) rfl (fun K hK => ?_) ?_
          · go_simp
            refine hK.out _ _ trivial (fun hHeld => ?_)
            clear hK K
            try simp only [Act.put, List.setIfInBounds_toArray, List.set_cons_zero, List.set_cons_succ]
            refine wpAnyH_ready (rs := [5]) (by kernel_rfl) (by simp) ?_
            refine AllReadyH.cons (o := { dst := some 22, op := Go.Op.call { callee := Go.Callee.value (Go.Operand.func 54), args := #[Go.Operand.tmp 17, Go.Operand.tmp 21], argTypes := #[26, 37] }, type := 38, pos := "l04_graph.go:136", after := #[{ on := 0, ground := Go.Ground.data }, { on := 4, ground := Go.Ground.data }, { on := 4, ground := Go.Ground.chain }], guard := none }) rfl (fun K hK => ?_) ?_
            · go_simp
              go_wp2_with (go_at_call 54; refine (specGAdd_any (B3 + 1) _ (2 + x0) a nL cL L x w3 HE3.out (Nat.le_refl _) HLN.out (by have := HLN.out; have := HLO.out.2.1; omega)).mono ?_; rintro e w4 ⟨a4, n4, c4, ok4, rfl, HOK4, HN4, HE4, HB4⟩)
              have HC4 : Hid (CurL p ao n cap w4) := HC3.out.below HB4.out HC3.out.lt
              have HKK4 : Hid (KeptBut p w w4) := HKK3.out.below HB4.out
              have HG4 : Hid (Blk w4 B3 2 (fun i => if i = 0 then .int .i64 (2 + x0) else .slice a nL cL)) := HG3.out.of_block (HB4.out.block _ HG3.out.lt)
              have HR4 : Hid (Blk w4 B 2 (fun i => if i = 0 then .int .i64 0 else .slice none 0 0)) := HR3.out.of_block (HB4.out.block _ HR3.out.lt)
              have HE4' : Hid (EdgesOwn (B3 + 1) w4.heap.size w4 a4 (gaddL (2 + x0) L x)) := HE4.out.wide HG3.out.lt (Nat.le_refl _)
              clear HC3 HKK3 HG3 HR3 HE3 HE4 HB4 HOK4 c0 c1
              refine hK.out _ _ trivial (fun hHeld => ?_)
              clear hK K
              try simp only [Act.put, List.setIfInBounds_toArray, List.set_cons_zero, List.set_cons_succ]
              refine wpAnyH_take (i := 6) (oi := { dst := some 16, op := Go.Op.move (Go.Operand.tmp 22), type := 38, pos := "l04_graph.go:136", after := #[{ on := 5, ground := Go.Ground.data }], guard := none }) (v := ?_) rfl (by kernel_rfl) (by kernel_rfl) (by kernel_rfl) (fun _ _ _ h => h) (Or.inl ⟨by kernel_rfl, ?_⟩) (by assumption) ?_
              rotate_left
              · intro w hSw; (try dsimp only at hSw); go_simp; try with_reducible rfl
              simp only [Act.put, List.setIfInBounds_toArray, List.set_cons_zero, List.set_cons_succ]
              refine wpAnyH_take (i := 7) (oi := { dst := some 23, op := Go.Op.extract (Go.Operand.tmp 16) 0, type := 26, pos := "l04_graph.go:136", after := #[{ on := 6, ground := Go.Ground.data }], guard := none }) (v := ?_) rfl (by kernel_rfl) (by kernel_rfl) (by kernel_rfl) (fun _ _ _ h => h) (Or.inl ⟨by kernel_rfl, ?_⟩) (by assumption) ?_
              rotate_left
              · intro w hSw; (try dsimp only at hSw); go_simp; try with_reducible rfl
              simp only [Act.put, List.setIfInBounds_toArray, List.set_cons_zero, List.set_cons_succ]
              refine wpAnyH_take (i := 8) (oi := { dst := some 24, op := Go.Op.extract (Go.Operand.tmp 16) 1, type := 4, pos := "l04_graph.go:136", after := #[{ on := 6, ground := Go.Ground.data }, { on := 9, ground := Go.Ground.gcOnly Go.Departure.lateStores }], guard := none }) (v := ?_) rfl (by kernel_rfl) (by kernel_rfl) (by kernel_rfl) (fun _ _ _ h => h) (Or.inl ⟨by kernel_rfl, ?_⟩) (by assumption) ?_
              rotate_left
              · intro w hSw; (try dsimp only at hSw); go_simp; try with_reducible rfl
              simp only [Act.put, List.setIfInBounds_toArray, List.set_cons_zero, List.set_cons_succ]
              refine wpAnyH_ready (rs := [9]) (by kernel_rfl) (by simp) ?_
              refine AllReadyH.cons (o := { dst := none, op := Go.Op.store 26 (Go.Operand.tmp 3) (Go.Operand.tmp 23), type := 0, pos := "l04_graph.go:136", after := #[{ on := 7, ground := Go.Ground.data }, { on := 5, ground := Go.Ground.chain }, { on := 0, ground := Go.Ground.phase }, { on := 1, ground := Go.Ground.phase }, { on := 2, ground := Go.Ground.phase }, { on := 3, ground := Go.Ground.phase }, { on := 4, ground := Go.Ground.phase }, { on := 5, ground := Go.Ground.phase }, { on := 6, ground := Go.Ground.phase }, { on := 7, ground := Go.Ground.phase }, { on := 8, ground := Go.Ground.textOnly Go.Departure.lateStores }], guard := none }) rfl (fun K hK => ?_) ?_
              · obtain ⟨d0, d1⟩ := blk_pair_cells HG4.out
                have df0 := HG4.out.frozen 0
                have df1 := HG4.out.frozen 1
                go_simp
                refine hK.out _ _ trivial (fun hHeld => ?_)
                clear hK K
                try simp only [Act.put, List.setIfInBounds_toArray, List.set_cons_zero, List.set_cons_succ]
                refine wpAnyH_done (by kernel_rfl) ?_ _
                clear hHeld d0 d1 df0 df1
                go_wp2
                go_roundw
                case rel => exact ⟨j + 1, a4, n4, c4, _, by go_num, by omega, HN4, graph_rel (by omega) HPL.out HE4'.out HG4.out HR4.out HC4.out HKK4.out (gadd_drawn HLO.out HX.out hj9 (by omega) (by omega))⟩
                case measure => simp [intOf]; omega
              exact AllReadyH.nil
            exact AllReadyH.nil
          exact AllReadyH.nil
        exact AllReadyH.nil
      exact AllReadyH.nil
    · obtain ⟨r0, r1⟩ := blk_pair_cells HR2.out
      have rf0 := HR2.out.frozen 0
      have rf1 := HR2.out.frozen 1
      go_wp2
      refine bodyPost_ret (v := .agg #[.int .i64 (2 + x0), .slice a nL cL]) (by simp [results, Tryd.results30, go_sem, r0, r1]) rfl ?_
      have hl := HPL.out
      refine ⟨_, a, nL, cL, L, rfl, HLN, ?_, ⟨⟨HLO.out.1, Nat.le_trans HLO.out.2.1 hj, fun _ => HLO.out.2.2 (by omega)⟩, by omega, by omega⟩, ?_, ?_⟩
      · refine (HE2.out.kept (p := fun k => k = B) ?_ (Nat.le_refl _) (fun k h1 _ e => by omega)).wide (by omega) (by simp)
        exact ((KeptP.refl (fun k => k = B) w2).setCell (g := B) rfl _).setCell (g := B) rfl _
      · exact HCU2.out.below (((Below.refl B w2).setCell (Nat.le_refl _) _).setCell (Nat.le_refl _) _) (by omega)
      · exact (HKK2.out.setOut (by omega) _).setOut (by omega) _

set_option maxHeartbeats 1000000 in
set_option maxRecDepth 100000 in
theorem drawGraph_any (w : World) (n cap : Nat) (ao : Option Addr) (hn : n ≤ 1048576) (hc : CodeIn w ao n) :
    Calls Tryd.prog 9 #[.slice ao n cap] w fun e w' => ∃ (s : Int) (a : Option Addr) (nL cL : Nat) (L : List Ed), e = .returned (gv s a nL cL) ∧ Hid (L.length = nL) ∧ Hid (EdgesIn w.heap.size w'.heap.size w' a L) ∧ Hid (GDr s L 10 ∧ 2 ≤ s ∧ s ≤ 5) ∧ Hid (Below w.heap.size w w') := by
  obtain ⟨B, HB⟩ : ∃ B, Hid (w.heap.size = B) := ⟨_, rfl⟩
  have HC : Hid (CodeIn w ao n) := hc
  clear hc
  go_enter Tryd.func9, Tryd.ntmps9
  go_wp2_with fail
  rw [HB.out]
  generalize hW : World.alloc _ _ = W
  have HC1 : Hid (CodeIn W ao n) := by show CodeIn _ _ _; rw [← hW]; exact HC.out.below (below1 w _)
  have HB1 : Hid (Below B w W) := by show Below _ _ _; rw [← hW, ← HB.out]; exact below1 w _
  have HR1 : Hid (Blk W B 2 (fun i => if i = 0 then .int .i64 0 else .slice none 0 0)) := by show Blk _ _ _ _; rw [← hW]; exact blk_two w B HB.out.symm _ _ _
  clear hW
  refine (new_any W ao n cap hn HC1.out).mono ?_
  rintro e w1 ⟨rfl, hc1, hb1⟩
  obtain ⟨p, HP⟩ : ∃ p, Hid (p = W.heap.size) := ⟨_, rfl⟩
  have HCU : Hid (CurL p ao n cap w1) := by rw [HP.out]; exact ⟨hc1, cur_start HC1.out⟩
  have HPB : Hid (B < p) := by show B < p; rw [HP.out]; exact HR1.out.lt
  have HR2 : Hid (Blk w1 B 2 (fun i => if i = 0 then .int .i64 0 else .slice none 0 0)) := HR1.out.of_block (hb1.block _ HR1.out.lt)
  have HB2 : Hid (Below B w w1) := HB1.out.trans (hb1.mono (by have := HPB.out; have := HP.out; omega))
  rw [← HP.out]
  clear hc1 hb1 HR1 HB1 HC1
  go_wp2_with fail
  refine (l04Graph_any w1 p n cap ao HCU.out).mono ?_
  rintro e w2 ⟨s, a, nL, cL, L, rfl, HLN, HE, HGD, HC2, HK2⟩
  have HR3 : Hid (Blk w2 B 2 (fun i => if i = 0 then .int .i64 0 else .slice none 0 0)) := HR2.out.keptBut HK2.out (by have := HPB.out; omega)
  have HB3 : Hid (Below B w w2) := HB2.out.trans (HK2.out.to_below (Nat.le_of_lt HPB.out) (by have := HR2.out.lt; omega))
  have HSZ : Hid (B < w1.heap.size) := HR2.out.lt
  clear HR2 HB2 HCU HC2
  obtain ⟨r0, r1⟩ := blk_pair_cells HR3.out
  have rf0 := HR3.out.frozen 0
  have rf1 := HR3.out.frozen 1
  go_wp2
  refine bodyPost_ret (v := .agg #[.int .i64 s, .slice a nL cL]) (by simp [results, Tryd.results9, go_sem, r0, r1]) rfl ?_
  have hl := HB.out
  have hz := HSZ.out
  refine ⟨s, a, nL, cL, L, rfl, HLN, ?_, HGD, ?_⟩
  · refine (HE.out.kept (p := fun k => k = B) ?_ (Nat.le_refl _) (fun k h1 _ e => by omega)).wide (by omega) (by simp)
    exact ((KeptP.refl (fun k => k = B) w2).setCell (g := B) rfl _).setCell (g := B) rfl _
  · rw [hl]; exact (HB3.out.setCell (Nat.le_refl _) _).setCell (Nat.le_refl _) _
end Go.Proofs.YtigojleieihdoaaDoor
