import Derived.Test.YtelikebpddhncaaDrE
import Derived.Test.YtelikebpddhncaaGAddS
import Derived.Test.YtelikebpddhncaaGCln
import Derived.Deep.RegionHeld3
import Derived.Test.YtelikebpddhncaaGTrI
import Derived.Deep.DeepCutAuto
import Derived.Test.YtelikebpddhncaaDrawB
import Derived.Test.YtelikebpddhncaaTxt
import Derived.Test.YtelikebpddhncaaGTxt
import Derived.Test.YtelikebpddhncaaGOkS
import Derived.Test.YtelikebpddhncaaEdC
import Derived.Laws.StructEq
import Derived.Shelf.Sort.Plain
import Derived.Shelf.Slices.In.SortNone
import Derived.Shelf.Slices.CompactI
import Derived.Test.YtelikebpddhncaaProg
import Derived.Test.YtelikebpddhncaaGPut
import Derived.Test.YtelikebpddhncaaReadI
import Derived.Test.YtelikebpddhncaaDRow
import Derived.Test.YtelikebpddhncaaGRdI
import Derived.Test.YtelikebpddhncaaGOk
import Derived.Test.YtelikebpddhncaaBig
import Derived.WalkKit
import Derived.ProofKit
import Derived.OpenShut
import Derived.ShutString
import Derived.ChangeOld
import Derived.Below
/-
  A drawn graph: spec.l04Graph, spec.DrawGraph.
-/
namespace Go.Proofs.Ytelikebpddhncaa
open Go.RowKit

theorem okE_in {s : Int} {x : Ed} (h : edIn s x) : okE s x = true := by
  obtain ⟨h1, h2, h3⟩ := h
  unfold okE inV
  simp only [Bool.and_eq_true, decide_eq_true_eq]
  omega
/-- what a drawn graph is behind j rounds -/
def GDr (s : Int) (L : List Ed) (j : Nat) : Prop := okG s L = true ∧ L.length ≤ j ∧ (1 ≤ j → L ≠ [])
theorem gadd_drawn {s : Int} {L : List Ed} {x : Ed} {j : Nat} (h : GDr s L j) (hx : edIn s x) (hj : j ≤ 9) (h1 : 1 ≤ s) (h2 : s ≤ 12) : GDr s (gaddL s L x) (j + 1) := by
  have hl := putE_len L x
  have hlj := h.2.1
  have ho := okG_iff.1 h.1
  have hp : okG s (putE L x) = true := okG_iff.2 ⟨⟨h1, h2⟩, by omega, fun y hy => by
    rcases mem_putE.1 hy with rfl | hy
    · exact okE_in hx
    · exact ho.2.2.1 y hy, srt_putE ho.2.2.2 x⟩
  have e : gaddL s L x = putE L x := by unfold gaddL gaddOk; rw [h.1, hp]; rfl
  rw [e]
  refine ⟨hp, by omega, fun _ h0 => ?_⟩
  have : x ∈ putE L x := mem_putE.2 (.inl rfl)
  rw [h0] at this
  cases this
/-- what a round leaves -/
def GRel (w wr : World) (p n cap : Nat) (ao : Option Addr) (B B3 : Nat) (s : Int) (j : Nat) (a : Option Addr) (nL cL : Nat) (L : List Ed) : Prop :=
  Hid (EdgesIn (B3 + 1) wr.heap.size wr a L) ∧ Hid (GDr s L j) ∧ Hid (Blk wr B3 2 (fun i => if i = 0 then .int .i64 s else .slice a nL cL)) ∧ Hid (Blk wr B 2 (fun i => if i = 0 then .int .i64 0 else .slice none 0 0)) ∧ Hid (CurL p ao n cap wr) ∧ Hid (KeptBut p w wr)
theorem graph_rel {w w4 : World} {p n cap : Nat} {ao : Option Addr} {B B3 : Nat} {s : Int} {j : Nat} {a a0 : Option Addr} {nL cL n0 c0 : Nat} {L : List Ed} {j' : Nat} (hjj : j' = j) (hl : p < w.heap.size ∧ w.heap.size = B ∧ B < B3) (he : EdgesOwn (B3 + 1) w4.heap.size w4 a L) (hg : Blk w4 B3 2 (fun i => if i = 0 then .int .i64 s else .slice a0 n0 c0)) (hr : Blk w4 B 2 (fun i => if i = 0 then .int .i64 0 else .slice none 0 0)) (hc : CurL p ao n cap w4) (hk : KeptBut p w w4) (hd : GDr s L j) :
    GRel w ((w4.setCell ⟨B3, 0, none⟩ (.int .i64 s)).setCell ⟨B3, 1, none⟩ (.slice a nL cL)) p n cap ao B B3 s j' a nL cL L := by
  subst hjj
  refine ⟨((he.setCell (Nat.lt_succ_self _) _).setCell (Nat.lt_succ_self _) _).toIn.wide (Nat.le_refl _) (by simp), hd, ?_, ?_, ?_, ?_⟩
  · exact ((hg.set 0 (by omega) _).set 1 (by omega) _).congr (fun i hi => by rcases (show i = 0 ∨ i = 1 by omega) with rfl | rfl <;> simp)
  · refine hr.of_block ?_
    rw [Below.heap_setCell _ ⟨B3, 1, none⟩ _ B (by show B ≠ B3; omega), Below.heap_setCell _ ⟨B3, 0, none⟩ _ B (by show B ≠ B3; omega)]
  · exact hc.below (((Below.refl B3 w4).setCell (Nat.le_refl _) _).setCell (Nat.le_refl _) _) (by omega)
  · exact (hk.setOut (by omega) _).setOut (by omega) _

set_option maxHeartbeats 8000000 in
set_option maxRecDepth 100000 in
theorem l04Graph_any (w : World) (p n cap : Nat) (ao : Option Addr) (hc : CurL p ao n cap w) :
    Calls Try.prog 71 #[.pointer (some ⟨p, 0, none⟩)] w fun e w' => ∃ (s : Int) (a : Option Addr) (nL cL : Nat) (L : List Ed), e = .returned (gv s a nL cL) ∧ Hid (L.length = nL) ∧ Hid (EdgesIn w.heap.size w'.heap.size w' a L) ∧ Hid (GDr s L 10 ∧ 2 ≤ s ∧ s ≤ 5) ∧ Hid (CurL p ao n cap w') ∧ Hid (KeptBut p w w') := by
  have HP : Hid (p < w.heap.size) := hc.lt
  obtain ⟨B, HB⟩ : ∃ B, Hid (w.heap.size = B) := ⟨_, rfl⟩
  have HC : Hid (CurL p ao n cap w) := hc
  clear hc
  go_enter Try.func71, Try.ntmps71
  go_wp2_with fail
  rw [HB.out]
  generalize hW : World.alloc _ _ = W
  have HC1 : Hid (CurL p ao n cap W) := by show CurL _ _ _ _ _; rw [← hW]; exact HC.out.below (below1 w _) HP.out
  have HK1 : Hid (KeptBut p w W) := by show KeptBut _ _ _; rw [← hW]; exact (KeptBut.refl p w).below (below1 w _)
  have HR1 : Hid (Blk W B 2 (fun i => if i = 0 then .int .i64 0 else .slice none 0 0)) := by show Blk _ _ _ _; rw [← hW]; exact blk_two w B HB.out.symm _ _ _
  clear hW
  refine (HC1.out.draw 4 (by omega) (by omega)).mono ?_
  rintro e w1 ⟨x0, rfl, x00, x01, HC2, HK2⟩
  obtain ⟨B3, HB3⟩ : ∃ B3, Hid (w1.heap.size = B3) := ⟨_, rfl⟩
  have HR2 : Hid (Blk w1 B 2 (fun i => if i = 0 then .int .i64 0 else .slice none 0 0)) := HR1.out.keptBut HK2.out (by have := HP.out; have := HB.out; omega)
  have HK3 : Hid (KeptBut p w w1) := HK1.out.trans HK2.out
  have HPL : Hid (p < w.heap.size ∧ w.heap.size = B ∧ B < B3) := ⟨HP.out, HB.out, by have := HR2.out.lt; have := HB3.out; omega⟩
  have HPB : Hid (B ≠ p ∧ B3 ≠ p) := by have := HPL.out; exact ⟨by omega, by omega⟩
  have HPP : Hid (p < B3 + 1) := by have := HPL.out; show p < B3 + 1; omega
  clear HC1 HK1 HR1 HK2 HP HC
  go_wp2
  rw [HB3.out]
  go_loopw [4] (fun i wr => ∃ (j : Nat) (a : Option Addr) (nL cL : Nat) (L : List Ed), i = .int .i64 j ∧ j ≤ 10 ∧ Hid (L.length = nL) ∧ GRel w wr p n cap ao B B3 (2 + x0) j a nL cL L) (fun i _ => 10 - (intOf i).toNat)
  case atStart =>
    refine ⟨0, none, 0, 0, [], rfl, by omega, rfl, .inl rfl, ⟨okG_iff.2 ⟨⟨by omega, by omega⟩, by simp, by simp, List.Pairwise.nil⟩, by simp, by omega⟩, ?_, ?_, ?_, ?_⟩
    · exact blk_two w1 B3 HB3.out.symm _ _ _
    · exact HR2.out.alloc _
    · exact HC2.out.below (below1 w1 _) HC2.out.lt
    · exact HK3.out.below (below1 w1 _)
  case round =>
    obtain ⟨j, a, nL, cL, L, rfl, hj, HLN, HE1, HLO, HG1, HR1, HCU1, HKK1⟩ := hrel
    clear HC2 HR2 HK3
    go_wp2_with fail
    refine (HCU1.out.draw 9 (by omega) (by omega)).mono ?_
    rintro e w2 ⟨y, rfl, hy0, hy1, HCU2, HK2⟩
    have HKK2 : Hid (KeptBut p w w2) := HKK1.out.trans HK2.out
    have HG2 : Hid (Blk w2 B3 2 (fun i => if i = 0 then .int .i64 (2 + x0) else .slice a nL cL)) := HG1.out.keptBut HK2.out HPB.out.2
    have HR2 : Hid (Blk w2 B 2 (fun i => if i = 0 then .int .i64 0 else .slice none 0 0)) := HR1.out.keptBut HK2.out HPB.out.1
    have HE2 : Hid (EdgesIn (B3 + 1) w2.heap.size w2 a L) := (HE1.out.keptBut HK2.out HPP.out (Nat.le_refl _)).wide (Nat.le_refl _) HK2.out.size
    obtain ⟨c0, c1⟩ := blk_pair_cells HG2.out
    clear HE1 HG1 HR1 HCU1 HKK1 HK2
    by_cases hlt : (j : Int) < 2 + y
    · have hj9 : j ≤ 9 := by omega
      go_wp2_with fail
      refine wp_region_held_drew (S := fun _ => True) (by kernel_rfl) trivial (fun hHeld => ?_)
      refine wpAnyH_take (i := 1) (oi := { dst := some 18, op := Go.Op.move (Go.Operand.tmp 0), type := 83, pos := "l04_graph.go:136", after := #[], guard := none }) (v := ?_) rfl (by kernel_rfl) (by kernel_rfl) (by kernel_rfl) (fun _ _ _ h => h) (Or.inl ⟨by kernel_rfl, ?_⟩) (by assumption) ?_
      rotate_left
      · intro w hSw; (try dsimp only at hSw); go_simp; try with_reducible rfl
      simp only [Act.put, List.setIfInBounds_toArray, List.set_cons_zero, List.set_cons_succ]
      refine wpAnyH_take (i := 2) (oi := { dst := some 19, op := Go.Op.fieldAddr 37 (Go.Operand.tmp 3) 0, type := 0, pos := "l04_graph.go:136", after := #[], guard := none }) (v := ?_) rfl (by kernel_rfl) (by kernel_rfl) (by kernel_rfl) (fun _ _ _ h => h) (Or.inl ⟨by kernel_rfl, ?_⟩) (by assumption) ?_
      rotate_left
      · intro w hSw; (try dsimp only at hSw); go_simp; try with_reducible rfl
      simp only [Act.put, List.setIfInBounds_toArray, List.set_cons_zero, List.set_cons_succ]
      refine wpAnyH_ready (rs := [0, 3]) (by kernel_rfl) (by simp) ?_
      refine AllReadyH.cons (o := { dst := some 17, op := Go.Op.load 37 (Go.Operand.tmp 3), type := 37, pos := "l04_graph.go:136", after := #[], guard := none }) rfl (fun K hK => ?_) ?_
      · go_simp
        refine hK.out _ _ trivial (fun hHeld => ?_)
        clear hK K
        try simp only [Act.put, List.setIfInBounds_toArray, List.set_cons_zero, List.set_cons_succ]
        refine wpAnyH_ready (rs := [3]) (by kernel_rfl) (by simp) ?_
        refine AllReadyH.cons (o := { dst := some 20, op := Go.Op.load 3 (Go.Operand.tmp 19), type := 3, pos := "l04_graph.go:136", after := #[{ on := 2, ground := Go.Ground.data }], guard := none }) rfl (fun K hK => ?_) ?_
        · go_simp
          refine hK.out _ _ trivial (fun hHeld => ?_)
          clear hK K
          try simp only [Act.put, List.setIfInBounds_toArray, List.set_cons_zero, List.set_cons_succ]
          refine wpAnyH_ready (rs := [4]) (by kernel_rfl) (by simp) ?_
          refine AllReadyH.cons (o := { dst := some 21, op := Go.Op.call { callee := Go.Callee.value (Go.Operand.func 102), args := #[Go.Operand.tmp 18, Go.Operand.tmp 20], argTypes := #[83, 3] }, type := 42, pos := "l04_graph.go:136", after := #[{ on := 1, ground := Go.Ground.data }, { on := 3, ground := Go.Ground.data }], guard := none }) rfl (fun K hK => ?_) ?_
          · go_simp
            go_wp2_with (go_at_call 102; refine (l04Edge_any _ p n cap ao (2 + x0) (by omega) (by omega) (HCU2.out.below ((Below.refl _ _).drew) HCU2.out.lt)).mono ?_; rintro e w3 ⟨x, rfl, HX, HC3, HK3⟩)
            have HK3' : Hid (KeptBut p w2 w3) := ((KeptBut.refl p w2).below ((Below.refl _ _).drew)).trans HK3.out
            have HKK3 : Hid (KeptBut p w w3) := HKK2.out.trans HK3'.out
            have HG3 : Hid (Blk w3 B3 2 (fun i => if i = 0 then .int .i64 (2 + x0) else .slice a nL cL)) := HG2.out.keptBut HK3'.out HPB.out.2
            have HR3 : Hid (Blk w3 B 2 (fun i => if i = 0 then .int .i64 0 else .slice none 0 0)) := HR2.out.keptBut HK3'.out HPB.out.1
            have HE3 : Hid (EdgesIn (B3 + 1) w3.heap.size w3 a L) := (HE2.out.keptBut HK3'.out HPP.out (Nat.le_refl _)).wide (Nat.le_refl _) HK3'.out.size
            obtain ⟨c0, c1⟩ := blk_pair_cells HG3.out
            clear HK3 HK3' HKK2 HG2 HR2 HE2 HCU2
            refine hK.out _ _ trivial (fun hHeld => ?_)
            clear hK K
            try simp only [Act.put, List.setIfInBounds_toArray, List.set_cons_zero, List.set_cons_succ]
            refine wpAnyH_ready (rs := [5]) (by kernel_rfl) (by simp) ?_
            refine AllReadyH.cons (o := { dst := some 22, op := Go.Op.call { callee := Go.Callee.value (Go.Operand.func 46), args := #[Go.Operand.tmp 17, Go.Operand.tmp 21], argTypes := #[37, 42] }, type := 43, pos := "l04_graph.go:136", after := #[{ on := 0, ground := Go.Ground.data }, { on := 4, ground := Go.Ground.data }, { on := 4, ground := Go.Ground.chain }], guard := none }) rfl (fun K hK => ?_) ?_
            · go_simp
              go_wp2_with (go_at_call 46; refine (specGAdd_any (B3 + 1) _ (2 + x0) a nL cL L x w3 HE3.out (Nat.le_refl _) HLN.out (by have := HLN.out; have := HLO.out.2.1; omega)).mono ?_; rintro e w4 ⟨a4, n4, c4, ok4, rfl, HOK4, HN4, HE4, HB4⟩)
              have HC4 : Hid (CurL p ao n cap w4) := HC3.out.below HB4.out HC3.out.lt
              have HKK4 : Hid (KeptBut p w w4) := HKK3.out.below HB4.out
              have HG4 : Hid (Blk w4 B3 2 (fun i => if i = 0 then .int .i64 (2 + x0) else .slice a nL cL)) := HG3.out.of_block (HB4.out.block _ HG3.out.lt)
              have HR4 : Hid (Blk w4 B 2 (fun i => if i = 0 then .int .i64 0 else .slice none 0 0)) := HR3.out.of_block (HB4.out.block _ HR3.out.lt)
              have HE4' : Hid (EdgesOwn (B3 + 1) w4.heap.size w4 a4 (gaddL (2 + x0) L x)) := HE4.out.wide HG3.out.lt (Nat.le_refl _)
              clear HC3 HKK3 HG3 HR3 HE3 HE4 HB4 HOK4 c0 c1
              refine hK.out _ _ trivial (fun hHeld => ?_)
              clear hK K
              try simp only [Act.put, List.setIfInBounds_toArray, List.set_cons_zero, List.set_cons_succ]
              refine wpAnyH_take (i := 6) (oi := { dst := some 16, op := Go.Op.move (Go.Operand.tmp 22), type := 43, pos := "l04_graph.go:136", after := #[{ on := 5, ground := Go.Ground.data }], guard := none }) (v := ?_) rfl (by kernel_rfl) (by kernel_rfl) (by kernel_rfl) (fun _ _ _ h => h) (Or.inl ⟨by kernel_rfl, ?_⟩) (by assumption) ?_
              rotate_left
              · intro w hSw; (try dsimp only at hSw); go_simp; try with_reducible rfl
              simp only [Act.put, List.setIfInBounds_toArray, List.set_cons_zero, List.set_cons_succ]
              refine wpAnyH_take (i := 7) (oi := { dst := some 23, op := Go.Op.extract (Go.Operand.tmp 16) 0, type := 37, pos := "l04_graph.go:136", after := #[{ on := 6, ground := Go.Ground.data }], guard := none }) (v := ?_) rfl (by kernel_rfl) (by kernel_rfl) (by kernel_rfl) (fun _ _ _ h => h) (Or.inl ⟨by kernel_rfl, ?_⟩) (by assumption) ?_
              rotate_left
              · intro w hSw; (try dsimp only at hSw); go_simp; try with_reducible rfl
              simp only [Act.put, List.setIfInBounds_toArray, List.set_cons_zero, List.set_cons_succ]
              refine wpAnyH_take (i := 8) (oi := { dst := some 24, op := Go.Op.extract (Go.Operand.tmp 16) 1, type := 4, pos := "l04_graph.go:136", after := #[{ on := 6, ground := Go.Ground.data }, { on := 9, ground := Go.Ground.gcOnly Go.Departure.lateStores }], guard := none }) (v := ?_) rfl (by kernel_rfl) (by kernel_rfl) (by kernel_rfl) (fun _ _ _ h => h) (Or.inl ⟨by kernel_rfl, ?_⟩) (by assumption) ?_
              rotate_left
              · intro w hSw; (try dsimp only at hSw); go_simp; try with_reducible rfl
              simp only [Act.put, List.setIfInBounds_toArray, List.set_cons_zero, List.set_cons_succ]
              refine wpAnyH_ready (rs := [9]) (by kernel_rfl) (by simp) ?_
              refine AllReadyH.cons (o := { dst := none, op := Go.Op.store 37 (Go.Operand.tmp 3) (Go.Operand.tmp 23), type := 0, pos := "l04_graph.go:136", after := #[{ on := 7, ground := Go.Ground.data }, { on := 5, ground := Go.Ground.chain }, { on := 0, ground := Go.Ground.phase }, { on := 1, ground := Go.Ground.phase }, { on := 2, ground := Go.Ground.phase }, { on := 3, ground := Go.Ground.phase }, { on := 4, ground := Go.Ground.phase }, { on := 5, ground := Go.Ground.phase }, { on := 6, ground := Go.Ground.phase }, { on := 7, ground := Go.Ground.phase }, { on := 8, ground := Go.Ground.textOnly Go.Departure.lateStores }], guard := none }) rfl (fun K hK => ?_) ?_
              · obtain ⟨d0, d1⟩ := blk_pair_cells HG4.out
                have df0 := HG4.out.frozen 0
                have df1 := HG4.out.frozen 1
                go_simp
                refine hK.out _ _ trivial (fun hHeld => ?_)
                clear hK K
                try simp only [Act.put, List.setIfInBounds_toArray, List.set_cons_zero, List.set_cons_succ]
                refine wpAnyH_done (by kernel_rfl) ?_ _
                clear hHeld d0 d1 df0 df1
                go_wp2
                go_roundw
                case rel => exact ⟨j + 1, a4, n4, c4, _, by go_num, by omega, HN4, graph_rel (by omega) HPL.out HE4'.out HG4.out HR4.out HC4.out HKK4.out (gadd_drawn HLO.out HX.out hj9 (by omega) (by omega))⟩
                case measure => simp [intOf]; omega
              exact AllReadyH.nil
            exact AllReadyH.nil
          exact AllReadyH.nil
        exact AllReadyH.nil
      refine AllReadyH.cons (o := { dst := some 20, op := Go.Op.load 3 (Go.Operand.tmp 19), type := 3, pos := "l04_graph.go:136", after := #[{ on := 2, ground := Go.Ground.data }], guard := none }) rfl (fun K hK => ?_) ?_
      · go_simp
        refine hK.out _ _ trivial (fun hHeld => ?_)
        clear hK K
        try simp only [Act.put, List.setIfInBounds_toArray, List.set_cons_zero, List.set_cons_succ]
        refine wpAnyH_ready (rs := [0, 4]) (by kernel_rfl) (by simp) ?_
        refine AllReadyH.cons (o := { dst := some 17, op := Go.Op.load 37 (Go.Operand.tmp 3), type := 37, pos := "l04_graph.go:136", after := #[], guard := none }) rfl (fun K hK => ?_) ?_
        · go_simp
          refine hK.out _ _ trivial (fun hHeld => ?_)
          clear hK K
          try simp only [Act.put, List.setIfInBounds_toArray, List.set_cons_zero, List.set_cons_succ]
          refine wpAnyH_ready (rs := [4]) (by kernel_rfl) (by simp) ?_
          refine AllReadyH.cons (o := { dst := some 21, op := Go.Op.call { callee := Go.Callee.value (Go.Operand.func 102), args := #[Go.Operand.tmp 18, Go.Operand.tmp 20], argTypes := #[83, 3] }, type := 42, pos := "l04_graph.go:136", after := #[{ on := 1, ground := Go.Ground.data }, { on := 3, ground := Go.Ground.data }], guard := none }) rfl (fun K hK => ?_) ?_
          · go_simp
            go_wp2_with (go_at_call 102; refine (l04Edge_any _ p n cap ao (2 + x0) (by omega) (by omega) (HCU2.out.below ((Below.refl _ _).drew) HCU2.out.lt)).mono ?_; rintro e w3 ⟨x, rfl, HX, HC3, HK3⟩)
            have HK3' : Hid (KeptBut p w2 w3) := ((KeptBut.refl p w2).below ((Below.refl _ _).drew)).trans HK3.out
            have HKK3 : Hid (KeptBut p w w3) := HKK2.out.trans HK3'.out
            have HG3 : Hid (Blk w3 B3 2 (fun i => if i = 0 then .int .i64 (2 + x0) else .slice a nL cL)) := HG2.out.keptBut HK3'.out HPB.out.2
            have HR3 : Hid (Blk w3 B 2 (fun i => if i = 0 then .int .i64 0 else .slice none 0 0)) := HR2.out.keptBut HK3'.out HPB.out.1
            have HE3 : Hid (EdgesIn (B3 + 1) w3.heap.size w3 a L) := (HE2.out.keptBut HK3'.out HPP.out (Nat.le_refl _)).wide (Nat.le_refl _) HK3'.out.size
            obtain ⟨c0, c1⟩ := blk_pair_cells HG3.out
            clear HK3 HK3' HKK2 HG2 HR2 HE2 HCU2
            refine hK.out _ _ trivial (fun hHeld => ?_)
            clear hK K
            try simp only [Act.put, List.setIfInBounds_toArray, List.set_cons_zero, List.set_cons_succ]
            refine wpAnyH_ready (rs := [5]) (by kernel_rfl) (by simp) ?_
            refine AllReadyH.cons (o := { dst := some 22, op := Go.Op.call { callee := Go.Callee.value (Go.Operand.func 46), args := #[Go.Operand.tmp 17, Go.Operand.tmp 21], argTypes := #[37, 42] }, type := 43, pos := "l04_graph.go:136", after := #[{ on := 0, ground := Go.Ground.data }, { on := 4, ground := Go.Ground.data }, { on := 4, ground := Go.Ground.chain }], guard := none }) rfl (fun K hK => ?_) ?_
            · go_simp
              go_wp2_with (go_at_call 46; refine (specGAdd_any (B3 + 1) _ (2 + x0) a nL cL L x w3 HE3.out (Nat.le_refl _) HLN.out (by have := HLN.out; have := HLO.out.2.1; omega)).mono ?_; rintro e w4 ⟨a4, n4, c4, ok4, rfl, HOK4, HN4, HE4, HB4⟩)
              have HC4 : Hid (CurL p ao n cap w4) := HC3.out.below HB4.out HC3.out.lt
              have HKK4 : Hid (KeptBut p w w4) := HKK3.out.below HB4.out
              have HG4 : Hid (Blk w4 B3 2 (fun i => if i = 0 then .int .i64 (2 + x0) else .slice a nL cL)) := HG3.out.of_block (HB4.out.block _ HG3.out.lt)
              have HR4 : Hid (Blk w4 B 2 (fun i => if i = 0 then .int .i64 0 else .slice none 0 0)) := HR3.out.of_block (HB4.out.block _ HR3.out.lt)
              have HE4' : Hid (EdgesOwn (B3 + 1) w4.heap.size w4 a4 (gaddL (2 + x0) L x)) := HE4.out.wide HG3.out.lt (Nat.le_refl _)
              clear HC3 HKK3 HG3 HR3 HE3 HE4 HB4 HOK4 c0 c1
              refine hK.out _ _ trivial (fun hHeld => ?_)
              clear hK K
              try simp only [Act.put, List.setIfInBounds_toArray, List.set_cons_zero, List.set_cons_succ]
              refine wpAnyH_take (i := 6) (oi := { dst := some 16, op := Go.Op.move (Go.Operand.tmp 22), type := 43, pos := "l04_graph.go:136", after := #[{ on := 5, ground := Go.Ground.data }], guard := none }) (v := ?_) rfl (by kernel_rfl) (by kernel_rfl) (by kernel_rfl) (fun _ _ _ h => h) (Or.inl ⟨by kernel_rfl, ?_⟩) (by assumption) ?_
              rotate_left
              · intro w hSw; (try dsimp only at hSw); go_simp; try with_reducible rfl
              simp only [Act.put, List.setIfInBounds_toArray, List.set_cons_zero, List.set_cons_succ]
              refine wpAnyH_take (i := 7) (oi := { dst := some 23, op := Go.Op.extract (Go.Operand.tmp 16) 0, type := 37, pos := "l04_graph.go:136", after := #[{ on := 6, ground := Go.Ground.data }], guard := none }) (v := ?_) rfl (by kernel_rfl) (by kernel_rfl) (by kernel_rfl) (fun _ _ _ h => h) (Or.inl ⟨by kernel_rfl, ?_⟩) (by assumption) ?_
              rotate_left
              · intro w hSw; (try dsimp only at hSw); go_simp; try with_reducible rfl
              simp only [Act.put, List.setIfInBounds_toArray, List.set_cons_zero, List.set_cons_succ]
              refine wpAnyH_take (i := 8) (oi := { dst := some 24, op := Go.Op.extract (Go.Operand.tmp 16) 1, type := 4, pos := "l04_graph.go:136", after := #[{ on := 6, ground := Go.Ground.data }, { on := 9, ground := Go.Ground.gcOnly Go.Departure.lateStores }], guard := none }) (v := ?_) rfl (by kernel_rfl) (by kernel_rfl) (by kernel_rfl) (fun _ _ _ h => h) (Or.inl ⟨by kernel_rfl, ?_⟩) (by assumption) ?_
              rotate_left
              · intro w hSw; (try dsimp only at hSw); go_simp; try with_reducible rfl
              simp only [Act.put, List.setIfInBounds_toArray, List.set_cons_zero, List.set_cons_succ]
              refine wpAnyH_ready (rs := [9]) (by kernel_rfl) (by simp) ?_
              refine AllReadyH.cons (o := { dst := none, op := Go.Op.store 37 (Go.Operand.tmp 3) (Go.Operand.tmp 23), type := 0, pos := "l04_graph.go:136", after := #[{ on := 7, ground := Go.Ground.data }, { on := 5, ground := Go.Ground.chain }, { on := 0, ground := Go.Ground.phase }, { on := 1, ground := Go.Ground.phase }, { on := 2, ground := Go.Ground.phase }, { on := 3, ground := Go.Ground.phase }, { on := 4, ground := Go.Ground.phase }, { on := 5, ground := Go.Ground.phase }, { on := 6, ground := Go.Ground.phase }, { on := 7, ground := Go.Ground.phase }, { on := 8, ground := Go.Ground.textOnly Go.Departure.lateStores }], guard := none }) rfl (fun K hK => ?_) ?_
              · obtain ⟨d0, d1⟩ := blk_pair_cells HG4.out
                have df0 := HG4.out.frozen 0
                have df1 := HG4.out.frozen 1
                go_simp
                refine hK.out _ _ trivial (fun hHeld => ?_)
                clear hK K
                try simp only [Act.put, List.setIfInBounds_toArray, List.set_cons_zero, List.set_cons_succ]
                refine wpAnyH_done (by kernel_rfl) ?_ _
                clear hHeld d0 d1 df0 df1
                go_wp2
                go_roundw
                case rel => exact ⟨j + 1, a4, n4, c4, _, by go_num, by omega, HN4, graph_rel (by omega) HPL.out HE4'.out HG4.out HR4.out HC4.out HKK4.out (gadd_drawn HLO.out HX.out hj9 (by omega) (by omega))⟩
                case measure => simp [intOf]; omega
              exact AllReadyH.nil
            exact AllReadyH.nil
          exact AllReadyH.nil
        refine AllReadyH.cons (o := { dst := some 21, op := Go.Op.call { callee := Go.Callee.value (Go.Operand.func 102), args := #[Go.Operand.tmp 18, Go.Operand.tmp 20], argTypes := #[83, 3] }, type := 42, pos := "l04_graph.go:136", after := #[{ on := 1, ground := Go.Ground.data }, { on := 3, ground := Go.Ground.data }], guard := none }) rfl (fun K hK => ?_) ?_
        · go_simp
          go_wp2_with (go_at_call 102; refine (l04Edge_any _ p n cap ao (2 + x0) (by omega) (by omega) (HCU2.out.below ((Below.refl _ _).drew) HCU2.out.lt)).mono ?_; rintro e w3 ⟨x, rfl, HX, HC3, HK3⟩)
          have HK3' : Hid (KeptBut p w2 w3) := ((KeptBut.refl p w2).below ((Below.refl _ _).drew)).trans HK3.out
          have HKK3 : Hid (KeptBut p w w3) := HKK2.out.trans HK3'.out
          have HG3 : Hid (Blk w3 B3 2 (fun i => if i = 0 then .int .i64 (2 + x0) else .slice a nL cL)) := HG2.out.keptBut HK3'.out HPB.out.2
          have HR3 : Hid (Blk w3 B 2 (fun i => if i = 0 then .int .i64 0 else .slice none 0 0)) := HR2.out.keptBut HK3'.out HPB.out.1
          have HE3 : Hid (EdgesIn (B3 + 1) w3.heap.size w3 a L) := (HE2.out.keptBut HK3'.out HPP.out (Nat.le_refl _)).wide (Nat.le_refl _) HK3'.out.size
          obtain ⟨c0, c1⟩ := blk_pair_cells HG3.out
          clear HK3 HK3' HKK2 HG2 HR2 HE2 HCU2
          refine hK.out _ _ trivial (fun hHeld => ?_)
          clear hK K
          try simp only [Act.put, List.setIfInBounds_toArray, List.set_cons_zero, List.set_cons_succ]
          refine wpAnyH_ready (rs := [0]) (by kernel_rfl) (by simp) ?_
          refine AllReadyH.cons (o := { dst := some 17, op := Go.Op.load 37 (Go.Operand.tmp 3), type := 37, pos := "l04_graph.go:136", after := #[], guard := none }) rfl (fun K hK => ?_) ?_
          · go_simp
            refine hK.out _ _ trivial (fun hHeld => ?_)
            clear hK K
            try simp only [Act.put, List.setIfInBounds_toArray, List.set_cons_zero, List.set_cons_succ]
            refine wpAnyH_ready (rs := [5]) (by kernel_rfl) (by simp) ?_
            refine AllReadyH.cons (o := { dst := some 22, op := Go.Op.call { callee := Go.Callee.value (Go.Operand.func 46), args := #[Go.Operand.tmp 17, Go.Operand.tmp 21], argTypes := #[37, 42] }, type := 43, pos := "l04_graph.go:136", after := #[{ on := 0, ground := Go.Ground.data }, { on := 4, ground := Go.Ground.data }, { on := 4, ground := Go.Ground.chain }], guard := none }) rfl (fun K hK => ?_) ?_
            · go_simp
              go_wp2_with (go_at_call 46; refine (specGAdd_any (B3 + 1) _ (2 + x0) a nL cL L x w3 HE3.out (Nat.le_refl _) HLN.out (by have := HLN.out; have := HLO.out.2.1; omega)).mono ?_; rintro e w4 ⟨a4, n4, c4, ok4, rfl, HOK4, HN4, HE4, HB4⟩)
              have HC4 : Hid (CurL p ao n cap w4) := HC3.out.below HB4.out HC3.out.lt
              have HKK4 : Hid (KeptBut p w w4) := HKK3.out.below HB4.out
              have HG4 : Hid (Blk w4 B3 2 (fun i => if i = 0 then .int .i64 (2 + x0) else .slice a nL cL)) := HG3.out.of_block (HB4.out.block _ HG3.out.lt)
              have HR4 : Hid (Blk w4 B 2 (fun i => if i = 0 then .int .i64 0 else .slice none 0 0)) := HR3.out.of_block (HB4.out.block _ HR3.out.lt)
              have HE4' : Hid (EdgesOwn (B3 + 1) w4.heap.size w4 a4 (gaddL (2 + x0) L x)) := HE4.out.wide HG3.out.lt (Nat.le_refl _)
              clear HC3 HKK3 HG3 HR3 HE3 HE4 HB4 HOK4 c0 c1
              refine hK.out _ _ trivial (fun hHeld => ?_)
              clear hK K
              try simp only [Act.put, List.setIfInBounds_toArray, List.set_cons_zero, List.set_cons_succ]
              refine wpAnyH_take (i := 6) (oi := { dst := some 16, op := Go.Op.move (Go.Operand.tmp 22), type := 43, pos := "l04_graph.go:136", after := #[{ on := 5, ground := Go.Ground.data }], guard := none }) (v := ?_) rfl (by kernel_rfl) (by kernel_rfl) (by kernel_rfl) (fun _ _ _ h => h) (Or.inl ⟨by kernel_rfl, ?_⟩) (by assumption) ?_
              rotate_left
              · intro w hSw; (try dsimp only at hSw); go_simp; try with_reducible rfl
              simp only [Act.put, List.setIfInBounds_toArray, List.set_cons_zero, List.set_cons_succ]
              refine wpAnyH_take (i := 7) (oi := { dst := some 23, op := Go.Op.extract (Go.Operand.tmp 16) 0, type := 37, pos := "l04_graph.go:136", after := #[{ on := 6, ground := Go.Ground.data }], guard := none }) (v := ?_) rfl (by kernel_rfl) (by kernel_rfl) (by kernel_rfl) (fun _ _ _ h => h) (Or.inl ⟨by kernel_rfl, ?_⟩) (by assumption) ?_
              rotate_left
              · intro w hSw; (try dsimp only at hSw); go_simp; try with_reducible rfl
              simp only [Act.put, List.setIfInBounds_toArray, List.set_cons_zero, List.set_cons_succ]
              refine wpAnyH_take (i := 8) (oi := { dst := some 24, op := Go.Op.extract (Go.Operand.tmp 16) 1, type := 4, pos := "l04_graph.go:136", after := #[{ on := 6, ground := Go.Ground.data }, { on := 9, ground := Go.Ground.gcOnly Go.Departure.lateStores }], guard := none }) (v := ?_) rfl (by kernel_rfl) (by kernel_rfl) (by kernel_rfl) (fun _ _ _ h => h) (Or.inl ⟨by kernel_rfl, ?_⟩) (by assumption) ?_
              rotate_left
              · intro w hSw; (try dsimp only at hSw); go_simp; try with_reducible rfl
              simp only [Act.put, List.setIfInBounds_toArray, List.set_cons_zero, List.set_cons_succ]
              refine wpAnyH_ready (rs := [9]) (by kernel_rfl) (by simp) ?_
              refine AllReadyH.cons (o := { dst := none, op := Go.Op.store 37 (Go.Operand.tmp 3) (Go.Operand.tmp 23), type := 0, pos := "l04_graph.go:136", after := #[{ on := 7, ground := Go.Ground.data }, { on := 5, ground := Go.Ground.chain }, { on := 0, ground := Go.Ground.phase }, { on := 1, ground := Go.Ground.phase }, { on := 2, ground := Go.Ground.phase }, { on := 3, ground := Go.Ground.phase }, { on := 4, ground := Go.Ground.phase }, { on := 5, ground := Go.Ground.phase }, { on := 6, ground := Go.Ground.phase }, { on := 7, ground := Go.Ground.phase }, { on := 8, ground := Go.Ground.textOnly Go.Departure.lateStores }], guard := none }) rfl (fun K hK => ?_) ?_
              · obtain ⟨d0, d1⟩ := blk_pair_cells HG4.out
                have df0 := HG4.out.frozen 0
                have df1 := HG4.out.frozen 1
                go_simp
                refine hK.out _ _ trivial (fun hHeld => ?_)
                clear hK K
                try simp only [Act.put, List.setIfInBounds_toArray, List.set_cons_zero, List.set_cons_succ]
                refine wpAnyH_done (by kernel_rfl) ?_ _
                clear hHeld d0 d1 df0 df1
                go_wp2
                go_roundw
                case rel => exact ⟨j + 1, a4, n4, c4, _, by go_num, by omega, HN4, graph_rel (by omega) HPL.out HE4'.out HG4.out HR4.out HC4.out HKK4.out (gadd_drawn HLO.out HX.out hj9 (by omega) (by omega))⟩
                case measure => simp [intOf]; omega
              exact AllReadyH.nil
            exact AllReadyH.nil
          exact AllReadyH.nil
        exact AllReadyH.nil
      exact AllReadyH.nil
    · obtain ⟨r0, r1⟩ := blk_pair_cells HR2.out
      have rf0 := HR2.out.frozen 0
      have rf1 := HR2.out.frozen 1
      go_wp2
      refine bodyPost_ret (v := .agg #[.int .i64 (2 + x0), .slice a nL cL]) (by simp [results, Try.results71, go_sem, r0, r1]) rfl ?_
      have hl := HPL.out
      refine ⟨_, a, nL, cL, L, rfl, HLN, ?_, ⟨⟨HLO.out.1, Nat.le_trans HLO.out.2.1 hj, fun _ => HLO.out.2.2 (by omega)⟩, by omega, by omega⟩, ?_, ?_⟩
      · refine (HE2.out.kept (p := fun k => k = B) ?_ (Nat.le_refl _) (fun k h1 _ e => by omega)).wide (by omega) (by simp)
        exact ((KeptP.refl (fun k => k = B) w2).setCell (g := B) rfl _).setCell (g := B) rfl _
      · exact HCU2.out.below (((Below.refl B w2).setCell (Nat.le_refl _) _).setCell (Nat.le_refl _) _) (by omega)
      · exact (HKK2.out.setOut (by omega) _).setOut (by omega) _

set_option maxHeartbeats 1000000 in
set_option maxRecDepth 100000 in
theorem drawGraph_any (w : World) (n cap : Nat) (ao : Option Addr) (hn : n ≤ 1048576) (hc : CodeIn w ao n) :
    Calls Try.prog 23 #[.slice ao n cap] w fun e w' => ∃ (s : Int) (a : Option Addr) (nL cL : Nat) (L : List Ed), e = .returned (gv s a nL cL) ∧ Hid (L.length = nL) ∧ Hid (EdgesIn w.heap.size w'.heap.size w' a L) ∧ Hid (GDr s L 10 ∧ 2 ≤ s ∧ s ≤ 5) ∧ Hid (Below w.heap.size w w') := by
  obtain ⟨B, HB⟩ : ∃ B, Hid (w.heap.size = B) := ⟨_, rfl⟩
  have HC : Hid (CodeIn w ao n) := hc
  clear hc
  go_enter Try.func23, Try.ntmps23
  go_wp2_with fail
  rw [HB.out]
  generalize hW : World.alloc _ _ = W
  have HC1 : Hid (CodeIn W ao n) := by show CodeIn _ _ _; rw [← hW]; exact HC.out.below (below1 w _)
  have HB1 : Hid (Below B w W) := by show Below _ _ _; rw [← hW, ← HB.out]; exact below1 w _
  have HR1 : Hid (Blk W B 2 (fun i => if i = 0 then .int .i64 0 else .slice none 0 0)) := by show Blk _ _ _ _; rw [← hW]; exact blk_two w B HB.out.symm _ _ _
  clear hW
  refine (new_any W ao n cap hn HC1.out).mono ?_
  rintro e w1 ⟨rfl, hc1, hb1⟩
  obtain ⟨p, HP⟩ : ∃ p, Hid (p = W.heap.size) := ⟨_, rfl⟩
  have HCU : Hid (CurL p ao n cap w1) := by rw [HP.out]; exact ⟨hc1, cur_start HC1.out⟩
  have HPB : Hid (B < p) := by show B < p; rw [HP.out]; exact HR1.out.lt
  have HR2 : Hid (Blk w1 B 2 (fun i => if i = 0 then .int .i64 0 else .slice none 0 0)) := HR1.out.of_block (hb1.block _ HR1.out.lt)
  have HB2 : Hid (Below B w w1) := HB1.out.trans (hb1.mono (by have := HPB.out; have := HP.out; omega))
  rw [← HP.out]
  clear hc1 hb1 HR1 HB1 HC1
  go_wp2_with fail
  refine (l04Graph_any w1 p n cap ao HCU.out).mono ?_
  rintro e w2 ⟨s, a, nL, cL, L, rfl, HLN, HE, HGD, HC2, HK2⟩
  have HR3 : Hid (Blk w2 B 2 (fun i => if i = 0 then .int .i64 0 else .slice none 0 0)) := HR2.out.keptBut HK2.out (by have := HPB.out; omega)
  have HB3 : Hid (Below B w w2) := HB2.out.trans (HK2.out.to_below (Nat.le_of_lt HPB.out) (by have := HR2.out.lt; omega))
  have HSZ : Hid (B < w1.heap.size) := HR2.out.lt
  clear HR2 HB2 HCU HC2
  obtain ⟨r0, r1⟩ := blk_pair_cells HR3.out
  have rf0 := HR3.out.frozen 0
  have rf1 := HR3.out.frozen 1
  go_wp2
  refine bodyPost_ret (v := .agg #[.int .i64 s, .slice a nL cL]) (by simp [results, Try.results23, go_sem, r0, r1]) rfl ?_
  have hl := HB.out
  have hz := HSZ.out
  refine ⟨s, a, nL, cL, L, rfl, HLN, ?_, HGD, ?_⟩
  · refine (HE.out.kept (p := fun k => k = B) ?_ (Nat.le_refl _) (fun k h1 _ e => by omega)).wide (by omega) (by simp)
    exact ((KeptP.refl (fun k => k = B) w2).setCell (g := B) rfl _).setCell (g := B) rfl _
  · rw [hl]; exact (HB3.out.setCell (Nat.le_refl _) _).setCell (Nat.le_refl _) _
end Go.Proofs.Ytelikebpddhncaa

/-
  Any drawn graph: spec.l04Any, DrawTurned, DrawGraphText.
-/
namespace Go.Proofs.Ytelikebpddhncaa
open Go.RowKit

/-- the draw's graph in its box P, ahead of its return through B -/
structure AnyS (w W : World) (p n cap : Nat) (ao : Option Addr) (B M P : Nat) (s : Int) (a : Option Addr) (nL cL : Nat) (L : List Ed) : Prop where
  kept : KeptBut p w W
  cur : CurL p ao n cap W
  box : Blk W P 2 (fun i => if i = 0 then .int .i64 s else .slice a nL cL)
  res : Blk W B 2 (fun i => if i = 0 then .int .i64 0 else .slice none 0 0)
  own : EdgesIn M W.heap.size W a L
  len : L.length = nL
  lt : p < w.heap.size ∧ w.heap.size = B ∧ B < M ∧ M ≤ P
theorem AnyS.fin {w W : World} {p n cap : Nat} {ao : Option Addr} {B M P : Nat} {s : Int} {a : Option Addr} {nL cL : Nat} {L : List Ed} {u v : Value} (h : AnyS w W p n cap ao B M P s a nL cL L) :
    EdgesIn w.heap.size ((W.setCell ⟨B, 0, none⟩ u).setCell ⟨B, 1, none⟩ v).heap.size ((W.setCell ⟨B, 0, none⟩ u).setCell ⟨B, 1, none⟩ v) a L ∧ CurL p ao n cap ((W.setCell ⟨B, 0, none⟩ u).setCell ⟨B, 1, none⟩ v) ∧ KeptBut p w ((W.setCell ⟨B, 0, none⟩ u).setCell ⟨B, 1, none⟩ v) := by
  obtain ⟨h1, h2, h3, h4⟩ := h.lt
  refine ⟨?_, ?_, ?_⟩
  · refine (h.own.kept (p := fun k => k = B) (((KeptP.refl (fun k => k = B) W).setCell (g := B) rfl _).setCell (g := B) rfl _) (Nat.le_refl _) (fun k h1 _ e => by omega)).wide (by omega) (by simp)
  · exact h.cur.below (((Below.refl B W).setCell (Nat.le_refl _) _).setCell (Nat.le_refl _) _) (by omega)
  · exact (h.kept.setOut (by omega) _).setOut (by omega) _
theorem any_put0 {w W : World} {p n cap : Nat} {ao : Option Addr} {B M P : Nat} {s : Int} {a : Option Addr} {nL cL : Nat} {L : List Ed} {o : Obj} (h : AnyS w W p n cap ao B M P s a nL cL L) (hi : EdgesIn M P W a L) (z : Int) :
    AnyS w ((W.alloc o).setCell ⟨P, 0, none⟩ (.int .i64 z)) p n cap ao B M P z a nL cL L := by
  obtain ⟨h1, h2, h3, h4⟩ := h.lt
  have hP := h.box.lt
  refine ⟨(h.kept.below (below1 W _)).setOut (by omega) _, (h.cur.below (below1 W _) h.cur.lt).below ((Below.refl P _).setCell (Nat.le_refl _) _) (by omega), ?_, ?_, ?_, h.len, h.lt⟩
  · exact ((h.box.alloc o).set 0 (by omega) _).congr (fun i hi => by rcases (show i = 0 ∨ i = 1 by omega) with rfl | rfl <;> simp)
  · exact (h.res.alloc o).of_block (Below.heap_setCell _ ⟨P, 0, none⟩ _ B (by show B ≠ P; omega))
  · exact ((hi.below (below1 W o) (by omega)).kept (p := fun k => k = P) ((KeptP.refl (fun k => k = P) _).setCell (g := P) rfl _) (by simp; omega) (fun k _ h2 e => by omega)).wide (Nat.le_refl _) (by simp; omega)
theorem own_off {M hi P j g : Nat} {w : World} {L : List Ed} (h : EdgesOwn M hi w (some ⟨g, 0, none⟩) L) (hg : g ≠ P) (v : Value) : EdgesOwn M hi (w.setCell ⟨P, j, none⟩ v) (some ⟨g, 0, none⟩) L := by
  rcases h with h | ⟨b, e, h1, h2, h3⟩
  · exact .inl h
  · obtain rfl : g = b := by simpa using e
    exact .inr ⟨g, rfl, h1, h2, Blk.of_block h3 (Below.heap_setCell _ ⟨P, j, none⟩ _ g hg)⟩
theorem any_put1 {w W w4 : World} {p n cap : Nat} {ao : Option Addr} {B M P : Nat} {s : Int} {a : Option Addr} {nL cL g4 n4 cap4 : Nat} {L L' : List Ed} {u : Value} (h : AnyS w W p n cap ao B M P s a nL cL L)
    (h4 : M ≤ g4 ∧ g4 ≠ P ∧ w4.ownsRow M 42 3 (.slice (some ⟨g4, 0, none⟩) n4 cap4) n4 (ecells L') ∧ Below M W w4 ∧ Blk w4 P 2 (fun i => if i = 0 then .int .i64 s else u)) (hn : L'.length = n4) :
    AnyS w (w4.setCell ⟨P, 1, none⟩ (.slice (some ⟨g4, 0, none⟩) n4 cap4)) p n cap ao B M P s (some ⟨g4, 0, none⟩) n4 cap4 L' := by
  obtain ⟨h1, h2, h3, h5⟩ := h.lt
  obtain ⟨q1, q2, q3, q4, q5⟩ := h4
  have hb : Below M W (w4.setCell ⟨P, 1, none⟩ (.slice (some ⟨g4, 0, none⟩) n4 cap4)) := q4.setCell h5 _
  refine ⟨⟨hb.os.trans h.kept.os, hb.tape.trans h.kept.tape, hb.output.trans h.kept.output, Nat.le_trans h.kept.size hb.size, fun k hk hg => (hb.block k (by omega)).trans (h.kept.block k hk hg)⟩, h.cur.below hb (by omega), ?_, ?_, ?_, hn, h.lt⟩
  · exact (q5.set 1 (by omega) _).congr (fun i hi => by rcases (show i = 0 ∨ i = 1 by omega) with rfl | rfl <;> simp)
  · exact h.res.of_block (hb.block B h3)
  · exact (own_off (own_in q3 hn) q2 _).toIn.wide (Nat.le_refl _) (by simp)
theorem own_drew {w : World} {B e s n : Nat} {v : Value} {xs : List Value} (h : w.ownsRow B e s v n xs) : w.drew.ownsRow B e s v n xs := h
theorem own_undrew {w : World} {B e s n : Nat} {v : Value} {xs : List Value} (h : w.ownsRow B e s v n xs) : w.ownsRow B e s v n xs := h
theorem grown_undrew {w w4 : World} {v : Option Nat} (h : (w.drew).grownBy w4 v) : w.grownBy w4 v := ⟨h.os, h.tape, h.output, h.size, h.block⟩
theorem any_app {w W w4 : World} {p n cap : Nat} {ao : Option Addr} {B M P : Nat} {s : Int} {a : Option Addr} {nL cL g4 n4 cap4 : Nat} {L : List Ed} {xe : Ed} {o : Obj} {xs : List Value} (h : AnyS w W p n cap ao B M P s a nL cL L)
    (hv : ∀ k, (Value.slice a nL cL).ownBlock = some k → M ≤ k ∧ k < P) (hl : M ≤ W.heap.size) (hx : ecells (L ++ [xe]) = xs) (ho : w4.ownsRow M 42 3 (.slice (some ⟨g4, 0, none⟩) n4 cap4) n4 xs) (hg : (W.alloc o).grownBy w4 (Value.slice a nL cL).ownBlock) (hc : (Value.slice a nL cL).ownBlock = some g4 ∨ g4 = W.heap.size + 1) :
    M ≤ g4 ∧ g4 ≠ P ∧ w4.ownsRow M 42 3 (.slice (some ⟨g4, 0, none⟩) n4 cap4) n4 (ecells (L ++ [xe])) ∧ Below M W w4 ∧ Blk w4 P 2 (fun i => if i = 0 then .int .i64 s else .slice a nL cL) := by
  have hP := h.box.lt
  refine ⟨(ho.lt g4 rfl).1, ?_, by rw [hx]; exact ho, ((Below.refl M W).alloc hl o).grown hg (by simp; omega) (fun k hk => (hv k hk).1), ?_⟩
  · rcases hc with h | h
    · have := hv g4 h; omega
    · omega
  · refine (h.box.alloc o).of_block (hg.block P (by simp; omega) (fun e => ?_))
    have := hv P e.symm
    omega

theorem pick5 (W : World) (x : Int) : ∃ z, (W.alloc (.cells #[.int .i64 0, .int .i64 1, .int .i64 12, .int .i64 13, .int .i64 (-9223372036854775808)] 3)).cell? ⟨W.heap.size, (x % 5).toNat, none⟩ = some (.int .i64 z) := by
  rw [cell_of_row _ _ (x % 5).toNat _ 3 (0, 0) (heap_alloc_new W _)]
  rcases (show (x % 5).toNat = 0 ∨ (x % 5).toNat = 1 ∨ (x % 5).toNat = 2 ∨ (x % 5).toNat = 3 ∨ (x % 5).toNat = 4 by omega) with h | h | h | h | h <;> rw [h] <;> exact ⟨_, rfl⟩
set_option maxHeartbeats 8000000 in
set_option maxRecDepth 100000 in
theorem l04Any_any (w : World) (p n cap : Nat) (ao : Option Addr) (hc : CurL p ao n cap w) :
    Calls Try.prog 81 #[.pointer (some ⟨p, 0, none⟩)] w fun e w' => ∃ (s : Int) (a : Option Addr) (nL cL : Nat) (L : List Ed), e = .returned (gv s a nL cL) ∧ Hid (L.length = nL) ∧ Hid (EdgesIn w.heap.size w'.heap.size w' a L) ∧ Hid (nL ≤ 11) ∧ Hid (CurL p ao n cap w') ∧ Hid (KeptBut p w w') := by
  obtain ⟨i0, hi0, hz0, hz1, hz2⟩ := info_parts Try.info42
  have HPW : Hid (p < w.heap.size) := hc.lt
  obtain ⟨B, HB⟩ : ∃ B, Hid (w.heap.size = B) := ⟨_, rfl⟩
  have HC : Hid (CurL p ao n cap w) := hc
  clear hc
  go_enter Try.func81, Try.ntmps81
  go_wp2_with fail
  rw [HB.out]
  generalize hW : World.alloc _ _ = W0
  have HC1 : Hid (CurL p ao n cap W0) := by show CurL _ _ _ _ _; rw [← hW]; exact HC.out.below (below1 w _) HPW.out
  have HK1 : Hid (KeptBut p w W0) := by show KeptBut _ _ _; rw [← hW]; exact (KeptBut.refl p w).below (below1 w _)
  have HR1 : Hid (Blk W0 B 2 (fun i => if i = 0 then .int .i64 0 else .slice none 0 0)) := by show Blk _ _ _ _; rw [← hW]; exact blk_two w B HB.out.symm _ _ _
  have HNE : Hid (B ≠ p) := by show B ≠ p; have := HPW.out; have := HB.out; omega
  clear hW
  refine (HC1.out.draw 12 (by omega) (by omega)).mono ?_
  rintro e w1 ⟨k, rfl, hk0, hk1, HC2, HK2⟩
  have HR2 : Hid (Blk w1 B 2 (fun i => if i = 0 then .int .i64 0 else .slice none 0 0)) := HR1.out.keptBut HK2.out HNE.out
  have HKK2 : Hid (KeptBut p w w1) := HK1.out.trans HK2.out
  clear HC1 HK1 HR1 HK2
  go_wp2_with fail
  refine (HC2.out.draw 60 (by omega) (by omega)).mono ?_
  rintro e w2 ⟨x, rfl, hx0, hx1, HC3, HK3⟩
  have HR3 : Hid (Blk w2 B 2 (fun i => if i = 0 then .int .i64 0 else .slice none 0 0)) := HR2.out.keptBut HK3.out HNE.out
  have HKK3 : Hid (KeptBut p w w2) := HKK2.out.trans HK3.out
  clear HC2 HKK2 HR2 HK3
  go_wp2_with fail
  refine (l04Graph_any w2 p n cap ao HC3.out).mono ?_
  rintro e w3 ⟨s, a, nL, cL, L, rfl, HLN, HE, HGD, HC4, HK4⟩
  have HR4 : Hid (Blk w3 B 2 (fun i => if i = 0 then .int .i64 0 else .slice none 0 0)) := HR3.out.keptBut HK4.out HNE.out
  have HKK4 : Hid (KeptBut p w w3) := HKK3.out.trans HK4.out
  have HNL : Hid (1 ≤ nL ∧ nL ≤ 10) := by
    have h1 := HGD.out.1.2.1; have h2 := HGD.out.1.2.2 (by omega); have h3 := HLN.out
    refine ⟨?_, by omega⟩
    rcases L with _ | ⟨y, L⟩
    · exact absurd rfl h2
    · simp at h3; omega
  clear HC3 HKK3 HR3 HK4
  go_wp2_with fail
  refine (l04Copy_any _ _ s a nL cL L w3 HE.out (Nat.le_refl _) HLN.out (by have := HNL.out; omega)).mono ?_
  rintro e w5 ⟨a5, c5, rfl, HO5, HB5⟩
  obtain ⟨M, HM⟩ : ∃ M, Hid (w3.heap.size = M) := ⟨_, rfl⟩
  obtain ⟨P, HP⟩ : ∃ P, Hid (w5.heap.size = P) := ⟨_, rfl⟩
  go_upto_region 4 with fail
  rw [HP.out]
  obtain ⟨W, HW⟩ : ∃ W, Hid (W = w5.alloc (.cells #[.int .i64 s, .slice a5 nL c5] 37)) := ⟨_, rfl⟩
  rw [← HW.out]
  have HB5' : Hid (Below M w3 w5) := by rw [← HM.out]; exact HB5.out
  have hmp : B < M ∧ M ≤ P := ⟨by have := HR4.out.lt; have := HM.out; omega, by have := HB5.out.size; have := HM.out; have := HP.out; omega⟩
  have HO5' : Hid (w5.ownsRow M 42 3 (.slice a5 nL c5) nL (ecells L)) := by rw [← HM.out]; exact HO5.out
  have HVP : Hid (∀ k, (Value.slice a5 nL c5).ownBlock = some k → M ≤ k ∧ k < P) := fun k hk => by rw [← HP.out]; exact HO5'.out.lt k hk
  have HOW : Hid (W.ownsRow M 42 3 (.slice a5 nL c5) nL (ecells L)) := by rw [HW.out]; exact HO5'.out.alloc _
  have HIN : Hid (EdgesIn M P W a5 L) := by rw [HW.out, ← HP.out]; exact (own_in HO5'.out HLN.out).toIn.below (below1 w5 _) (Nat.le_refl _)
  have HLT : Hid (M ≤ W.heap.size) := by show _ ≤ _; rw [HW.out]; simp; have := HP.out; omega
  have HAW : Hid (AnyS w W p n cap ao B M P s a5 nL c5 L) := by
    refine ⟨?_, ?_, ?_, ?_, HIN.out.wide (Nat.le_refl _) ?_, HLN.out, ⟨HPW.out, HB.out, hmp⟩⟩
    · rw [HW.out]; exact (HKK4.out.below HB5.out).below (below1 w5 _)
    · rw [HW.out]; exact (HC4.out.below HB5.out HC4.out.lt).below (below1 w5 _) (HC4.out.below HB5.out HC4.out.lt).lt
    · rw [HW.out]; exact blk_two w5 P HP.out.symm _ _ _
    · rw [HW.out]; exact (HR4.out.of_block (HB5.out.block _ HR4.out.lt)).alloc _
    · rw [HW.out]; simp; have := HP.out; omega
  clear HW HO5 HO5' HB5 HB5' HR4 HKK4 HC4 HE hmp HC HPW HNE
  by_cases e0 : k = 0
  · subst e0
    obtain ⟨t0, t1⟩ := blk_pair_cells HAW.out.box
    have tf0 := (HAW.out.box.alloc (.cells #[.int .i64 0, .int .i64 1, .int .i64 12, .int .i64 13, .int .i64 (-9223372036854775808)] 3)).frozen 0
    obtain ⟨tt0, _⟩ := blk_pair_cells (HAW.out.box.alloc (.cells #[.int .i64 0, .int .i64 1, .int .i64 12, .int .i64 13, .int .i64 (-9223372036854775808)] 3))
    have hr0 : 0 ≤ x % 5 := by omega
    have hr1 : x % 5 < 5 := by omega
    obtain ⟨z, hz⟩ : ∃ z, (W.alloc (.cells #[.int .i64 0, .int .i64 1, .int .i64 12, .int .i64 13, .int .i64 (-9223372036854775808)] 3)).cell? ⟨W.heap.size, (x % 5).toNat, none⟩ = some (.int .i64 z) := pick5 W x
    go_upto_region 12 with fail
    obtain ⟨WF, HWF⟩ : ∃ WF, Hid (WF = (W.alloc (.cells #[.int .i64 0, .int .i64 1, .int .i64 12, .int .i64 13, .int .i64 (-9223372036854775808)] 3)).setCell ⟨P, 0, none⟩ (.int .i64 z)) := ⟨_, rfl⟩
    rw [← HWF.out]
    have HA : Hid (AnyS w WF p n cap ao B M P z a5 (nL) c5 (L)) := by rw [HWF.out]; exact any_put0 HAW.out HIN.out z
    clear HWF
    obtain ⟨d0, d1⟩ := blk_pair_cells HA.out.box
    obtain ⟨r0, r1⟩ := blk_pair_cells HA.out.res
    have rf0 := HA.out.res.frozen 0
    have rf1 := HA.out.res.frozen 1
    go_wp2
    refine bodyPost_ret (v := .agg #[.int .i64 z, .slice a5 (nL) c5]) (by simp [results, Try.results81, go_sem, r0, r1]) rfl ?_
    exact ⟨_, _, _, _, L, rfl, by first | exact HLN | (show _ = _; rw [List.length_append, HLN.out]; rfl), HA.out.fin.1, by show _ ≤ _; have := HGD.out.1.2.1; have := HLN.out; omega, HA.out.fin.2.1, HA.out.fin.2.2⟩
  · by_cases e1 : k = 1
    · subst e1
      obtain ⟨t0, t1⟩ := blk_pair_cells HAW.out.box
      go_wp2_with (at_builtin; refine wpList_append_lies _ rfl (.tmp 25) (.tmp 35) 35 rfl M 42 i0 _ 3 24 Try.underlying35 hi0 hz0 hz1 hz2 rfl (by decide) _ nL (ecells L) rfl (HOW.out.alloc _) ⟨W.heap.size, 0, none⟩ 1 1 [.int .i64 _, .int .u8 _, .int .i64 _] rfl rfl (news_three W _ _ _ _) (by simp [Value.oneCell']) (by decide) (by unfold maxLen; have := HNL.out; omega) (by have := HNL.out; omega) (by have := HLT.out; simp; omega) _ rfl ?_)
      intro g4 cap4 w4 hown4 hgrow4 hloc4 _
      obtain ⟨xe, HXE⟩ : ∃ xe : Ed, Hid (M ≤ g4 ∧ g4 ≠ P ∧ w4.ownsRow M 42 3 (.slice (some ⟨g4, 0, none⟩) (nL + 1) cap4) (nL + 1) (ecells (L ++ [xe])) ∧ Below M W w4 ∧ Blk w4 P 2 (fun i => if i = 0 then .int .i64 s else .slice a5 nL c5)) := ⟨(_, _, _), any_app HAW.out HVP.out HLT.out (ecells_snoc L (_, _, _)) hown4 hgrow4 (by simpa using hloc4)⟩
      clear hown4 hgrow4 hloc4 t0 t1
      obtain ⟨u0, u1⟩ := blk_pair_cells HXE.out.2.2.2.2
      have uf1 := HXE.out.2.2.2.2.frozen 1
      go_upto_region 12 with fail
      obtain ⟨WF, HWF⟩ : ∃ WF, Hid (WF = w4.setCell ⟨P, 1, none⟩ (.slice (some ⟨g4, 0, none⟩) (nL + 1) cap4)) := ⟨_, rfl⟩
      rw [← HWF.out]
      have HA : Hid (AnyS w WF p n cap ao B M P s (some ⟨g4, 0, none⟩) (nL + 1) cap4 (L ++ [xe])) := by rw [HWF.out]; exact any_put1 HAW.out HXE.out (by rw [List.length_append, HLN.out]; rfl)
      clear HWF
      obtain ⟨d0, d1⟩ := blk_pair_cells HA.out.box
      obtain ⟨r0, r1⟩ := blk_pair_cells HA.out.res
      have rf0 := HA.out.res.frozen 0
      have rf1 := HA.out.res.frozen 1
      go_wp2
      refine bodyPost_ret (v := .agg #[.int .i64 s, .slice (some ⟨g4, 0, none⟩) (nL + 1) cap4]) (by simp [results, Try.results81, go_sem, r0, r1]) rfl ?_
      exact ⟨_, _, _, _, L ++ [xe], rfl, by first | exact HLN | (show _ = _; rw [List.length_append, HLN.out]; rfl), HA.out.fin.1, by show _ ≤ _; have := HGD.out.1.2.1; have := HLN.out; omega, HA.out.fin.2.1, HA.out.fin.2.2⟩
    · by_cases e2 : k = 2
      · subst e2
        obtain ⟨b, o, rfl, _, _, hx⟩ := HIN.out.edge (k := 0) (by have := HNL.out; have := HLN.out; omega)
        obtain ⟨xx, HXX⟩ : ∃ xx : Ed, Hid (xx = eat L 0) := ⟨_, rfl⟩
        rw [← HXX.out] at hx
        obtain ⟨e0, e1, e2⟩ := xx
        obtain ⟨p0, p1, p2⟩ := hx
        simp only [Nat.zero_mul, Nat.add_zero] at p0 p1 p2
        obtain ⟨_, t1⟩ := blk_pair_cells HAW.out.box
        have hln0 : (0 : Int) < (nL : Int) := by have := HNL.out; omega
        have t1a : ∀ q, (W.alloc q).cell? ⟨P, 1, none⟩ = some (.slice (some ⟨b, o, none⟩) nL c5) := fun q => cell_below t1 (below1 W q) (lt_of_cell t1)
        have t1b : ∀ q, (W.alloc q).drew.cell? ⟨P, 1, none⟩ = some (.slice (some ⟨b, o, none⟩) nL c5) := fun q => t1a q
        have t1c : ∀ q, (W.drew.alloc q).cell? ⟨P, 1, none⟩ = some (.slice (some ⟨b, o, none⟩) nL c5) := fun q => t1a q
        go_wp2_with fail
        refine wp_region_held_drew (S := fun _ => True) (by kernel_rfl) trivial (fun hHeld => ?_)
        refine wpAnyH_take (i := 0) (oi := { dst := some 44, op := Go.Op.fieldAddr 37 (Go.Operand.tmp 5) 1, type := 0, pos := "l04_graph.go:152", after := #[], guard := none }) (v := ?_) rfl (by kernel_rfl) (by kernel_rfl) (by kernel_rfl) (fun _ _ _ h => h) (Or.inl ⟨by kernel_rfl, ?_⟩) (by assumption) ?_
        rotate_left
        · intro w hSw; (try dsimp only at hSw); go_simp; try with_reducible rfl
        simp only [Act.put, List.setIfInBounds_toArray, List.set_cons_zero, List.set_cons_succ]
        refine wpAnyH_take (i := 2) (oi := { dst := some 46, op := Go.Op.fieldAddr 37 (Go.Operand.tmp 5) 1, type := 0, pos := "l04_graph.go:152", after := #[], guard := none }) (v := ?_) rfl (by kernel_rfl) (by kernel_rfl) (by kernel_rfl) (fun _ _ _ h => h) (Or.inl ⟨by kernel_rfl, ?_⟩) (by assumption) ?_
        rotate_left
        · intro w hSw; (try dsimp only at hSw); go_simp; try with_reducible rfl
        simp only [Act.put, List.setIfInBounds_toArray, List.set_cons_zero, List.set_cons_succ]
        refine wpAnyH_ready (rs := [1, 3]) (by kernel_rfl) (by simp) ?_
        refine AllReadyH.cons (o := { dst := some 45, op := Go.Op.load 35 (Go.Operand.tmp 44), type := 35, pos := "l04_graph.go:152", after := #[{ on := 0, ground := Go.Ground.data }], guard := none }) rfl (fun K hK => ?_) ?_
        · go_simp
          refine hK.out _ _ trivial (fun hHeld => ?_)
          clear hK K
          try simp only [Act.put, List.setIfInBounds_toArray, List.set_cons_zero, List.set_cons_succ]
          refine wpAnyH_ready (rs := [3]) (by kernel_rfl) (by simp) ?_
          refine AllReadyH.cons (o := { dst := some 47, op := Go.Op.load 35 (Go.Operand.tmp 46), type := 35, pos := "l04_graph.go:152", after := #[{ on := 2, ground := Go.Ground.data }], guard := none }) rfl (fun K hK => ?_) ?_
          · go_simp
            refine hK.out _ _ trivial (fun hHeld => ?_)
            clear hK K
            try simp only [Act.put, List.setIfInBounds_toArray, List.set_cons_zero, List.set_cons_succ]
            refine wpAnyH_take (i := 4) (oi := { dst := some 48, op := Go.Op.indexAddr 35 (Go.Operand.tmp 47) (Go.Operand.const (Go.Value.int Go.IntKind.i64 0)), type := 0, pos := "l04_graph.go:152", after := #[{ on := 3, ground := Go.Ground.data }], guard := none }) (v := ?_) rfl (by kernel_rfl) (by kernel_rfl) (by kernel_rfl) (fun _ _ _ h => h) (Or.inl ⟨by kernel_rfl, ?_⟩) (by assumption) ?_
            rotate_left
            · intro w hSw; (try dsimp only at hSw); go_simp; try with_reducible rfl
            simp only [Act.put, List.setIfInBounds_toArray, List.set_cons_zero, List.set_cons_succ]
            refine wpAnyH_ready (rs := [5]) (by kernel_rfl) (by simp) ?_
            refine AllReadyH.cons (o := { dst := some 49, op := Go.Op.load 42 (Go.Operand.tmp 48), type := 42, pos := "l04_graph.go:152", after := #[{ on := 4, ground := Go.Ground.data }], guard := none }) rfl (fun K hK => ?_) ?_
            · go_simp
              refine hK.out _ _ trivial (fun hHeld => ?_)
              clear hK K
              try simp only [Act.put, List.setIfInBounds_toArray, List.set_cons_zero, List.set_cons_succ]
              refine wpAnyH_ready (rs := [6]) (by kernel_rfl) (by simp) ?_
              refine AllReadyH.cons (o := { dst := some 50, op := Go.Op.buildSlice 35 1 #[(0, Go.Operand.tmp 49)], type := 35, pos := "l04_graph.go:152", after := #[{ on := 5, ground := Go.Ground.data }], guard := none }) rfl (fun K hK => ?_) ?_
              · go_simp
                refine hK.out _ _ trivial (fun hHeld => ?_)
                clear hK K
                try simp only [Act.put, List.setIfInBounds_toArray, List.set_cons_zero, List.set_cons_succ]
                refine wpAnyH_ready (rs := [7]) (by kernel_rfl) (by simp) ?_
                refine AllReadyH.cons (o := { dst := some 51, op := Go.Op.call { callee := Go.Callee.builtin Go.Builtin.append, args := #[Go.Operand.tmp 45, Go.Operand.tmp 50], argTypes := #[35, 35] }, type := 35, pos := "l04_graph.go:152", after := #[{ on := 1, ground := Go.Ground.data }, { on := 6, ground := Go.Ground.data }], guard := none }) rfl (fun K hK => ?_) ?_
                · refine step_append_lies _ rfl (.tmp 45) (.tmp 50) 35 rfl M 42 i0 _ 3 24 Try.underlying35 hi0 hz0 hz1 hz2 rfl (by decide) (.slice (some ⟨b, o, none⟩) nL c5) nL (ecells L) rfl (own_drew (HOW.out.alloc _)) ⟨W.heap.size, 0, none⟩ 1 1 [.int .i64 e0, .int .u8 e1, .int .i64 e2] rfl rfl (news_three W _ _ _ 42) (by simp [Value.oneCell']) (by decide) (by unfold maxLen; have := HNL.out; omega) (by have := HNL.out; omega) (by have := HLT.out; simp; omega) _ rfl ?_
                  intro g4 cap4 w4 hown4 hgrow4 hloc4 _
                  have HP4 : Hid (M ≤ g4 ∧ g4 ≠ P ∧ w4.ownsRow M 42 3 (.slice (some ⟨g4, 0, none⟩) (nL + 1) cap4) (nL + 1) (ecells (L ++ [(e0, e1, e2)])) ∧ Below M W w4 ∧ Blk w4 P 2 (fun i => if i = 0 then .int .i64 s else (.slice (some ⟨b, o, none⟩) nL c5))) := any_app HAW.out HVP.out HLT.out (o := .cells #[.int .i64 e0, .int .u8 e1, .int .i64 e2] 42) (ecells_snoc L (e0, e1, e2)) (own_undrew hown4) (grown_undrew hgrow4) (by simpa using hloc4)
                  clear hown4 hgrow4 hloc4 t1 t1a t1b t1c p0 p1 p2
                  refine hK.out _ _ trivial (fun hHeld => ?_)
                  clear hK K
                  try simp only [Act.put, List.setIfInBounds_toArray, List.set_cons_zero, List.set_cons_succ]
                  refine wpAnyH_take (i := 8) (oi := { dst := some 52, op := Go.Op.fieldAddr 37 (Go.Operand.tmp 5) 1, type := 0, pos := "l04_graph.go:152", after := #[{ on := 0, ground := Go.Ground.phase }, { on := 1, ground := Go.Ground.phase }, { on := 2, ground := Go.Ground.phase }, { on := 3, ground := Go.Ground.phase }, { on := 4, ground := Go.Ground.phase }, { on := 5, ground := Go.Ground.phase }, { on := 6, ground := Go.Ground.phase }, { on := 7, ground := Go.Ground.phase }], guard := none }) (v := ?_) rfl (by kernel_rfl) (by kernel_rfl) (by kernel_rfl) (fun _ _ _ h => h) (Or.inl ⟨by kernel_rfl, ?_⟩) (by assumption) ?_
                  rotate_left
                  · intro w hSw; (try dsimp only at hSw); go_simp; try with_reducible rfl
                  simp only [Act.put, List.setIfInBounds_toArray, List.set_cons_zero, List.set_cons_succ]
                  refine wpAnyH_ready (rs := [9]) (by kernel_rfl) (by simp) ?_
                  refine AllReadyH.cons (o := { dst := none, op := Go.Op.store 35 (Go.Operand.tmp 52) (Go.Operand.tmp 51), type := 0, pos := "l04_graph.go:152", after := #[{ on := 8, ground := Go.Ground.data }, { on := 7, ground := Go.Ground.data }, { on := 7, ground := Go.Ground.chain }, { on := 0, ground := Go.Ground.phase }, { on := 1, ground := Go.Ground.phase }, { on := 2, ground := Go.Ground.phase }, { on := 3, ground := Go.Ground.phase }, { on := 4, ground := Go.Ground.phase }, { on := 5, ground := Go.Ground.phase }, { on := 6, ground := Go.Ground.phase }, { on := 7, ground := Go.Ground.phase }], guard := none }) rfl (fun K hK => ?_) ?_
                  · obtain ⟨u0, u1⟩ := blk_pair_cells HP4.out.2.2.2.2
                    have uf1 := HP4.out.2.2.2.2.frozen 1
                    go_simp
                    refine hK.out _ _ trivial (fun hHeld => ?_)
                    clear hK K
                    try simp only [Act.put, List.setIfInBounds_toArray, List.set_cons_zero, List.set_cons_succ]
                    refine wpAnyH_done (by kernel_rfl) ?_ _
                    clear hHeld u0 u1 uf1
                    go_upto_region 12 with fail
                    obtain ⟨WF, HWF⟩ : ∃ WF, Hid (WF = w4.setCell ⟨P, 1, none⟩ (.slice (some ⟨g4, 0, none⟩) (nL + 1) cap4)) := ⟨_, rfl⟩
                    rw [← HWF.out]
                    have HA : Hid (AnyS w WF p n cap ao B M P s (some ⟨g4, 0, none⟩) (nL + 1) cap4 (L ++ [(e0, e1, e2)])) := by rw [HWF.out]; exact any_put1 HAW.out HP4.out (by rw [List.length_append, HLN.out]; rfl)
                    clear HWF
                    obtain ⟨d0, d1⟩ := blk_pair_cells HA.out.box
                    obtain ⟨r0, r1⟩ := blk_pair_cells HA.out.res
                    have rf0 := HA.out.res.frozen 0
                    have rf1 := HA.out.res.frozen 1
                    go_wp2
                    refine bodyPost_ret (v := .agg #[.int .i64 s, .slice (some ⟨g4, 0, none⟩) (nL + 1) cap4]) (by simp [results, Try.results81, go_sem, r0, r1]) rfl ?_
                    exact ⟨_, _, _, _, L ++ [(e0, e1, e2)], rfl, by first | exact HLN | (show _ = _; rw [List.length_append, HLN.out]; rfl), HA.out.fin.1, by show _ ≤ _; have := HGD.out.1.2.1; have := HLN.out; omega, HA.out.fin.2.1, HA.out.fin.2.2⟩
                  exact AllReadyH.nil
                exact AllReadyH.nil
              exact AllReadyH.nil
            exact AllReadyH.nil
          exact AllReadyH.nil
        refine AllReadyH.cons (o := { dst := some 47, op := Go.Op.load 35 (Go.Operand.tmp 46), type := 35, pos := "l04_graph.go:152", after := #[{ on := 2, ground := Go.Ground.data }], guard := none }) rfl (fun K hK => ?_) ?_
        · go_simp
          refine hK.out _ _ trivial (fun hHeld => ?_)
          clear hK K
          try simp only [Act.put, List.setIfInBounds_toArray, List.set_cons_zero, List.set_cons_succ]
          refine wpAnyH_take (i := 4) (oi := { dst := some 48, op := Go.Op.indexAddr 35 (Go.Operand.tmp 47) (Go.Operand.const (Go.Value.int Go.IntKind.i64 0)), type := 0, pos := "l04_graph.go:152", after := #[{ on := 3, ground := Go.Ground.data }], guard := none }) (v := ?_) rfl (by kernel_rfl) (by kernel_rfl) (by kernel_rfl) (fun _ _ _ h => h) (Or.inl ⟨by kernel_rfl, ?_⟩) (by assumption) ?_
          rotate_left
          · intro w hSw; (try dsimp only at hSw); go_simp; try with_reducible rfl
          simp only [Act.put, List.setIfInBounds_toArray, List.set_cons_zero, List.set_cons_succ]
          refine wpAnyH_ready (rs := [1, 5]) (by kernel_rfl) (by simp) ?_
          refine AllReadyH.cons (o := { dst := some 45, op := Go.Op.load 35 (Go.Operand.tmp 44), type := 35, pos := "l04_graph.go:152", after := #[{ on := 0, ground := Go.Ground.data }], guard := none }) rfl (fun K hK => ?_) ?_
          · go_simp
            refine hK.out _ _ trivial (fun hHeld => ?_)
            clear hK K
            try simp only [Act.put, List.setIfInBounds_toArray, List.set_cons_zero, List.set_cons_succ]
            refine wpAnyH_ready (rs := [5]) (by kernel_rfl) (by simp) ?_
            refine AllReadyH.cons (o := { dst := some 49, op := Go.Op.load 42 (Go.Operand.tmp 48), type := 42, pos := "l04_graph.go:152", after := #[{ on := 4, ground := Go.Ground.data }], guard := none }) rfl (fun K hK => ?_) ?_
            · go_simp
              refine hK.out _ _ trivial (fun hHeld => ?_)
              clear hK K
              try simp only [Act.put, List.setIfInBounds_toArray, List.set_cons_zero, List.set_cons_succ]
              refine wpAnyH_ready (rs := [6]) (by kernel_rfl) (by simp) ?_
              refine AllReadyH.cons (o := { dst := some 50, op := Go.Op.buildSlice 35 1 #[(0, Go.Operand.tmp 49)], type := 35, pos := "l04_graph.go:152", after := #[{ on := 5, ground := Go.Ground.data }], guard := none }) rfl (fun K hK => ?_) ?_
              · go_simp
                refine hK.out _ _ trivial (fun hHeld => ?_)
                clear hK K
                try simp only [Act.put, List.setIfInBounds_toArray, List.set_cons_zero, List.set_cons_succ]
                refine wpAnyH_ready (rs := [7]) (by kernel_rfl) (by simp) ?_
                refine AllReadyH.cons (o := { dst := some 51, op := Go.Op.call { callee := Go.Callee.builtin Go.Builtin.append, args := #[Go.Operand.tmp 45, Go.Operand.tmp 50], argTypes := #[35, 35] }, type := 35, pos := "l04_graph.go:152", after := #[{ on := 1, ground := Go.Ground.data }, { on := 6, ground := Go.Ground.data }], guard := none }) rfl (fun K hK => ?_) ?_
                · refine step_append_lies _ rfl (.tmp 45) (.tmp 50) 35 rfl M 42 i0 _ 3 24 Try.underlying35 hi0 hz0 hz1 hz2 rfl (by decide) (.slice (some ⟨b, o, none⟩) nL c5) nL (ecells L) rfl (own_drew (HOW.out.alloc _)) ⟨W.heap.size, 0, none⟩ 1 1 [.int .i64 e0, .int .u8 e1, .int .i64 e2] rfl rfl (news_three W _ _ _ 42) (by simp [Value.oneCell']) (by decide) (by unfold maxLen; have := HNL.out; omega) (by have := HNL.out; omega) (by have := HLT.out; simp; omega) _ rfl ?_
                  intro g4 cap4 w4 hown4 hgrow4 hloc4 _
                  have HP4 : Hid (M ≤ g4 ∧ g4 ≠ P ∧ w4.ownsRow M 42 3 (.slice (some ⟨g4, 0, none⟩) (nL + 1) cap4) (nL + 1) (ecells (L ++ [(e0, e1, e2)])) ∧ Below M W w4 ∧ Blk w4 P 2 (fun i => if i = 0 then .int .i64 s else (.slice (some ⟨b, o, none⟩) nL c5))) := any_app HAW.out HVP.out HLT.out (o := .cells #[.int .i64 e0, .int .u8 e1, .int .i64 e2] 42) (ecells_snoc L (e0, e1, e2)) (own_undrew hown4) (grown_undrew hgrow4) (by simpa using hloc4)
                  clear hown4 hgrow4 hloc4 t1 t1a t1b t1c p0 p1 p2
                  refine hK.out _ _ trivial (fun hHeld => ?_)
                  clear hK K
                  try simp only [Act.put, List.setIfInBounds_toArray, List.set_cons_zero, List.set_cons_succ]
                  refine wpAnyH_take (i := 8) (oi := { dst := some 52, op := Go.Op.fieldAddr 37 (Go.Operand.tmp 5) 1, type := 0, pos := "l04_graph.go:152", after := #[{ on := 0, ground := Go.Ground.phase }, { on := 1, ground := Go.Ground.phase }, { on := 2, ground := Go.Ground.phase }, { on := 3, ground := Go.Ground.phase }, { on := 4, ground := Go.Ground.phase }, { on := 5, ground := Go.Ground.phase }, { on := 6, ground := Go.Ground.phase }, { on := 7, ground := Go.Ground.phase }], guard := none }) (v := ?_) rfl (by kernel_rfl) (by kernel_rfl) (by kernel_rfl) (fun _ _ _ h => h) (Or.inl ⟨by kernel_rfl, ?_⟩) (by assumption) ?_
                  rotate_left
                  · intro w hSw; (try dsimp only at hSw); go_simp; try with_reducible rfl
                  simp only [Act.put, List.setIfInBounds_toArray, List.set_cons_zero, List.set_cons_succ]
                  refine wpAnyH_ready (rs := [9]) (by kernel_rfl) (by simp) ?_
                  refine AllReadyH.cons (o := { dst := none, op := Go.Op.store 35 (Go.Operand.tmp 52) (Go.Operand.tmp 51), type := 0, pos := "l04_graph.go:152", after := #[{ on := 8, ground := Go.Ground.data }, { on := 7, ground := Go.Ground.data }, { on := 7, ground := Go.Ground.chain }, { on := 0, ground := Go.Ground.phase }, { on := 1, ground := Go.Ground.phase }, { on := 2, ground := Go.Ground.phase }, { on := 3, ground := Go.Ground.phase }, { on := 4, ground := Go.Ground.phase }, { on := 5, ground := Go.Ground.phase }, { on := 6, ground := Go.Ground.phase }, { on := 7, ground := Go.Ground.phase }], guard := none }) rfl (fun K hK => ?_) ?_
                  · obtain ⟨u0, u1⟩ := blk_pair_cells HP4.out.2.2.2.2
                    have uf1 := HP4.out.2.2.2.2.frozen 1
                    go_simp
                    refine hK.out _ _ trivial (fun hHeld => ?_)
                    clear hK K
                    try simp only [Act.put, List.setIfInBounds_toArray, List.set_cons_zero, List.set_cons_succ]
                    refine wpAnyH_done (by kernel_rfl) ?_ _
                    clear hHeld u0 u1 uf1
                    go_upto_region 12 with fail
                    obtain ⟨WF, HWF⟩ : ∃ WF, Hid (WF = w4.setCell ⟨P, 1, none⟩ (.slice (some ⟨g4, 0, none⟩) (nL + 1) cap4)) := ⟨_, rfl⟩
                    rw [← HWF.out]
                    have HA : Hid (AnyS w WF p n cap ao B M P s (some ⟨g4, 0, none⟩) (nL + 1) cap4 (L ++ [(e0, e1, e2)])) := by rw [HWF.out]; exact any_put1 HAW.out HP4.out (by rw [List.length_append, HLN.out]; rfl)
                    clear HWF
                    obtain ⟨d0, d1⟩ := blk_pair_cells HA.out.box
                    obtain ⟨r0, r1⟩ := blk_pair_cells HA.out.res
                    have rf0 := HA.out.res.frozen 0
                    have rf1 := HA.out.res.frozen 1
                    go_wp2
                    refine bodyPost_ret (v := .agg #[.int .i64 s, .slice (some ⟨g4, 0, none⟩) (nL + 1) cap4]) (by simp [results, Try.results81, go_sem, r0, r1]) rfl ?_
                    exact ⟨_, _, _, _, L ++ [(e0, e1, e2)], rfl, by first | exact HLN | (show _ = _; rw [List.length_append, HLN.out]; rfl), HA.out.fin.1, by show _ ≤ _; have := HGD.out.1.2.1; have := HLN.out; omega, HA.out.fin.2.1, HA.out.fin.2.2⟩
                  exact AllReadyH.nil
                exact AllReadyH.nil
              exact AllReadyH.nil
            exact AllReadyH.nil
          refine AllReadyH.cons (o := { dst := some 49, op := Go.Op.load 42 (Go.Operand.tmp 48), type := 42, pos := "l04_graph.go:152", after := #[{ on := 4, ground := Go.Ground.data }], guard := none }) rfl (fun K hK => ?_) ?_
          · go_simp
            refine hK.out _ _ trivial (fun hHeld => ?_)
            clear hK K
            try simp only [Act.put, List.setIfInBounds_toArray, List.set_cons_zero, List.set_cons_succ]
            refine wpAnyH_ready (rs := [1, 6]) (by kernel_rfl) (by simp) ?_
            refine AllReadyH.cons (o := { dst := some 45, op := Go.Op.load 35 (Go.Operand.tmp 44), type := 35, pos := "l04_graph.go:152", after := #[{ on := 0, ground := Go.Ground.data }], guard := none }) rfl (fun K hK => ?_) ?_
            · go_simp
              refine hK.out _ _ trivial (fun hHeld => ?_)
              clear hK K
              try simp only [Act.put, List.setIfInBounds_toArray, List.set_cons_zero, List.set_cons_succ]
              refine wpAnyH_ready (rs := [6]) (by kernel_rfl) (by simp) ?_
              refine AllReadyH.cons (o := { dst := some 50, op := Go.Op.buildSlice 35 1 #[(0, Go.Operand.tmp 49)], type := 35, pos := "l04_graph.go:152", after := #[{ on := 5, ground := Go.Ground.data }], guard := none }) rfl (fun K hK => ?_) ?_
              · go_simp
                refine hK.out _ _ trivial (fun hHeld => ?_)
                clear hK K
                try simp only [Act.put, List.setIfInBounds_toArray, List.set_cons_zero, List.set_cons_succ]
                refine wpAnyH_ready (rs := [7]) (by kernel_rfl) (by simp) ?_
                refine AllReadyH.cons (o := { dst := some 51, op := Go.Op.call { callee := Go.Callee.builtin Go.Builtin.append, args := #[Go.Operand.tmp 45, Go.Operand.tmp 50], argTypes := #[35, 35] }, type := 35, pos := "l04_graph.go:152", after := #[{ on := 1, ground := Go.Ground.data }, { on := 6, ground := Go.Ground.data }], guard := none }) rfl (fun K hK => ?_) ?_
                · refine step_append_lies _ rfl (.tmp 45) (.tmp 50) 35 rfl M 42 i0 _ 3 24 Try.underlying35 hi0 hz0 hz1 hz2 rfl (by decide) (.slice (some ⟨b, o, none⟩) nL c5) nL (ecells L) rfl (own_drew (HOW.out.alloc _)) ⟨W.heap.size, 0, none⟩ 1 1 [.int .i64 e0, .int .u8 e1, .int .i64 e2] rfl rfl (news_three W _ _ _ 42) (by simp [Value.oneCell']) (by decide) (by unfold maxLen; have := HNL.out; omega) (by have := HNL.out; omega) (by have := HLT.out; simp; omega) _ rfl ?_
                  intro g4 cap4 w4 hown4 hgrow4 hloc4 _
                  have HP4 : Hid (M ≤ g4 ∧ g4 ≠ P ∧ w4.ownsRow M 42 3 (.slice (some ⟨g4, 0, none⟩) (nL + 1) cap4) (nL + 1) (ecells (L ++ [(e0, e1, e2)])) ∧ Below M W w4 ∧ Blk w4 P 2 (fun i => if i = 0 then .int .i64 s else (.slice (some ⟨b, o, none⟩) nL c5))) := any_app HAW.out HVP.out HLT.out (o := .cells #[.int .i64 e0, .int .u8 e1, .int .i64 e2] 42) (ecells_snoc L (e0, e1, e2)) (own_undrew hown4) (grown_undrew hgrow4) (by simpa using hloc4)
                  clear hown4 hgrow4 hloc4 t1 t1a t1b t1c p0 p1 p2
                  refine hK.out _ _ trivial (fun hHeld => ?_)
                  clear hK K
                  try simp only [Act.put, List.setIfInBounds_toArray, List.set_cons_zero, List.set_cons_succ]
                  refine wpAnyH_take (i := 8) (oi := { dst := some 52, op := Go.Op.fieldAddr 37 (Go.Operand.tmp 5) 1, type := 0, pos := "l04_graph.go:152", after := #[{ on := 0, ground := Go.Ground.phase }, { on := 1, ground := Go.Ground.phase }, { on := 2, ground := Go.Ground.phase }, { on := 3, ground := Go.Ground.phase }, { on := 4, ground := Go.Ground.phase }, { on := 5, ground := Go.Ground.phase }, { on := 6, ground := Go.Ground.phase }, { on := 7, ground := Go.Ground.phase }], guard := none }) (v := ?_) rfl (by kernel_rfl) (by kernel_rfl) (by kernel_rfl) (fun _ _ _ h => h) (Or.inl ⟨by kernel_rfl, ?_⟩) (by assumption) ?_
                  rotate_left
                  · intro w hSw; (try dsimp only at hSw); go_simp; try with_reducible rfl
                  simp only [Act.put, List.setIfInBounds_toArray, List.set_cons_zero, List.set_cons_succ]
                  refine wpAnyH_ready (rs := [9]) (by kernel_rfl) (by simp) ?_
                  refine AllReadyH.cons (o := { dst := none, op := Go.Op.store 35 (Go.Operand.tmp 52) (Go.Operand.tmp 51), type := 0, pos := "l04_graph.go:152", after := #[{ on := 8, ground := Go.Ground.data }, { on := 7, ground := Go.Ground.data }, { on := 7, ground := Go.Ground.chain }, { on := 0, ground := Go.Ground.phase }, { on := 1, ground := Go.Ground.phase }, { on := 2, ground := Go.Ground.phase }, { on := 3, ground := Go.Ground.phase }, { on := 4, ground := Go.Ground.phase }, { on := 5, ground := Go.Ground.phase }, { on := 6, ground := Go.Ground.phase }, { on := 7, ground := Go.Ground.phase }], guard := none }) rfl (fun K hK => ?_) ?_
                  · obtain ⟨u0, u1⟩ := blk_pair_cells HP4.out.2.2.2.2
                    have uf1 := HP4.out.2.2.2.2.frozen 1
                    go_simp
                    refine hK.out _ _ trivial (fun hHeld => ?_)
                    clear hK K
                    try simp only [Act.put, List.setIfInBounds_toArray, List.set_cons_zero, List.set_cons_succ]
                    refine wpAnyH_done (by kernel_rfl) ?_ _
                    clear hHeld u0 u1 uf1
                    go_upto_region 12 with fail
                    obtain ⟨WF, HWF⟩ : ∃ WF, Hid (WF = w4.setCell ⟨P, 1, none⟩ (.slice (some ⟨g4, 0, none⟩) (nL + 1) cap4)) := ⟨_, rfl⟩
                    rw [← HWF.out]
                    have HA : Hid (AnyS w WF p n cap ao B M P s (some ⟨g4, 0, none⟩) (nL + 1) cap4 (L ++ [(e0, e1, e2)])) := by rw [HWF.out]; exact any_put1 HAW.out HP4.out (by rw [List.length_append, HLN.out]; rfl)
                    clear HWF
                    obtain ⟨d0, d1⟩ := blk_pair_cells HA.out.box
                    obtain ⟨r0, r1⟩ := blk_pair_cells HA.out.res
                    have rf0 := HA.out.res.frozen 0
                    have rf1 := HA.out.res.frozen 1
                    go_wp2
                    refine bodyPost_ret (v := .agg #[.int .i64 s, .slice (some ⟨g4, 0, none⟩) (nL + 1) cap4]) (by simp [results, Try.results81, go_sem, r0, r1]) rfl ?_
                    exact ⟨_, _, _, _, L ++ [(e0, e1, e2)], rfl, by first | exact HLN | (show _ = _; rw [List.length_append, HLN.out]; rfl), HA.out.fin.1, by show _ ≤ _; have := HGD.out.1.2.1; have := HLN.out; omega, HA.out.fin.2.1, HA.out.fin.2.2⟩
                  exact AllReadyH.nil
                exact AllReadyH.nil
              exact AllReadyH.nil
            refine AllReadyH.cons (o := { dst := some 50, op := Go.Op.buildSlice 35 1 #[(0, Go.Operand.tmp 49)], type := 35, pos := "l04_graph.go:152", after := #[{ on := 5, ground := Go.Ground.data }], guard := none }) rfl (fun K hK => ?_) ?_
            · go_simp
              refine hK.out _ _ trivial (fun hHeld => ?_)
              clear hK K
              try simp only [Act.put, List.setIfInBounds_toArray, List.set_cons_zero, List.set_cons_succ]
              refine wpAnyH_ready (rs := [1]) (by kernel_rfl) (by simp) ?_
              refine AllReadyH.cons (o := { dst := some 45, op := Go.Op.load 35 (Go.Operand.tmp 44), type := 35, pos := "l04_graph.go:152", after := #[{ on := 0, ground := Go.Ground.data }], guard := none }) rfl (fun K hK => ?_) ?_
              · go_simp
                refine hK.out _ _ trivial (fun hHeld => ?_)
                clear hK K
                try simp only [Act.put, List.setIfInBounds_toArray, List.set_cons_zero, List.set_cons_succ]
                refine wpAnyH_ready (rs := [7]) (by kernel_rfl) (by simp) ?_
                refine AllReadyH.cons (o := { dst := some 51, op := Go.Op.call { callee := Go.Callee.builtin Go.Builtin.append, args := #[Go.Operand.tmp 45, Go.Operand.tmp 50], argTypes := #[35, 35] }, type := 35, pos := "l04_graph.go:152", after := #[{ on := 1, ground := Go.Ground.data }, { on := 6, ground := Go.Ground.data }], guard := none }) rfl (fun K hK => ?_) ?_
                · refine step_append_lies _ rfl (.tmp 45) (.tmp 50) 35 rfl M 42 i0 _ 3 24 Try.underlying35 hi0 hz0 hz1 hz2 rfl (by decide) (.slice (some ⟨b, o, none⟩) nL c5) nL (ecells L) rfl (own_drew (HOW.out.alloc _)) ⟨W.heap.size, 0, none⟩ 1 1 [.int .i64 e0, .int .u8 e1, .int .i64 e2] rfl rfl (news_three W _ _ _ 42) (by simp [Value.oneCell']) (by decide) (by unfold maxLen; have := HNL.out; omega) (by have := HNL.out; omega) (by have := HLT.out; simp; omega) _ rfl ?_
                  intro g4 cap4 w4 hown4 hgrow4 hloc4 _
                  have HP4 : Hid (M ≤ g4 ∧ g4 ≠ P ∧ w4.ownsRow M 42 3 (.slice (some ⟨g4, 0, none⟩) (nL + 1) cap4) (nL + 1) (ecells (L ++ [(e0, e1, e2)])) ∧ Below M W w4 ∧ Blk w4 P 2 (fun i => if i = 0 then .int .i64 s else (.slice (some ⟨b, o, none⟩) nL c5))) := any_app HAW.out HVP.out HLT.out (o := .cells #[.int .i64 e0, .int .u8 e1, .int .i64 e2] 42) (ecells_snoc L (e0, e1, e2)) (own_undrew hown4) (grown_undrew hgrow4) (by simpa using hloc4)
                  clear hown4 hgrow4 hloc4 t1 t1a t1b t1c p0 p1 p2
                  refine hK.out _ _ trivial (fun hHeld => ?_)
                  clear hK K
                  try simp only [Act.put, List.setIfInBounds_toArray, List.set_cons_zero, List.set_cons_succ]
                  refine wpAnyH_take (i := 8) (oi := { dst := some 52, op := Go.Op.fieldAddr 37 (Go.Operand.tmp 5) 1, type := 0, pos := "l04_graph.go:152", after := #[{ on := 0, ground := Go.Ground.phase }, { on := 1, ground := Go.Ground.phase }, { on := 2, ground := Go.Ground.phase }, { on := 3, ground := Go.Ground.phase }, { on := 4, ground := Go.Ground.phase }, { on := 5, ground := Go.Ground.phase }, { on := 6, ground := Go.Ground.phase }, { on := 7, ground := Go.Ground.phase }], guard := none }) (v := ?_) rfl (by kernel_rfl) (by kernel_rfl) (by kernel_rfl) (fun _ _ _ h => h) (Or.inl ⟨by kernel_rfl, ?_⟩) (by assumption) ?_
                  rotate_left
                  · intro w hSw; (try dsimp only at hSw); go_simp; try with_reducible rfl
                  simp only [Act.put, List.setIfInBounds_toArray, List.set_cons_zero, List.set_cons_succ]
                  refine wpAnyH_ready (rs := [9]) (by kernel_rfl) (by simp) ?_
                  refine AllReadyH.cons (o := { dst := none, op := Go.Op.store 35 (Go.Operand.tmp 52) (Go.Operand.tmp 51), type := 0, pos := "l04_graph.go:152", after := #[{ on := 8, ground := Go.Ground.data }, { on := 7, ground := Go.Ground.data }, { on := 7, ground := Go.Ground.chain }, { on := 0, ground := Go.Ground.phase }, { on := 1, ground := Go.Ground.phase }, { on := 2, ground := Go.Ground.phase }, { on := 3, ground := Go.Ground.phase }, { on := 4, ground := Go.Ground.phase }, { on := 5, ground := Go.Ground.phase }, { on := 6, ground := Go.Ground.phase }, { on := 7, ground := Go.Ground.phase }], guard := none }) rfl (fun K hK => ?_) ?_
                  · obtain ⟨u0, u1⟩ := blk_pair_cells HP4.out.2.2.2.2
                    have uf1 := HP4.out.2.2.2.2.frozen 1
                    go_simp
                    refine hK.out _ _ trivial (fun hHeld => ?_)
                    clear hK K
                    try simp only [Act.put, List.setIfInBounds_toArray, List.set_cons_zero, List.set_cons_succ]
                    refine wpAnyH_done (by kernel_rfl) ?_ _
                    clear hHeld u0 u1 uf1
                    go_upto_region 12 with fail
                    obtain ⟨WF, HWF⟩ : ∃ WF, Hid (WF = w4.setCell ⟨P, 1, none⟩ (.slice (some ⟨g4, 0, none⟩) (nL + 1) cap4)) := ⟨_, rfl⟩
                    rw [← HWF.out]
                    have HA : Hid (AnyS w WF p n cap ao B M P s (some ⟨g4, 0, none⟩) (nL + 1) cap4 (L ++ [(e0, e1, e2)])) := by rw [HWF.out]; exact any_put1 HAW.out HP4.out (by rw [List.length_append, HLN.out]; rfl)
                    clear HWF
                    obtain ⟨d0, d1⟩ := blk_pair_cells HA.out.box
                    obtain ⟨r0, r1⟩ := blk_pair_cells HA.out.res
                    have rf0 := HA.out.res.frozen 0
                    have rf1 := HA.out.res.frozen 1
                    go_wp2
                    refine bodyPost_ret (v := .agg #[.int .i64 s, .slice (some ⟨g4, 0, none⟩) (nL + 1) cap4]) (by simp [results, Try.results81, go_sem, r0, r1]) rfl ?_
                    exact ⟨_, _, _, _, L ++ [(e0, e1, e2)], rfl, by first | exact HLN | (show _ = _; rw [List.length_append, HLN.out]; rfl), HA.out.fin.1, by show _ ≤ _; have := HGD.out.1.2.1; have := HLN.out; omega, HA.out.fin.2.1, HA.out.fin.2.2⟩
                  exact AllReadyH.nil
                exact AllReadyH.nil
              exact AllReadyH.nil
            exact AllReadyH.nil
          exact AllReadyH.nil
        exact AllReadyH.nil

      · obtain ⟨t0, t1⟩ := blk_pair_cells HAW.out.box
        go_upto_region 12 with fail
        obtain ⟨WF, HWF⟩ : ∃ WF, Hid (WF = W) := ⟨_, rfl⟩
        rw [← HWF.out]
        have HA : Hid (AnyS w WF p n cap ao B M P s a5 (nL) c5 (L)) := by rw [HWF.out]; exact HAW.out
        clear HWF
        obtain ⟨d0, d1⟩ := blk_pair_cells HA.out.box
        obtain ⟨r0, r1⟩ := blk_pair_cells HA.out.res
        have rf0 := HA.out.res.frozen 0
        have rf1 := HA.out.res.frozen 1
        go_wp2
        refine bodyPost_ret (v := .agg #[.int .i64 s, .slice a5 (nL) c5]) (by simp [results, Try.results81, go_sem, r0, r1]) rfl ?_
        exact ⟨_, _, _, _, L, rfl, by first | exact HLN | (show _ = _; rw [List.length_append, HLN.out]; rfl), HA.out.fin.1, by show _ ≤ _; have := HGD.out.1.2.1; have := HLN.out; omega, HA.out.fin.2.1, HA.out.fin.2.2⟩
end Go.Proofs.Ytelikebpddhncaa

/-
  Draws over any drawn graph: DrawTurned, DrawGraphText.
-/
namespace Go.Proofs.Ytelikebpddhncaa
open Go.RowKit

set_option maxHeartbeats 1000000 in
set_option maxRecDepth 100000 in
theorem drawTurned_any (w : World) (n cap : Nat) (ao : Option Addr) (hn : n ≤ 1048576) (hc : CodeIn w ao n) :
    Calls Try.prog 33 #[.slice ao n cap] w fun e w' => ∃ (s : Int) (a : Option Addr) (nL cL : Nat) (L : List Ed), e = .returned (gv s a nL cL) ∧ Hid (L.length = nL) ∧ Hid (EdgesIn w.heap.size w'.heap.size w' a L) ∧ Hid (nL ≤ 11) ∧ Hid (Below w.heap.size w w') := by
  obtain ⟨B, HB⟩ : ∃ B, Hid (w.heap.size = B) := ⟨_, rfl⟩
  have HC : Hid (CodeIn w ao n) := hc
  clear hc
  go_enter Try.func33, Try.ntmps33
  go_wp2_with fail
  rw [HB.out]
  generalize hW : World.alloc _ _ = W
  have HC1 : Hid (CodeIn W ao n) := by show CodeIn _ _ _; rw [← hW]; exact HC.out.below (below1 w _)
  have HB1 : Hid (Below B w W) := by show Below _ _ _; rw [← hW, ← HB.out]; exact below1 w _
  have HR1 : Hid (Blk W B 2 (fun i => if i = 0 then .int .i64 0 else .slice none 0 0)) := by show Blk _ _ _ _; rw [← hW]; exact blk_two w B HB.out.symm _ _ _
  clear hW
  refine (new_any W ao n cap hn HC1.out).mono ?_
  rintro e w1 ⟨rfl, hc1, hb1⟩
  obtain ⟨p, HP⟩ : ∃ p, Hid (p = W.heap.size) := ⟨_, rfl⟩
  have HCU : Hid (CurL p ao n cap w1) := by rw [HP.out]; exact ⟨hc1, cur_start HC1.out⟩
  have HPB : Hid (B < p) := by show B < p; rw [HP.out]; exact HR1.out.lt
  have HR2 : Hid (Blk w1 B 2 (fun i => if i = 0 then .int .i64 0 else .slice none 0 0)) := HR1.out.of_block (hb1.block _ HR1.out.lt)
  have HB2 : Hid (Below B w w1) := HB1.out.trans (hb1.mono (by have := HPB.out; have := HP.out; omega))
  rw [← HP.out]
  clear hc1 hb1 HR1 HB1 HC1
  go_wp2_with fail
  refine (l04Any_any w1 p n cap ao HCU.out).mono ?_
  rintro e w2 ⟨s, a, nL, cL, L, rfl, HLN, HE, HGD, HC2, HK2⟩
  have HR3 : Hid (Blk w2 B 2 (fun i => if i = 0 then .int .i64 0 else .slice none 0 0)) := HR2.out.keptBut HK2.out (by have := HPB.out; omega)
  have HB3 : Hid (Below B w w2) := HB2.out.trans (HK2.out.to_below (Nat.le_of_lt HPB.out) (by have := HR2.out.lt; omega))
  have HSZ : Hid (B < w1.heap.size) := HR2.out.lt
  clear HR2 HB2 HCU HC2
  obtain ⟨r0, r1⟩ := blk_pair_cells HR3.out
  have rf0 := HR3.out.frozen 0
  have rf1 := HR3.out.frozen 1
  go_wp2
  refine bodyPost_ret (v := .agg #[.int .i64 s, .slice a nL cL]) (by simp [results, Try.results33, go_sem, r0, r1]) rfl ?_
  have hl := HB.out
  have hz := HSZ.out
  refine ⟨s, a, nL, cL, L, rfl, HLN, ?_, HGD, ?_⟩
  · refine (HE.out.kept (p := fun k => k = B) ?_ (Nat.le_refl _) (fun k h1 _ e => by omega)).wide (by omega) (by simp)
    exact ((KeptP.refl (fun k => k = B) w2).setCell (g := B) rfl _).setCell (g := B) rfl _
  · rw [hl]; exact (HB3.out.setCell (Nat.le_refl _) _).setCell (Nat.le_refl _) _

set_option maxHeartbeats 1000000 in
set_option maxRecDepth 100000 in
theorem drawGText_any (w : World) (n cap : Nat) (ao : Option Addr) (hn : n ≤ 1048576) (hc : CodeIn w ao n) :
    Calls Try.prog 35 #[.slice ao n cap] w fun e w' => ∃ (s : Int) (a : Option Addr) (nL cL : Nat) (L : List Ed), e = .returned (gv s a nL cL) ∧ Hid (L.length = nL) ∧ Hid (EdgesIn w.heap.size w'.heap.size w' a L) ∧ Hid (nL ≤ 11) ∧ Hid (Below w.heap.size w w') := by
  obtain ⟨B, HB⟩ : ∃ B, Hid (w.heap.size = B) := ⟨_, rfl⟩
  have HC : Hid (CodeIn w ao n) := hc
  clear hc
  go_enter Try.func35, Try.ntmps35
  go_wp2_with fail
  rw [HB.out]
  generalize hW : World.alloc _ _ = W
  have HC1 : Hid (CodeIn W ao n) := by show CodeIn _ _ _; rw [← hW]; exact HC.out.below (below1 w _)
  have HB1 : Hid (Below B w W) := by show Below _ _ _; rw [← hW, ← HB.out]; exact below1 w _
  have HR1 : Hid (Blk W B 2 (fun i => if i = 0 then .int .i64 0 else .slice none 0 0)) := by show Blk _ _ _ _; rw [← hW]; exact blk_two w B HB.out.symm _ _ _
  clear hW
  refine (new_any W ao n cap hn HC1.out).mono ?_
  rintro e w1 ⟨rfl, hc1, hb1⟩
  obtain ⟨p, HP⟩ : ∃ p, Hid (p = W.heap.size) := ⟨_, rfl⟩
  have HCU : Hid (CurL p ao n cap w1) := by rw [HP.out]; exact ⟨hc1, cur_start HC1.out⟩
  have HPB : Hid (B < p) := by show B < p; rw [HP.out]; exact HR1.out.lt
  have HR2 : Hid (Blk w1 B 2 (fun i => if i = 0 then .int .i64 0 else .slice none 0 0)) := HR1.out.of_block (hb1.block _ HR1.out.lt)
  have HB2 : Hid (Below B w w1) := HB1.out.trans (hb1.mono (by have := HPB.out; have := HP.out; omega))
  rw [← HP.out]
  clear hc1 hb1 HR1 HB1 HC1
  go_wp2_with fail
  refine (l04Any_any w1 p n cap ao HCU.out).mono ?_
  rintro e w2 ⟨s, a, nL, cL, L, rfl, HLN, HE, HGD, HC2, HK2⟩
  have HR3 : Hid (Blk w2 B 2 (fun i => if i = 0 then .int .i64 0 else .slice none 0 0)) := HR2.out.keptBut HK2.out (by have := HPB.out; omega)
  have HB3 : Hid (Below B w w2) := HB2.out.trans (HK2.out.to_below (Nat.le_of_lt HPB.out) (by have := HR2.out.lt; omega))
  have HSZ : Hid (B < w1.heap.size) := HR2.out.lt
  clear HR2 HB2 HCU HC2
  obtain ⟨r0, r1⟩ := blk_pair_cells HR3.out
  have rf0 := HR3.out.frozen 0
  have rf1 := HR3.out.frozen 1
  go_wp2
  refine bodyPost_ret (v := .agg #[.int .i64 s, .slice a nL cL]) (by simp [results, Try.results35, go_sem, r0, r1]) rfl ?_
  have hl := HB.out
  have hz := HSZ.out
  refine ⟨s, a, nL, cL, L, rfl, HLN, ?_, HGD, ?_⟩
  · refine (HE.out.kept (p := fun k => k = B) ?_ (Nat.le_refl _) (fun k h1 _ e => by omega)).wide (by omega) (by simp)
    exact ((KeptP.refl (fun k => k = B) w2).setCell (g := B) rfl _).setCell (g := B) rfl _
  · rw [hl]; exact (HB3.out.setCell (Nat.le_refl _) _).setCell (Nat.le_refl _) _
end Go.Proofs.Ytelikebpddhncaa

/-
  What is drawn for numbers and texts: l01Number, l01Text, l01Long, DrawVarText, DrawHex.
-/
namespace Go.Proofs.Ytelikebpddhncaa
open Go.RowKit

theorem KeptBut.alloc {g : Nat} {w w1 : World} (h : KeptBut g w w1) (o : Obj) : KeptBut g w (w1.alloc o) :=
  h.below ((Below.refl _ w1).alloc (Nat.le_refl _) o)
theorem Cur.keep {p n cap : Nat} {ao : Option Addr} {w w' : World} (h : Cur p ao n cap w) (hb : Below w.heap.size w w') : Cur p ao n cap w' := by
  obtain ⟨i, x, hc⟩ := h
  refine ⟨i, x, (hb.block p hc.lt).trans hc.blk, hc.le, hc.small, ?_⟩
  rcases hc.code with h | ⟨b, off, e, hne, hs, hz⟩
  · exact .inl h
  · refine .inr ⟨b, off, e, hne, Nat.lt_of_lt_of_le hs hb.size, fun k hk => ?_⟩
    obtain ⟨z, h0, h1, hcc⟩ := hz k hk
    exact ⟨z, h0, h1, (hb.cell hs).trans hcc⟩
theorem Cur.lt {p n cap : Nat} {ao : Option Addr} {w : World} (h : Cur p ao n cap w) : p < w.heap.size := by
  obtain ⟨i, x, hc⟩ := h
  exact hc.lt

theorem ten_cells (w : World) : ∀ k, k < 10 → ∃ z : Int, -9223372036854775808 ≤ z ∧ z ≤ 9223372036854775807 ∧
    (w.alloc (.cells #[.int .i64 (-1), .int .i64 0, .int .i64 127, .int .i64 128, .int .i64 16383, .int .i64 16384, .int .i64 1000000000, .int .i64 1000000001, .int .i64 9223372036854775807, .int .i64 (-9223372036854775808)] 3)).cell? ⟨w.heap.size, k, none⟩ = some (.int .i64 z) := by
  intro k hk
  rw [cell_of_row _ w.heap.size k _ 3 (0, 0) (heap_alloc_new w _)]
  match k, hk with
  | 0, _ => exact ⟨-1, by omega, by omega, rfl⟩
  | 1, _ => exact ⟨0, by omega, by omega, rfl⟩
  | 2, _ => exact ⟨127, by omega, by omega, rfl⟩
  | 3, _ => exact ⟨128, by omega, by omega, rfl⟩
  | 4, _ => exact ⟨16383, by omega, by omega, rfl⟩
  | 5, _ => exact ⟨16384, by omega, by omega, rfl⟩
  | 6, _ => exact ⟨1000000000, by omega, by omega, rfl⟩
  | 7, _ => exact ⟨1000000001, by omega, by omega, rfl⟩
  | 8, _ => exact ⟨9223372036854775807, by omega, by omega, rfl⟩
  | 9, _ => exact ⟨-9223372036854775808, by omega, by omega, rfl⟩
  | n + 10, h => omega

end Go.Proofs.Ytelikebpddhncaa

/-
  Texts that are drawn: l01Text, l01Long, DrawHex.
-/
namespace Go.Proofs.Ytelikebpddhncaa
open Go.RowKit

theorem KeptBut.grown {g : Nat} {w w1 w2 : World} {row : Option Nat} (h : KeptBut g w w1) (hg : w1.grownBy w2 row) (hr : ∀ k, row = some k → w.heap.size ≤ k) : KeptBut g w w2 :=
  ⟨hg.os.trans h.os, hg.tape.trans h.tape, hg.output.trans h.output, Nat.le_trans h.size hg.size, fun k hk hne => (hg.block k (Nat.lt_of_lt_of_le hk h.size) (by intro e; have := hr k e.symm; omega)).trans (h.block k hk hne)⟩
theorem Cur.code {p n cap : Nat} {ao : Option Addr} {w : World} (h : Cur p ao n cap w) : CodeAt w p ao n := by
  obtain ⟨i, x, hc⟩ := h
  exact hc.code
theorem Cur.grown {p n cap : Nat} {ao : Option Addr} {w w1 w2 : World} {row : Option Nat} (h : Cur p ao n cap w1) (hc : CodeAt w p ao n) (hk : KeptBut p w w2) (hg : w1.grownBy w2 row) (hp : row ≠ some p) : Cur p ao n cap w2 := by
  obtain ⟨i, x, h1⟩ := h
  exact ⟨i, x, (hg.block p h1.lt (fun e => hp e.symm)).trans h1.blk, h1.le, h1.small, hc.keep hk⟩

/-- a slice of bytes of the call's own made to a string -/
theorem run_string_any {w : World} {base n : Nat} {v : Value} {l : List UInt8} (h : w.ownsRow base 5 1 v n (l.map bv)) :
    (convert 22 9 v).run Try.prog w = .ok (.string ⟨l.toArray⟩) w := by
  rcases h.2 with ⟨rfl, hn⟩ | ⟨g, cap, cur, rfl, _⟩
  · have hl : l = [] := by have := h.1; rw [hn] at this; simpa using this
    subst hl
    have := run_convert_bytes_nil (P := Try.prog) w 22 5 Try.underlying22 Try.underlying5 0 0 9 Try.underlying9
    rw [this]; rfl
  · have hn : n = l.length := by have := h.1; simp at this; omega
    subst hn
    refine run_convert_bytes_back w 22 9 5 ⟨g, 0, none⟩ cap l Try.underlying22 Try.underlying5 Try.underlying9 fun j hj => ?_
    have := h.cellAt j (by omega)
    have e : (⟨g, 0, none⟩ : Addr).add j = ⟨g, j, none⟩ := by unfold Addr.add; split <;> simp_all
    rw [e, this]
    simp [bv, hj]
theorem own_snocD {w1 : World} {B k : Nat} {v x : Value} {pre : List UInt8} {b : UInt8} (h : w1.ownsRow B 5 1 v k (pre.map bv ++ [x])) (hx : bv b = x) : w1.ownsRow B 5 1 v k ((pre ++ [b]).map bv) := by
  subst hx; simpa using h

/-- at the head of each round of l01Text -/
structure TAt (w : World) (p : Nat) (ao : Option Addr) (n cap m j : Nat) (v : Value) (l : List UInt8) (wr : World) : Prop where
  le : j ≤ m
  own : wr.ownsRow w.heap.size 5 1 v j (l.map bv)
  cur : Cur p ao n cap wr
  kept : KeptBut p w wr

set_option maxHeartbeats 1000000 in
set_option maxRecDepth 100000 in
theorem text_cur (w : World) (p n cap : Nat) (ao : Option Addr) (m : Nat) (hm : m ≤ 5000) (hc : Cur p ao n cap w) :
    Calls Try.prog 99 #[.pointer (some ⟨p, 0, none⟩), .int .i64 (m : Int)] w fun e w' => ∃ t : ByteArray, e = .returned (.string t) ∧ t.size = m ∧ Cur p ao n cap w' ∧ KeptBut p w w' := by
  obtain ⟨i0, hi, hz0, hz1, hz2⟩ := info_parts Try.info5
  have HC : Hid (Cur p ao n cap w) := hc
  have hpw := hc.lt
  have hm5 : ¬ (5000 : Int) < (m : Int) := by omega
  clear hc
  go_enter Try.func99, Try.ntmps99
  go_wp2
  go_loopw [5, 6] (fun v i wr => ∃ (j : Nat) (l : List UInt8), i = .int .i64 j ∧ TAt w p ao n cap m j v l wr) (fun _ i _ => m - (intOf i).toNat)
  case atStart => exact ⟨0, [], rfl, by omega, World.ownsRow_made w #[] 0 (Nat.le_refl _) (Nat.zero_le _) rfl, HC.out.keep ((Below.refl _ w).alloc (Nat.le_refl _) _), (KeptBut.refl p w).alloc _⟩
  case round =>
    obtain ⟨j, l, rfl, hT⟩ := hrel
    have HT : Hid (TAt w p ao n cap m j u5 l wr) := hT
    have hle := hT.le
    clear hT
    by_cases hlt : j < m
    · have hlt1 : (j : Int) < (m : Int) := by omega
      go_wp2_with fail
      refine (byte_cur _ p n cap ao HT.out.cur).mono ?_
      rintro e w1 ⟨x, rfl, hx0, hx1, hc1, hk1⟩
      obtain ⟨y, rfl⟩ := Int.eq_ofNat_of_zero_le hx0
      have hne : u5.ownBlock ≠ some p := fun e => by have := (HT.out.own.lt p e).1; omega
      have hown := hk1.own HT.out.own hne
      have hsz : w.heap.size ≤ w1.heap.size := Nat.le_trans HT.out.kept.size hk1.size
      have HNE : Hid (u5.ownBlock ≠ some p) := hne
      have HC1 : Hid (Cur p ao n cap w1) := hc1
      have HK1 : Hid (KeptBut p w w1) := HT.out.kept.trans hk1
      have HY : Hid (bv (UInt8.ofNat y) = .int .u8 (y : Int)) := by
        show bv (UInt8.ofNat y) = .int .u8 (y : Int)
        simp [bv]; omega
      clear hc1 hk1 hne
      go_wp2_with (at_builtin; refine wpList_append_lies _ rfl (.tmp 15) (.tmp 19) 22 rfl w.heap.size 5 i0 (.int .u8 0) 1 1 Try.underlying22 hi hz0 hz1 hz2 rfl (by decide) _ j (l.map bv) rfl (hown.alloc _) ⟨w1.heap.size, 0, none⟩ 1 1 [.int .u8 (y : Int)] rfl rfl (cell_one_new _ _ _) (by simp [Value.oneCell']) (by decide) (by unfold maxLen; omega) (by omega) (by simp; omega) _ rfl ?_; intro g cap2 w2 hown2 hgrow2 _ _)
      go_roundw
      case rel =>
        have hk2 : KeptBut p w w2 := (HK1.out.alloc _).grown hgrow2 fun k hk => (HT.out.own.lt k hk).1
        exact ⟨j + 1, _, by go_num, by omega, own_snocD hown2 HY.out, (HC1.out.keep ((Below.refl _ w1).alloc (Nat.le_refl _) _)).grown HC.out.code hk2 hgrow2 HNE.out, hk2⟩
      case measure => simp [intOf]; omega
    · have hjm : j = m := by omega
      have hstr := run_string_any HT.out.own
      have HL : Hid (l.length = m) := by
        have := HT.out.own.1
        simp at this
        show l.length = m
        omega
      clear hjm
      go_wp2
      go_ret
      exact ⟨_, rfl, by simp [ByteArray.size]; exact HL.out, HT.out.cur, HT.out.kept⟩
end Go.Proofs.Ytelikebpddhncaa

/-
  spec.BagText.
-/
namespace Go.Proofs.Ytelikebpddhncaa
open Go.RowKit

theorem l01Var_let (x : Int) (w : World) (h0 : 0 ≤ x) (h1 : x ≤ 1000000000) :
    Calls Try.prog 92 #[.int .i64 x] w fun e w' => ∃ t : ByteArray, e = .returned (.string t) ∧ Hid (t.data.toList = vb x) ∧ Hid (Below w.heap.size w w') := by
  obtain ⟨n, rfl⟩ := Int.eq_ofNat_of_zero_le h0
  refine (sp.l01Var_any n w (by omega)).mono ?_
  rintro e w' ⟨rfl, hb⟩
  exact ⟨_, rfl, by simp [vb, Hid], hb⟩

theorem RowIn.cellAt {lo hi i : Nat} {w : World} {a : Option Addr} {l : List Int} (h : RowIn lo hi w a l) (hi' : i < l.length) : ∃ b o, a = some ⟨b, o, none⟩ ∧ b < hi ∧ w.cell? ⟨b, o + i, none⟩ = some (.int .i64 (l.getD i 0)) := by
  rcases h with rfl | ⟨b, o, e, _, h2, h3⟩
  · simp at hi'
  · exact ⟨b, o, e, h2, h3 i hi'⟩
theorem cat_list (s t : ByteArray) : (s ++ t).data.toList = s.data.toList ++ t.data.toList := by simp

set_option maxHeartbeats 4000000 in
set_option maxRecDepth 100000 in
theorem specText_any (lo hi : Nat) (a : Option Addr) (n cap : Nat) (l : List It) (w : World) (ha : BagIn lo hi w a l) (hh : hi ≤ w.heap.size) (hn : l.length = n) (hm : n ≤ 1048576) (hq : ∀ i, i < n → (at' l i).1.length ≤ 1048576) :
    Calls Try.prog 61 #[.agg #[.slice a n cap]] w fun e w' => ∃ (t : ByteArray) (ok : Bool), e = .returned (.tuple #[.string t, .bool ok]) ∧ Hid (ok = okBag l ∧ t = txtOf l) ∧ Hid (Below w.heap.size w w') := by
  have HN : Hid (l.length = n) := hn
  have HA : Hid (BagIn lo hi w a l) := ha
  have HH : Hid (hi ≤ w.heap.size) := hh
  have HQ : Hid (∀ i, i < n → (at' l i).1.length ≤ 1048576) := hq
  obtain ⟨s, HS⟩ : ∃ s : Bool, Hid (s = okBag l) := ⟨_, rfl⟩
  clear ha hh hn hq
  go_enter Try.func61, Try.ntmps61
  go_wp2_with fail
  refine (specOk_any lo hi a n cap l s _ (HA.out.below (below1 w _) HH.out) (by have := HH.out; simp; omega) HN.out hm HQ.out HS.out).mono ?_
  rintro e w1 ⟨rfl, hb1⟩
  have hk1 := (blk_one w w.heap.size rfl (.slice a n cap) 26).of_block (hb1.block w.heap.size (by simp))
  have HK1 : Hid (Blk w1 w.heap.size 1 (fun _ => .slice a n cap)) := hk1
  have HB1 : Hid (Below w.heap.size w w1) := (below1 w _).trans (hb1.mono (by simp))
  clear hk1 hb1
  rcases Bool.eq_false_or_eq_true s with hs | hs
  · subst hs
    have HO : Hid (okBag l = true) := HS.out.symm
    have h3 : n ≤ 300 := by have := okBag_len HO.out; have := HN.out; omega
    have c1 := HK1.out.cell (i := 0) (by omega)
    go_wp2_with fail
    refine (l01Var_let (n : Int) w1 (by omega) (by omega)).mono ?_
    rintro e w2 ⟨t2, rfl, HT2, B2⟩
    have HK2 : Hid (Blk w2 w.heap.size 1 (fun _ => .slice a n cap)) := HK1.out.of_block (B2.out.block _ HK1.out.lt)
    have HB2 : Hid (Below w.heap.size w w2) := HB1.out.trans (B2.out.mono HB1.out.size)
    have HT2' : Hid (t2.data.toList = txtTo l 0) := by show _ = _; rw [HT2.out]; simp [txtTo, HN.out]
    clear B2 c1
    go_wp2
    go_loopw [5, 4] (fun i s wr => ∃ (k : Nat) (t : ByteArray), i = .int .i64 k ∧ s = .string t ∧ k ≤ n ∧ Hid (t.data.toList = txtTo l k) ∧ Hid (Below w.heap.size w wr) ∧ Hid (Blk wr w.heap.size 1 (fun _ => .slice a n cap))) (fun i _ _ => n - (intOf i).toNat)
    case atStart => exact ⟨0, t2, rfl, rfl, by omega, HT2', HB2, HK2⟩
    case round =>
      obtain ⟨k, t, rfl, rfl, hk, HTX, HL, HK⟩ := hrel
      have ck := HK.out.cell (i := 0) (by omega)
      by_cases hlt : k < n
      · have hlt1 : (k : Int) < (n : Int) := by omega
        have HKO : Hid (okItem (at' l k).1 (at' l k).2 = true) := ok_item HO.out (by rw [HN.out]; exact hlt)
        have HBW : Hid (BagIn lo hi wr a l) := HA.out.below HL.out HH.out
        obtain ⟨b, o, rfl, _, hbh, ra, rc, hc1, _, hc2⟩ := HBW.out.item (k := k) (by rw [HN.out]; exact hlt)
        obtain ⟨x, HX⟩ : ∃ t : Int, Hid (t = (at' l k).2) := ⟨_, rfl⟩
        obtain ⟨q, HQ1⟩ : ∃ q : Nat, Hid (q = (at' l k).1.length) := ⟨_, rfl⟩
        change wr.cell? _ = some (.slice ra (at' l k).1.length rc) at hc1
        change wr.cell? _ = some (.int .i64 (at' l k).2) at hc2
        rw [← HQ1.out] at hc1
        rw [← HX.out] at hc2
        have hq4 : q ≤ 4 := by rw [HQ1.out]; exact (okItem_row HKO.out).1
        have htt := okItem_times HKO.out
        rw [← HX.out] at htt
        obtain ⟨ht0, ht1⟩ := htt
        have hbw : b < wr.heap.size := lt_of_cell hc1
        have HC1 : Hid (wr.cell? ⟨b, o + k * 2, none⟩ = some (.slice ra q rc)) := hc1
        have HC2 : Hid (wr.cell? ⟨b, o + k * 2 + 1, none⟩ = some (.int .i64 x)) := hc2
        have HSZ : Hid (hi ≤ wr.heap.size) := Nat.le_trans HH.out HL.out.size
        have HROW : Hid (RowIn lo hi wr ra (at' l k).1) := by
          obtain ⟨b2, o2, e2, _, _, ra2, rc2, p1, p2, _⟩ := HBW.out.item (k := k) (by rw [HN.out]; exact hlt)
          simp only [Option.some.injEq, Addr.mk.injEq, and_true] at e2
          obtain ⟨rfl, rfl⟩ := e2
          change wr.cell? _ = some (.slice ra2 (at' l k).1.length rc2) at p1
          rw [HC1.out] at p1
          simp only [Option.some.injEq, Value.slice.injEq] at p1
          obtain ⟨rfl, _, _⟩ := p1
          exact p2
        clear hbh hc2
        go_wp2_with fail
        refine (l01Var_let (q : Int) wr (by omega) (by omega)).mono ?_
        rintro e w3 ⟨t3, rfl, HT3, B3⟩
        have hts : t.size ≤ 18010 := by have := size_of_list HTX.out; have := txt_le HO.out k (by rw [HN.out]; exact hk); omega
        have hts3 : t3.size ≤ 10 := by have := size_of_list HT3.out; have := vb_le (q : Int); omega
        clear ck hc1
        go_wp2
        go_loopw [6, 4] (fun i s wi => ∃ (j : Nat) (u : ByteArray), i = .int .i64 j ∧ s = .string u ∧ j ≤ q ∧ Hid (u.data.toList = txtTo l k ++ vb q ++ vt ((at' l k).1.take j)) ∧ Hid (Below wr.heap.size wr wi)) (fun i _ _ => q - (intOf i).toNat)
        case atStart => exact ⟨0, t ++ t3, rfl, rfl, by omega, by show _ = _; rw [cat_list, HTX.out, HT3.out]; simp [vt], B3⟩
        case round =>
          obtain ⟨j, u, rfl, rfl, hj, HU, HLI⟩ := hrel
          have ci := (HK.out.of_block (HLI.out.block _ HK.out.lt)).cell (i := 0) (by omega)
          have hc1 := cell_below HC1.out HLI.out hbw
          have hus : u.size ≤ 18100 := by
            have h1 := size_of_list HU.out
            have h2 := txt_le HO.out k (by rw [HN.out]; exact hk)
            have h3 := vb_le (q : Int)
            have h4 := vt_le ((at' l k).1.take j)
            rw [List.length_take] at h4
            rw [List.length_append, List.length_append] at h1
            omega
          by_cases hjl : j < q
          · have hjl1 : (j : Int) < (q : Int) := by omega
            obtain ⟨rb, ro, rfl, hrh, hrc⟩ := HROW.out.cellAt (i := j) (by rw [← HQ1.out]; exact hjl)
            have hcr := cell_below hrc HLI.out (by have := HSZ.out; omega)
            obtain ⟨y, HY⟩ : ∃ y : Int, Hid (y = (at' l k).1.getD j 0) := ⟨_, rfl⟩
            rw [← HY.out] at hcr
            have hyy := (okItem_row HKO.out).2 j (by rw [← HQ1.out]; exact hjl)
            rw [← HY.out] at hyy
            obtain ⟨hy0, hy1⟩ := hyy
            clear hrc hrh
            go_wp2_with fail
            refine (l01Var_let y wr hy0 (by omega)).mono ?_
            rintro e w4 ⟨t4, rfl, HT4, B4⟩
            have hts4 : t4.size ≤ 10 := by have := size_of_list HT4.out; have := vb_le y; omega
            go_wp2
            go_roundw
            case rel =>
              refine ⟨j + 1, u ++ t4, by go_num, rfl, by omega, ?_, HLI.out.trans (B4.out.mono HLI.out.size)⟩
              show _ = _
              rw [cat_list, HU.out, HT4.out, take_snocI _ (by rw [← HQ1.out]; exact hjl), vt_snoc, ← HY.out]
              simp
            case measure => simp [intOf]; omega
          · have hd := cell_below HC2.out HLI.out hbw
            go_wp2_with fail
            refine (l01Var_let x wr (by omega) (by omega)).mono ?_
            rintro e w4 ⟨t4, rfl, HT4, B4⟩
            have hts4 : t4.size ≤ 10 := by have := size_of_list HT4.out; have := vb_le x; omega
            have HLI4 : Hid (Below _ _ w4) := HLI.out.trans (B4.out.mono HLI.out.size)
            clear B4
            go_wp2
            go_roundw
            case rel =>
              refine ⟨k + 1, u ++ t4, by go_num, rfl, by omega, ?_, HL.out.trans (HLI4.out.mono HL.out.size), HK.out.of_block (HLI4.out.block _ HK.out.lt)⟩
              show _ = _
              rw [cat_list, HU.out, HT4.out, txtTo_step (by rw [HN.out]; exact hlt)]
              unfold itemTxt
              rw [← HQ1.out, ← HX.out, List.take_of_length_le (by rw [← HQ1.out]; omega)]
              simp
            case measure => simp [intOf]; omega
      · obtain rfl : k = n := by omega
        go_wp2
        go_ret2
        refine ⟨t, true, rfl, ⟨HO.out.symm, ?_⟩, HL⟩
        unfold txtOf
        rw [if_pos HO.out, HN.out, ← HTX.out]
  · subst hs
    go_wp2
    go_ret2
    refine ⟨_, false, rfl, ⟨HS.out, ?_⟩, HB1.out⟩
    unfold txtOf
    rw [← HS.out]; rfl
end Go.Proofs.Ytelikebpddhncaa

/-
  spec.GraphText.
-/
namespace Go.Proofs.Ytelikebpddhncaa
open Go.RowKit

theorem conv_cell {w : World} {b : Nat} {c : UInt8} (h : w.cell? ⟨b, 0, none⟩ = some (.int .u8 (c.toNat : Int))) :
    (convert 22 9 (.slice (some ⟨b, 0, none⟩) 1 1)).run Try.prog w = .ok (.string ⟨#[c]⟩) w := by
  refine run_convert_bytes_back _ 22 9 5 ⟨b, 0, none⟩ 1 [c] Try.underlying22 Try.underlying5 Try.underlying9 fun j hj => ?_
  have hj0 : j = 0 := by simpa using hj
  subst hj0
  exact h
theorem size_cat (s t : ByteArray) : (s ++ t).size = s.size + t.size := by simp

set_option maxHeartbeats 8000000 in
set_option maxRecDepth 100000 in
theorem specGText_any (lo hi : Nat) (s : Int) (a : Option Addr) (n cap : Nat) (l : List Ed) (w : World) (ha : EdgesIn lo hi w a l) (hh : hi ≤ w.heap.size) (hn : l.length = n) (hm : n ≤ 1048576) :
    Calls Try.prog 52 #[gv s a n cap] w fun e w' => ∃ (t : ByteArray) (ok : Bool), e = .returned (.tuple #[.string t, .bool ok]) ∧ Hid (ok = okG s l ∧ t = gtxtOf s l) ∧ Hid (Below w.heap.size w w') := by
  have HN : Hid (l.length = n) := hn
  have HA : Hid (EdgesIn lo hi w a l) := ha
  have HH : Hid (hi ≤ w.heap.size) := hh
  obtain ⟨r, HS⟩ : ∃ r : Bool, Hid (r = okG s l) := ⟨_, rfl⟩
  clear ha hh hn
  go_enter Try.func52, Try.ntmps52
  go_wp2_with fail
  refine (specGOk_any lo hi s a n cap l r _ (HA.out.below (below1 w _) HH.out) (by have := HH.out; simp; omega) HN.out hm HS.out).mono ?_
  rintro e w1 ⟨rfl, hb1⟩
  have HK1 : Hid (Blk w1 w.heap.size 2 (fun i => if i = 0 then .int .i64 s else .slice a n cap)) := (blk_two w w.heap.size rfl (.int .i64 s) (.slice a n cap) 37).of_block (hb1.out.block w.heap.size (by simp))
  have HB1 : Hid (Below w.heap.size w w1) := (below1 w _).trans (hb1.out.mono (by simp))
  clear hb1
  rcases Bool.eq_false_or_eq_true r with hs | hs
  · subst hs
    have HO : Hid (okG s l = true) := HS.out.symm
    obtain ⟨hs1, hs2, hs3⟩ := okG_size HO.out
    rw [HN.out] at hs3
    have c0 : w1.cell? ⟨w.heap.size, 0, none⟩ = some (.int .i64 s) := HK1.out.cell (i := 0) (by omega)
    have c1 : w1.cell? ⟨w.heap.size, 1, none⟩ = some (.slice a n cap) := HK1.out.cell (i := 1) (by omega)
    have HKS : Hid (∀ w', Below w1.heap.size w1 w' → (w'.cell? ⟨w.heap.size, 0, none⟩ = some (.int .i64 s) ∧ w'.cell? ⟨w.heap.size, 1, none⟩ = some (.slice a n cap))) := fun w' h => ⟨cell_below c0 h (lt_of_cell c0), cell_below c1 h (lt_of_cell c1)⟩
    have K1 : True := trivial
    go_wp2_with fail
    go_region_held3 (fun w' => w'.cell? ⟨w.heap.size, 0, none⟩ = some (.int .i64 s) ∧ w'.cell? ⟨w.heap.size, 1, none⟩ = some (.slice a n cap)) (first | exact ⟨c0, c1⟩ | exact hk1 | exact hk2) (first | (go_at_call 92; clear K1; refine (l01Var_let s _ (by omega) (by omega)).mono ?_; rintro e w2 ⟨t2, rfl, HT2, B2⟩; have HB2 : Hid (Below w1.heap.size w1 w2) := ((Below.refl _ _).drew).trans (B2.out.mono (Nat.le_refl _)); have hk1 := HKS.out _ HB2.out; have hz2 : t2.size ≤ 10 := by {have := size_of_list HT2.out; have := vb_le s; omega}) | (go_at_call 92; refine (l01Var_let (n : Int) _ (by omega) (by omega)).mono ?_; rintro e w3 ⟨t3, rfl, HT3, B3⟩; have HB3 : Hid (Below w1.heap.size w1 w3) := HB2.out.trans (B3.out.mono HB2.out.size); have hk2 := HKS.out _ HB3.out; have hz3 : t3.size ≤ 10 := by {have := size_of_list HT3.out; have := vb_le (n : Int); omega}; have hzz : ¬ 9223372036854775807 < t2.size + t3.size := by omega))
    have HT0 : Hid ((t2 ++ t3).data.toList = gtxtTo s l 0) := by show _ = _; rw [cat_list, HT2.out, HT3.out]; simp [gtxtTo, HN.out]
    have HK3 : Hid (Blk w3 w.heap.size 2 (fun i => if i = 0 then .int .i64 s else .slice a n cap)) := HK1.out.of_block (HB3.out.block _ HK1.out.lt)
    have HB3' : Hid (Below w.heap.size w w3) := HB1.out.trans (HB3.out.mono HB1.out.size)
    clear hk1 hk2 B2 B3 HB2 HB3 c0 c1 HKS
    go_wp2
    go_loopw [5, 4] (fun i u wr => ∃ (k : Nat) (t : ByteArray), i = .int .i64 k ∧ u = .string t ∧ k ≤ n ∧ Hid (t.data.toList = gtxtTo s l k) ∧ Hid (Below w.heap.size w wr) ∧ Hid (Blk wr w.heap.size 2 (fun i => if i = 0 then .int .i64 s else .slice a n cap))) (fun i _ _ => n - (intOf i).toNat)
    case atStart => exact ⟨0, t2 ++ t3, rfl, rfl, by omega, HT0, HB3', HK3⟩
    case round =>
      obtain ⟨k, t, rfl, rfl, hk, HTX, HL, HK⟩ := hrel
      have ck : wr.cell? ⟨w.heap.size, 1, none⟩ = some (.slice a n cap) := HK.out.cell (i := 1) (by omega)
      by_cases hlt : k < n
      · have hlt1 : (k : Int) < (n : Int) := by omega
        have hlt0 : 0 ≤ (k : Int) := by omega
        obtain ⟨⟨hv0, hv1⟩, ⟨hv2, hv3⟩, hv4, hv5⟩ := okG_edge HO.out (k := k) (by rw [HN.out]; exact hlt)
        obtain ⟨b, o, rfl, _, _, hx⟩ := (HA.out.below HL.out HH.out).edge (k := k) (by rw [HN.out]; exact hlt)
        obtain ⟨x, HXX⟩ : ∃ x : Ed, Hid (x = eat l k) := ⟨_, rfl⟩
        rw [← HXX.out] at hx hv0 hv1 hv2 hv3 hv4 hv5
        obtain ⟨x0, x1, x2⟩ := x
        obtain ⟨p0, p1, p2⟩ := hx
        dsimp only at p0 p1 p2 hv0 hv1 hv2 hv3 hv4 hv5
        obtain ⟨c, hc⟩ : ∃ c : UInt8, x1 = (c.toNat : Int) := ⟨UInt8.ofNat x1.toNat, by simp; omega⟩
        have HC : Hid (UInt8.ofNat x1.toNat = c) := by show _ = _; rw [hc]; simp
        subst hc
        have hts : t.size ≤ 1000 := by have := size_of_list HTX.out; have := gtxt_le s l k (by rw [HN.out]; exact hk); omega
        have HKS : Hid (∀ w', Below wr.heap.size wr w' → (w'.cell? ⟨w.heap.size, 1, none⟩ = some (.slice (some ⟨b, o, none⟩) n cap) ∧ (w'.cell? ⟨b, o + k * 3, none⟩ = some (.int .i64 x0) ∧ w'.cell? ⟨b, o + k * 3 + 1, none⟩ = some (.int .u8 (c.toNat : Int)) ∧ w'.cell? ⟨b, o + k * 3 + 2, none⟩ = some (.int .i64 x2)))) := fun w' h => ⟨cell_below ck h (lt_of_cell ck), cell_below p0 h (lt_of_cell p0), cell_below p1 h (lt_of_cell p1), cell_below p2 h (lt_of_cell p2)⟩
        go_wp2_with fail
        refine wp_region_held_drew (S := fun w' => w'.cell? ⟨w.heap.size, 1, none⟩ = some (.slice (some ⟨b, o, none⟩) n cap) ∧ (w'.cell? ⟨b, o + k * 3, none⟩ = some (.int .i64 x0) ∧ w'.cell? ⟨b, o + k * 3 + 1, none⟩ = some (.int .u8 (c.toNat : Int)) ∧ w'.cell? ⟨b, o + k * 3 + 2, none⟩ = some (.int .i64 x2))) (by kernel_rfl) ⟨ck, p0, p1, p2⟩ (fun hHeld => ?_)
        clear ck p0 p1 p2
        refine wpAnyH_take (i := 0) (oi := { dst := some 24, op := Go.Op.move (Go.Operand.tmp 4), type := 9, pos := "l04_graph.go:107", after := #[], guard := none }) (v := ?_) rfl (by kernel_rfl) (by kernel_rfl) (by kernel_rfl) (fun _ _ _ h => h) (Or.inl ⟨by kernel_rfl, ?_⟩) (by assumption) ?_
        rotate_left
        · intro w hSw; (try dsimp only at hSw); go_simp; try with_reducible rfl
        simp only [Act.put, List.setIfInBounds_toArray, List.set_cons_zero, List.set_cons_succ]
        refine wpAnyH_take (i := 1) (oi := { dst := some 25, op := Go.Op.fieldAddr 37 (Go.Operand.tmp 1) 1, type := 0, pos := "l04_graph.go:107", after := #[], guard := none }) (v := ?_) rfl (by kernel_rfl) (by kernel_rfl) (by kernel_rfl) (fun _ _ _ h => h) (Or.inl ⟨by kernel_rfl, ?_⟩) (by assumption) ?_
        rotate_left
        · intro w hSw; (try dsimp only at hSw); go_simp; try with_reducible rfl
        simp only [Act.put, List.setIfInBounds_toArray, List.set_cons_zero, List.set_cons_succ]
        refine wpAnyH_take (i := 2) (oi := { dst := some 26, op := Go.Op.load 35 (Go.Operand.tmp 25), type := 35, pos := "l04_graph.go:107", after := #[{ on := 1, ground := Go.Ground.data }], guard := none }) (v := ?_) rfl (by kernel_rfl) (by kernel_rfl) (by kernel_rfl) (fun _ _ _ h => h) (Or.inl ⟨by kernel_rfl, ?_⟩) (by assumption) ?_
        rotate_left
        · intro w hSw; (try dsimp only at hSw); go_simp; try with_reducible rfl
        simp only [Act.put, List.setIfInBounds_toArray, List.set_cons_zero, List.set_cons_succ]
        refine wpAnyH_take (i := 3) (oi := { dst := some 27, op := Go.Op.move (Go.Operand.tmp 5), type := 3, pos := "l04_graph.go:107", after := #[], guard := none }) (v := ?_) rfl (by kernel_rfl) (by kernel_rfl) (by kernel_rfl) (fun _ _ _ h => h) (Or.inl ⟨by kernel_rfl, ?_⟩) (by assumption) ?_
        rotate_left
        · intro w hSw; (try dsimp only at hSw); go_simp; try with_reducible rfl
        simp only [Act.put, List.setIfInBounds_toArray, List.set_cons_zero, List.set_cons_succ]
        refine wpAnyH_take (i := 4) (oi := { dst := some 28, op := Go.Op.indexAddr 35 (Go.Operand.tmp 26) (Go.Operand.tmp 27), type := 0, pos := "l04_graph.go:107", after := #[{ on := 2, ground := Go.Ground.data }, { on := 3, ground := Go.Ground.data }], guard := none }) (v := ?_) rfl (by kernel_rfl) (by kernel_rfl) (by kernel_rfl) (fun _ _ _ h => h) (Or.inl ⟨by kernel_rfl, ?_⟩) (by assumption) ?_
        rotate_left
        · intro w hSw; (try dsimp only at hSw); go_simp; try with_reducible rfl
        simp only [Act.put, List.setIfInBounds_toArray, List.set_cons_zero, List.set_cons_succ]
        refine wpAnyH_take (i := 5) (oi := { dst := some 29, op := Go.Op.fieldAddr 42 (Go.Operand.tmp 28) 0, type := 0, pos := "l04_graph.go:107", after := #[{ on := 4, ground := Go.Ground.data }], guard := none }) (v := ?_) rfl (by kernel_rfl) (by kernel_rfl) (by kernel_rfl) (fun _ _ _ h => h) (Or.inl ⟨by kernel_rfl, ?_⟩) (by assumption) ?_
        rotate_left
        · intro w hSw; (try dsimp only at hSw); go_simp; try with_reducible rfl
        simp only [Act.put, List.setIfInBounds_toArray, List.set_cons_zero, List.set_cons_succ]
        refine wpAnyH_take (i := 6) (oi := { dst := some 30, op := Go.Op.load 3 (Go.Operand.tmp 29), type := 3, pos := "l04_graph.go:107", after := #[{ on := 5, ground := Go.Ground.data }], guard := none }) (v := ?_) rfl (by kernel_rfl) (by kernel_rfl) (by kernel_rfl) (fun _ _ _ h => h) (Or.inl ⟨by kernel_rfl, ?_⟩) (by assumption) ?_
        rotate_left
        · intro w hSw; (try dsimp only at hSw); go_simp; try with_reducible rfl
        simp only [Act.put, List.setIfInBounds_toArray, List.set_cons_zero, List.set_cons_succ]
        refine wpAnyH_take (i := 9) (oi := { dst := some 33, op := Go.Op.fieldAddr 37 (Go.Operand.tmp 1) 1, type := 0, pos := "l04_graph.go:107", after := #[], guard := none }) (v := ?_) rfl (by kernel_rfl) (by kernel_rfl) (by kernel_rfl) (fun _ _ _ h => h) (Or.inl ⟨by kernel_rfl, ?_⟩) (by assumption) ?_
        rotate_left
        · intro w hSw; (try dsimp only at hSw); go_simp; try with_reducible rfl
        simp only [Act.put, List.setIfInBounds_toArray, List.set_cons_zero, List.set_cons_succ]
        refine wpAnyH_take (i := 10) (oi := { dst := some 34, op := Go.Op.load 35 (Go.Operand.tmp 33), type := 35, pos := "l04_graph.go:107", after := #[{ on := 9, ground := Go.Ground.data }], guard := none }) (v := ?_) rfl (by kernel_rfl) (by kernel_rfl) (by kernel_rfl) (fun _ _ _ h => h) (Or.inl ⟨by kernel_rfl, ?_⟩) (by assumption) ?_
        rotate_left
        · intro w hSw; (try dsimp only at hSw); go_simp; try with_reducible rfl
        simp only [Act.put, List.setIfInBounds_toArray, List.set_cons_zero, List.set_cons_succ]
        refine wpAnyH_take (i := 11) (oi := { dst := some 35, op := Go.Op.move (Go.Operand.tmp 5), type := 3, pos := "l04_graph.go:107", after := #[], guard := none }) (v := ?_) rfl (by kernel_rfl) (by kernel_rfl) (by kernel_rfl) (fun _ _ _ h => h) (Or.inl ⟨by kernel_rfl, ?_⟩) (by assumption) ?_
        rotate_left
        · intro w hSw; (try dsimp only at hSw); go_simp; try with_reducible rfl
        simp only [Act.put, List.setIfInBounds_toArray, List.set_cons_zero, List.set_cons_succ]
        refine wpAnyH_take (i := 12) (oi := { dst := some 36, op := Go.Op.indexAddr 35 (Go.Operand.tmp 34) (Go.Operand.tmp 35), type := 0, pos := "l04_graph.go:107", after := #[{ on := 10, ground := Go.Ground.data }, { on := 11, ground := Go.Ground.data }], guard := none }) (v := ?_) rfl (by kernel_rfl) (by kernel_rfl) (by kernel_rfl) (fun _ _ _ h => h) (Or.inl ⟨by kernel_rfl, ?_⟩) (by assumption) ?_
        rotate_left
        · intro w hSw; (try dsimp only at hSw); go_simp; try with_reducible rfl
        simp only [Act.put, List.setIfInBounds_toArray, List.set_cons_zero, List.set_cons_succ]
        refine wpAnyH_take (i := 13) (oi := { dst := some 37, op := Go.Op.fieldAddr 42 (Go.Operand.tmp 36) 1, type := 0, pos := "l04_graph.go:107", after := #[{ on := 12, ground := Go.Ground.data }], guard := none }) (v := ?_) rfl (by kernel_rfl) (by kernel_rfl) (by kernel_rfl) (fun _ _ _ h => h) (Or.inl ⟨by kernel_rfl, ?_⟩) (by assumption) ?_
        rotate_left
        · intro w hSw; (try dsimp only at hSw); go_simp; try with_reducible rfl
        simp only [Act.put, List.setIfInBounds_toArray, List.set_cons_zero, List.set_cons_succ]
        refine wpAnyH_take (i := 14) (oi := { dst := some 38, op := Go.Op.load 5 (Go.Operand.tmp 37), type := 5, pos := "l04_graph.go:107", after := #[{ on := 13, ground := Go.Ground.data }], guard := none }) (v := ?_) rfl (by kernel_rfl) (by kernel_rfl) (by kernel_rfl) (fun _ _ _ h => h) (Or.inl ⟨by kernel_rfl, ?_⟩) (by assumption) ?_
        rotate_left
        · intro w hSw; (try dsimp only at hSw); go_simp; try with_reducible rfl
        simp only [Act.put, List.setIfInBounds_toArray, List.set_cons_zero, List.set_cons_succ]
        refine wpAnyH_take (i := 18) (oi := { dst := some 42, op := Go.Op.fieldAddr 37 (Go.Operand.tmp 1) 1, type := 0, pos := "l04_graph.go:107", after := #[], guard := none }) (v := ?_) rfl (by kernel_rfl) (by kernel_rfl) (by kernel_rfl) (fun _ _ _ h => h) (Or.inl ⟨by kernel_rfl, ?_⟩) (by assumption) ?_
        rotate_left
        · intro w hSw; (try dsimp only at hSw); go_simp; try with_reducible rfl
        simp only [Act.put, List.setIfInBounds_toArray, List.set_cons_zero, List.set_cons_succ]
        refine wpAnyH_take (i := 19) (oi := { dst := some 43, op := Go.Op.load 35 (Go.Operand.tmp 42), type := 35, pos := "l04_graph.go:107", after := #[{ on := 18, ground := Go.Ground.data }], guard := none }) (v := ?_) rfl (by kernel_rfl) (by kernel_rfl) (by kernel_rfl) (fun _ _ _ h => h) (Or.inl ⟨by kernel_rfl, ?_⟩) (by assumption) ?_
        rotate_left
        · intro w hSw; (try dsimp only at hSw); go_simp; try with_reducible rfl
        simp only [Act.put, List.setIfInBounds_toArray, List.set_cons_zero, List.set_cons_succ]
        refine wpAnyH_take (i := 20) (oi := { dst := some 44, op := Go.Op.move (Go.Operand.tmp 5), type := 3, pos := "l04_graph.go:107", after := #[], guard := none }) (v := ?_) rfl (by kernel_rfl) (by kernel_rfl) (by kernel_rfl) (fun _ _ _ h => h) (Or.inl ⟨by kernel_rfl, ?_⟩) (by assumption) ?_
        rotate_left
        · intro w hSw; (try dsimp only at hSw); go_simp; try with_reducible rfl
        simp only [Act.put, List.setIfInBounds_toArray, List.set_cons_zero, List.set_cons_succ]
        refine wpAnyH_take (i := 21) (oi := { dst := some 45, op := Go.Op.indexAddr 35 (Go.Operand.tmp 43) (Go.Operand.tmp 44), type := 0, pos := "l04_graph.go:107", after := #[{ on := 19, ground := Go.Ground.data }, { on := 20, ground := Go.Ground.data }], guard := none }) (v := ?_) rfl (by kernel_rfl) (by kernel_rfl) (by kernel_rfl) (fun _ _ _ h => h) (Or.inl ⟨by kernel_rfl, ?_⟩) (by assumption) ?_
        rotate_left
        · intro w hSw; (try dsimp only at hSw); go_simp; try with_reducible rfl
        simp only [Act.put, List.setIfInBounds_toArray, List.set_cons_zero, List.set_cons_succ]
        refine wpAnyH_take (i := 22) (oi := { dst := some 46, op := Go.Op.fieldAddr 42 (Go.Operand.tmp 45) 2, type := 0, pos := "l04_graph.go:107", after := #[{ on := 21, ground := Go.Ground.data }], guard := none }) (v := ?_) rfl (by kernel_rfl) (by kernel_rfl) (by kernel_rfl) (fun _ _ _ h => h) (Or.inl ⟨by kernel_rfl, ?_⟩) (by assumption) ?_
        rotate_left
        · intro w hSw; (try dsimp only at hSw); go_simp; try with_reducible rfl
        simp only [Act.put, List.setIfInBounds_toArray, List.set_cons_zero, List.set_cons_succ]
        refine wpAnyH_take (i := 23) (oi := { dst := some 47, op := Go.Op.load 3 (Go.Operand.tmp 46), type := 3, pos := "l04_graph.go:107", after := #[{ on := 22, ground := Go.Ground.data }], guard := none }) (v := ?_) rfl (by kernel_rfl) (by kernel_rfl) (by kernel_rfl) (fun _ _ _ h => h) (Or.inl ⟨by kernel_rfl, ?_⟩) (by assumption) ?_
        rotate_left
        · intro w hSw; (try dsimp only at hSw); go_simp; try with_reducible rfl
        simp only [Act.put, List.setIfInBounds_toArray, List.set_cons_zero, List.set_cons_succ]
        refine wpAnyH_ready (rs := [7, 15]) (by kernel_rfl) (by simp) ?_
        refine AllReadyH.cons (o := { dst := some 31, op := Go.Op.call { callee := Go.Callee.value (Go.Operand.func 92), args := #[Go.Operand.tmp 30], argTypes := #[3] }, type := 9, pos := "l04_graph.go:107", after := #[{ on := 6, ground := Go.Ground.data }], guard := none }) rfl (fun K hK => ?_) ?_
        · go_simp
          go_wp2_with (go_at_call 92; refine (l01Var_let x0 _ (by omega) (by omega)).mono ?_; rintro e wq1 ⟨ta, rfl, Hta, C1⟩)
          have HB1 : Hid (Below wr.heap.size wr wq1) := ((Below.refl wr.heap.size wr).drew).trans (C1.out.mono ((Below.refl wr.heap.size wr).drew).size)
          have hk1 := HKS.out _ HB1.out
          have hzta : ta.size ≤ 10 := by have := size_of_list Hta.out; have := vb_le x0; omega
          have hzt : ¬ 9223372036854775807 < t.size + ta.size := by omega
          have hzu : ¬ 9223372036854775807 < t.size + ta.size + 1 := by omega
          refine hK.out _ _ hk1 (fun hHeld => ?_)
          clear hK K
          try simp only [Act.put, List.setIfInBounds_toArray, List.set_cons_zero, List.set_cons_succ]
          refine wpAnyH_take (i := 8) (oi := { dst := some 32, op := Go.Op.binOp Go.BinOp.add 9 (Go.Operand.tmp 24) (Go.Operand.tmp 31) 9, type := 9, pos := "l04_graph.go:107", after := #[{ on := 0, ground := Go.Ground.data }, { on := 7, ground := Go.Ground.data }], guard := none }) (v := ?_) rfl (by kernel_rfl) (by kernel_rfl) (by kernel_rfl) (fun _ _ _ h => h) (Or.inl ⟨by kernel_rfl, ?_⟩) (by assumption) ?_
          rotate_left
          · intro w hSw; (try dsimp only at hSw); go_simp; try with_reducible rfl
          simp only [Act.put, List.setIfInBounds_toArray, List.set_cons_zero, List.set_cons_succ]
          refine wpAnyH_ready (rs := [15, 24]) (by kernel_rfl) (by simp) ?_
          refine AllReadyH.cons (o := { dst := some 39, op := Go.Op.buildSlice 22 1 #[(0, Go.Operand.tmp 38)], type := 22, pos := "l04_graph.go:107", after := #[{ on := 14, ground := Go.Ground.data }], guard := none }) rfl (fun K hK => ?_) ?_
          · go_simp
            have HB2 : Hid (Below wr.heap.size wr (wq1.alloc (.cells #[.int .u8 (c.toNat : Int)] 5))) := (HB1.out).alloc (HB1.out).size _
            have hk2 := HKS.out _ HB2.out
            have pc2 : (wq1.alloc (.cells #[.int .u8 (c.toNat : Int)] 5)).cell? ⟨wq1.heap.size, 0, none⟩ = some (.int .u8 (c.toNat : Int)) := (blk_one wq1 _ rfl _ _).cell (i := 0) (by omega)
            refine hK.out _ _ hk2 (fun hHeld => ?_)
            clear hK K
            try simp only [Act.put, List.setIfInBounds_toArray, List.set_cons_zero, List.set_cons_succ]
            refine wpAnyH_ready (rs := [16, 24]) (by kernel_rfl) (by simp) ?_
            refine AllReadyH.cons (o := { dst := some 40, op := Go.Op.convert 22 9 (Go.Operand.tmp 39), type := 9, pos := "l04_graph.go:107", after := #[{ on := 15, ground := Go.Ground.data }], guard := none }) rfl (fun K hK => ?_) ?_
            · have hcv3 := conv_cell pc2
              go_simp
              refine hK.out _ _ hk2 (fun hHeld => ?_)
              clear hK K
              try simp only [Act.put, List.setIfInBounds_toArray, List.set_cons_zero, List.set_cons_succ]
              refine wpAnyH_take (i := 17) (oi := { dst := some 41, op := Go.Op.binOp Go.BinOp.add 9 (Go.Operand.tmp 32) (Go.Operand.tmp 40) 9, type := 9, pos := "l04_graph.go:107", after := #[{ on := 8, ground := Go.Ground.data }, { on := 16, ground := Go.Ground.data }], guard := none }) (v := ?_) rfl (by kernel_rfl) (by kernel_rfl) (by kernel_rfl) (fun _ _ _ h => h) (Or.inl ⟨by kernel_rfl, ?_⟩) (by assumption) ?_
              rotate_left
              · intro w hSw; (try dsimp only at hSw); go_simp; try with_reducible rfl
              simp only [Act.put, List.setIfInBounds_toArray, List.set_cons_zero, List.set_cons_succ]
              refine wpAnyH_ready (rs := [24]) (by kernel_rfl) (by simp) ?_
              refine AllReadyH.cons (o := { dst := some 48, op := Go.Op.call { callee := Go.Callee.value (Go.Operand.func 92), args := #[Go.Operand.tmp 47], argTypes := #[3] }, type := 9, pos := "l04_graph.go:107", after := #[{ on := 23, ground := Go.Ground.data }, { on := 7, ground := Go.Ground.chain }], guard := none }) rfl (fun K hK => ?_) ?_
              · go_simp
                go_wp2_with (go_at_call 92; refine (l01Var_let x2 _ (by omega) (by omega)).mono ?_; rintro e wq3 ⟨tb, rfl, Htb, C3⟩)
                have HB3 : Hid (Below wr.heap.size wr wq3) := (HB2.out).trans (C3.out.mono (HB2.out).size)
                have hk3 := HKS.out _ HB3.out
                have hztb : tb.size ≤ 10 := by have := size_of_list Htb.out; have := vb_le x2; omega
                have hzv : ¬ 9223372036854775807 < t.size + ta.size + 1 + tb.size := by omega
                refine hK.out _ _ hk3 (fun hHeld => ?_)
                clear hK K
                try simp only [Act.put, List.setIfInBounds_toArray, List.set_cons_zero, List.set_cons_succ]
                refine wpAnyH_take (i := 25) (oi := { dst := some 49, op := Go.Op.binOp Go.BinOp.add 9 (Go.Operand.tmp 41) (Go.Operand.tmp 48) 9, type := 9, pos := "l04_graph.go:107", after := #[{ on := 17, ground := Go.Ground.data }, { on := 24, ground := Go.Ground.data }], guard := none }) (v := ?_) rfl (by kernel_rfl) (by kernel_rfl) (by kernel_rfl) (fun _ _ _ h => h) (Or.inl ⟨by kernel_rfl, ?_⟩) (by assumption) ?_
                rotate_left
                · intro w hSw; (try dsimp only at hSw); go_simp; try with_reducible rfl
                simp only [Act.put, List.setIfInBounds_toArray, List.set_cons_zero, List.set_cons_succ]
                refine wpAnyH_take (i := 26) (oi := { dst := some 4, op := Go.Op.assign (Go.Operand.tmp 49), type := 9, pos := "l04_graph.go:107", after := #[{ on := 25, ground := Go.Ground.data }, { on := 24, ground := Go.Ground.chain }, { on := 0, ground := Go.Ground.phase }, { on := 1, ground := Go.Ground.phase }, { on := 2, ground := Go.Ground.phase }, { on := 3, ground := Go.Ground.phase }, { on := 4, ground := Go.Ground.phase }, { on := 5, ground := Go.Ground.phase }, { on := 6, ground := Go.Ground.phase }, { on := 7, ground := Go.Ground.phase }, { on := 8, ground := Go.Ground.phase }, { on := 9, ground := Go.Ground.phase }, { on := 10, ground := Go.Ground.phase }, { on := 11, ground := Go.Ground.phase }, { on := 12, ground := Go.Ground.phase }, { on := 13, ground := Go.Ground.phase }, { on := 14, ground := Go.Ground.phase }, { on := 15, ground := Go.Ground.phase }, { on := 16, ground := Go.Ground.phase }, { on := 17, ground := Go.Ground.phase }, { on := 18, ground := Go.Ground.phase }, { on := 19, ground := Go.Ground.phase }, { on := 20, ground := Go.Ground.phase }, { on := 21, ground := Go.Ground.phase }, { on := 22, ground := Go.Ground.phase }, { on := 23, ground := Go.Ground.phase }, { on := 24, ground := Go.Ground.phase }, { on := 25, ground := Go.Ground.phase }], guard := none }) (v := ?_) rfl (by kernel_rfl) (by kernel_rfl) (by kernel_rfl) (fun _ _ _ h => h) (Or.inl ⟨by kernel_rfl, ?_⟩) (by assumption) ?_
                rotate_left
                · intro w hSw; (try dsimp only at hSw); go_simp; try with_reducible rfl
                simp only [Act.put, List.setIfInBounds_toArray, List.set_cons_zero, List.set_cons_succ]
                refine wpAnyH_done (by kernel_rfl) ?_ _
                clear hHeld
                go_wp2
                go_roundw
                case rel =>
                  refine ⟨k + 1, _, by go_num, rfl, by omega, ?_, HL.out.trans ((HB3.out).mono HL.out.size), HK.out.of_block ((HB3.out).block _ HK.out.lt)⟩
                  show _ = _
                  rw [gtxtTo_step (by rw [HN.out]; exact hlt), ← HXX.out, ← HTX.out]
                  unfold edgeTxt
                  rw [HC.out, cat_list, cat_list, cat_list, Hta.out, Htb.out]
                  simp
                case measure => simp [intOf]; omega
              exact AllReadyH.nil
            refine AllReadyH.cons (o := { dst := some 48, op := Go.Op.call { callee := Go.Callee.value (Go.Operand.func 92), args := #[Go.Operand.tmp 47], argTypes := #[3] }, type := 9, pos := "l04_graph.go:107", after := #[{ on := 23, ground := Go.Ground.data }, { on := 7, ground := Go.Ground.chain }], guard := none }) rfl (fun K hK => ?_) ?_
            · go_simp
              go_wp2_with (go_at_call 92; refine (l01Var_let x2 _ (by omega) (by omega)).mono ?_; rintro e wq3 ⟨tb, rfl, Htb, C3⟩)
              have HB3 : Hid (Below wr.heap.size wr wq3) := (HB2.out).trans (C3.out.mono (HB2.out).size)
              have hk3 := HKS.out _ HB3.out
              have hztb : tb.size ≤ 10 := by have := size_of_list Htb.out; have := vb_le x2; omega
              have pc3 : wq3.cell? ⟨wq1.heap.size, 0, none⟩ = some (.int .u8 (c.toNat : Int)) := cell_below pc2 C3.out (lt_of_cell pc2)
              have hzv : ¬ 9223372036854775807 < t.size + ta.size + 1 + tb.size := by omega
              refine hK.out _ _ hk3 (fun hHeld => ?_)
              clear hK K
              try simp only [Act.put, List.setIfInBounds_toArray, List.set_cons_zero, List.set_cons_succ]
              refine wpAnyH_ready (rs := [16]) (by kernel_rfl) (by simp) ?_
              refine AllReadyH.cons (o := { dst := some 40, op := Go.Op.convert 22 9 (Go.Operand.tmp 39), type := 9, pos := "l04_graph.go:107", after := #[{ on := 15, ground := Go.Ground.data }], guard := none }) rfl (fun K hK => ?_) ?_
              · have hcv4 := conv_cell pc3
                go_simp
                refine hK.out _ _ hk3 (fun hHeld => ?_)
                clear hK K
                try simp only [Act.put, List.setIfInBounds_toArray, List.set_cons_zero, List.set_cons_succ]
                refine wpAnyH_take (i := 17) (oi := { dst := some 41, op := Go.Op.binOp Go.BinOp.add 9 (Go.Operand.tmp 32) (Go.Operand.tmp 40) 9, type := 9, pos := "l04_graph.go:107", after := #[{ on := 8, ground := Go.Ground.data }, { on := 16, ground := Go.Ground.data }], guard := none }) (v := ?_) rfl (by kernel_rfl) (by kernel_rfl) (by kernel_rfl) (fun _ _ _ h => h) (Or.inl ⟨by kernel_rfl, ?_⟩) (by assumption) ?_
                rotate_left
                · intro w hSw; (try dsimp only at hSw); go_simp; try with_reducible rfl
                simp only [Act.put, List.setIfInBounds_toArray, List.set_cons_zero, List.set_cons_succ]
                refine wpAnyH_take (i := 25) (oi := { dst := some 49, op := Go.Op.binOp Go.BinOp.add 9 (Go.Operand.tmp 41) (Go.Operand.tmp 48) 9, type := 9, pos := "l04_graph.go:107", after := #[{ on := 17, ground := Go.Ground.data }, { on := 24, ground := Go.Ground.data }], guard := none }) (v := ?_) rfl (by kernel_rfl) (by kernel_rfl) (by kernel_rfl) (fun _ _ _ h => h) (Or.inl ⟨by kernel_rfl, ?_⟩) (by assumption) ?_
                rotate_left
                · intro w hSw; (try dsimp only at hSw); go_simp; try with_reducible rfl
                simp only [Act.put, List.setIfInBounds_toArray, List.set_cons_zero, List.set_cons_succ]
                refine wpAnyH_take (i := 26) (oi := { dst := some 4, op := Go.Op.assign (Go.Operand.tmp 49), type := 9, pos := "l04_graph.go:107", after := #[{ on := 25, ground := Go.Ground.data }, { on := 24, ground := Go.Ground.chain }, { on := 0, ground := Go.Ground.phase }, { on := 1, ground := Go.Ground.phase }, { on := 2, ground := Go.Ground.phase }, { on := 3, ground := Go.Ground.phase }, { on := 4, ground := Go.Ground.phase }, { on := 5, ground := Go.Ground.phase }, { on := 6, ground := Go.Ground.phase }, { on := 7, ground := Go.Ground.phase }, { on := 8, ground := Go.Ground.phase }, { on := 9, ground := Go.Ground.phase }, { on := 10, ground := Go.Ground.phase }, { on := 11, ground := Go.Ground.phase }, { on := 12, ground := Go.Ground.phase }, { on := 13, ground := Go.Ground.phase }, { on := 14, ground := Go.Ground.phase }, { on := 15, ground := Go.Ground.phase }, { on := 16, ground := Go.Ground.phase }, { on := 17, ground := Go.Ground.phase }, { on := 18, ground := Go.Ground.phase }, { on := 19, ground := Go.Ground.phase }, { on := 20, ground := Go.Ground.phase }, { on := 21, ground := Go.Ground.phase }, { on := 22, ground := Go.Ground.phase }, { on := 23, ground := Go.Ground.phase }, { on := 24, ground := Go.Ground.phase }, { on := 25, ground := Go.Ground.phase }], guard := none }) (v := ?_) rfl (by kernel_rfl) (by kernel_rfl) (by kernel_rfl) (fun _ _ _ h => h) (Or.inl ⟨by kernel_rfl, ?_⟩) (by assumption) ?_
                rotate_left
                · intro w hSw; (try dsimp only at hSw); go_simp; try with_reducible rfl
                simp only [Act.put, List.setIfInBounds_toArray, List.set_cons_zero, List.set_cons_succ]
                refine wpAnyH_done (by kernel_rfl) ?_ _
                clear hHeld
                go_wp2
                go_roundw
                case rel =>
                  refine ⟨k + 1, _, by go_num, rfl, by omega, ?_, HL.out.trans ((HB3.out).mono HL.out.size), HK.out.of_block ((HB3.out).block _ HK.out.lt)⟩
                  show _ = _
                  rw [gtxtTo_step (by rw [HN.out]; exact hlt), ← HXX.out, ← HTX.out]
                  unfold edgeTxt
                  rw [HC.out, cat_list, cat_list, cat_list, Hta.out, Htb.out]
                  simp
                case measure => simp [intOf]; omega
              exact AllReadyH.nil
            exact AllReadyH.nil
          refine AllReadyH.cons (o := { dst := some 48, op := Go.Op.call { callee := Go.Callee.value (Go.Operand.func 92), args := #[Go.Operand.tmp 47], argTypes := #[3] }, type := 9, pos := "l04_graph.go:107", after := #[{ on := 23, ground := Go.Ground.data }, { on := 7, ground := Go.Ground.chain }], guard := none }) rfl (fun K hK => ?_) ?_
          · go_simp
            go_wp2_with (go_at_call 92; refine (l01Var_let x2 _ (by omega) (by omega)).mono ?_; rintro e wq2 ⟨tb, rfl, Htb, C2⟩)
            have HB2 : Hid (Below wr.heap.size wr wq2) := (HB1.out).trans (C2.out.mono (HB1.out).size)
            have hk2 := HKS.out _ HB2.out
            have hztb : tb.size ≤ 10 := by have := size_of_list Htb.out; have := vb_le x2; omega
            have hzv : ¬ 9223372036854775807 < t.size + ta.size + 1 + tb.size := by omega
            refine hK.out _ _ hk2 (fun hHeld => ?_)
            clear hK K
            try simp only [Act.put, List.setIfInBounds_toArray, List.set_cons_zero, List.set_cons_succ]
            refine wpAnyH_ready (rs := [15]) (by kernel_rfl) (by simp) ?_
            refine AllReadyH.cons (o := { dst := some 39, op := Go.Op.buildSlice 22 1 #[(0, Go.Operand.tmp 38)], type := 22, pos := "l04_graph.go:107", after := #[{ on := 14, ground := Go.Ground.data }], guard := none }) rfl (fun K hK => ?_) ?_
            · go_simp
              have HB3 : Hid (Below wr.heap.size wr (wq2.alloc (.cells #[.int .u8 (c.toNat : Int)] 5))) := (HB2.out).alloc (HB2.out).size _
              have hk3 := HKS.out _ HB3.out
              have pc3 : (wq2.alloc (.cells #[.int .u8 (c.toNat : Int)] 5)).cell? ⟨wq2.heap.size, 0, none⟩ = some (.int .u8 (c.toNat : Int)) := (blk_one wq2 _ rfl _ _).cell (i := 0) (by omega)
              refine hK.out _ _ hk3 (fun hHeld => ?_)
              clear hK K
              try simp only [Act.put, List.setIfInBounds_toArray, List.set_cons_zero, List.set_cons_succ]
              refine wpAnyH_ready (rs := [16]) (by kernel_rfl) (by simp) ?_
              refine AllReadyH.cons (o := { dst := some 40, op := Go.Op.convert 22 9 (Go.Operand.tmp 39), type := 9, pos := "l04_graph.go:107", after := #[{ on := 15, ground := Go.Ground.data }], guard := none }) rfl (fun K hK => ?_) ?_
              · have hcv4 := conv_cell pc3
                go_simp
                refine hK.out _ _ hk3 (fun hHeld => ?_)
                clear hK K
                try simp only [Act.put, List.setIfInBounds_toArray, List.set_cons_zero, List.set_cons_succ]
                refine wpAnyH_take (i := 17) (oi := { dst := some 41, op := Go.Op.binOp Go.BinOp.add 9 (Go.Operand.tmp 32) (Go.Operand.tmp 40) 9, type := 9, pos := "l04_graph.go:107", after := #[{ on := 8, ground := Go.Ground.data }, { on := 16, ground := Go.Ground.data }], guard := none }) (v := ?_) rfl (by kernel_rfl) (by kernel_rfl) (by kernel_rfl) (fun _ _ _ h => h) (Or.inl ⟨by kernel_rfl, ?_⟩) (by assumption) ?_
                rotate_left
                · intro w hSw; (try dsimp only at hSw); go_simp; try with_reducible rfl
                simp only [Act.put, List.setIfInBounds_toArray, List.set_cons_zero, List.set_cons_succ]
                refine wpAnyH_take (i := 25) (oi := { dst := some 49, op := Go.Op.binOp Go.BinOp.add 9 (Go.Operand.tmp 41) (Go.Operand.tmp 48) 9, type := 9, pos := "l04_graph.go:107", after := #[{ on := 17, ground := Go.Ground.data }, { on := 24, ground := Go.Ground.data }], guard := none }) (v := ?_) rfl (by kernel_rfl) (by kernel_rfl) (by kernel_rfl) (fun _ _ _ h => h) (Or.inl ⟨by kernel_rfl, ?_⟩) (by assumption) ?_
                rotate_left
                · intro w hSw; (try dsimp only at hSw); go_simp; try with_reducible rfl
                simp only [Act.put, List.setIfInBounds_toArray, List.set_cons_zero, List.set_cons_succ]
                refine wpAnyH_take (i := 26) (oi := { dst := some 4, op := Go.Op.assign (Go.Operand.tmp 49), type := 9, pos := "l04_graph.go:107", after := #[{ on := 25, ground := Go.Ground.data }, { on := 24, ground := Go.Ground.chain }, { on := 0, ground := Go.Ground.phase }, { on := 1, ground := Go.Ground.phase }, { on := 2, ground := Go.Ground.phase }, { on := 3, ground := Go.Ground.phase }, { on := 4, ground := Go.Ground.phase }, { on := 5, ground := Go.Ground.phase }, { on := 6, ground := Go.Ground.phase }, { on := 7, ground := Go.Ground.phase }, { on := 8, ground := Go.Ground.phase }, { on := 9, ground := Go.Ground.phase }, { on := 10, ground := Go.Ground.phase }, { on := 11, ground := Go.Ground.phase }, { on := 12, ground := Go.Ground.phase }, { on := 13, ground := Go.Ground.phase }, { on := 14, ground := Go.Ground.phase }, { on := 15, ground := Go.Ground.phase }, { on := 16, ground := Go.Ground.phase }, { on := 17, ground := Go.Ground.phase }, { on := 18, ground := Go.Ground.phase }, { on := 19, ground := Go.Ground.phase }, { on := 20, ground := Go.Ground.phase }, { on := 21, ground := Go.Ground.phase }, { on := 22, ground := Go.Ground.phase }, { on := 23, ground := Go.Ground.phase }, { on := 24, ground := Go.Ground.phase }, { on := 25, ground := Go.Ground.phase }], guard := none }) (v := ?_) rfl (by kernel_rfl) (by kernel_rfl) (by kernel_rfl) (fun _ _ _ h => h) (Or.inl ⟨by kernel_rfl, ?_⟩) (by assumption) ?_
                rotate_left
                · intro w hSw; (try dsimp only at hSw); go_simp; try with_reducible rfl
                simp only [Act.put, List.setIfInBounds_toArray, List.set_cons_zero, List.set_cons_succ]
                refine wpAnyH_done (by kernel_rfl) ?_ _
                clear hHeld
                go_wp2
                go_roundw
                case rel =>
                  refine ⟨k + 1, _, by go_num, rfl, by omega, ?_, HL.out.trans ((HB3.out).mono HL.out.size), HK.out.of_block ((HB3.out).block _ HK.out.lt)⟩
                  show _ = _
                  rw [gtxtTo_step (by rw [HN.out]; exact hlt), ← HXX.out, ← HTX.out]
                  unfold edgeTxt
                  rw [HC.out, cat_list, cat_list, cat_list, Hta.out, Htb.out]
                  simp
                case measure => simp [intOf]; omega
              exact AllReadyH.nil
            exact AllReadyH.nil
          exact AllReadyH.nil
        refine AllReadyH.cons (o := { dst := some 39, op := Go.Op.buildSlice 22 1 #[(0, Go.Operand.tmp 38)], type := 22, pos := "l04_graph.go:107", after := #[{ on := 14, ground := Go.Ground.data }], guard := none }) rfl (fun K hK => ?_) ?_
        · go_simp
          have HB1 : Hid (Below wr.heap.size wr (wr.alloc (.cells #[.int .u8 (c.toNat : Int)] 5)).drew) := ((Below.refl wr.heap.size wr).drew).alloc ((Below.refl wr.heap.size wr).drew).size _
          have hk1 := HKS.out _ HB1.out
          have pc1 : (wr.alloc (.cells #[.int .u8 (c.toNat : Int)] 5)).drew.cell? ⟨wr.heap.size, 0, none⟩ = some (.int .u8 (c.toNat : Int)) := (blk_one wr _ rfl _ _).cell (i := 0) (by omega)
          refine hK.out _ _ hk1 (fun hHeld => ?_)
          clear hK K
          try simp only [Act.put, List.setIfInBounds_toArray, List.set_cons_zero, List.set_cons_succ]
          refine wpAnyH_ready (rs := [7, 16]) (by kernel_rfl) (by simp) ?_
          refine AllReadyH.cons (o := { dst := some 31, op := Go.Op.call { callee := Go.Callee.value (Go.Operand.func 92), args := #[Go.Operand.tmp 30], argTypes := #[3] }, type := 9, pos := "l04_graph.go:107", after := #[{ on := 6, ground := Go.Ground.data }], guard := none }) rfl (fun K hK => ?_) ?_
          · go_simp
            go_wp2_with (go_at_call 92; refine (l01Var_let x0 _ (by omega) (by omega)).mono ?_; rintro e wq2 ⟨ta, rfl, Hta, C2⟩)
            have HB2 : Hid (Below wr.heap.size wr wq2) := (HB1.out).trans (C2.out.mono (HB1.out).size)
            have hk2 := HKS.out _ HB2.out
            have hzta : ta.size ≤ 10 := by have := size_of_list Hta.out; have := vb_le x0; omega
            have pc2 : wq2.cell? ⟨wr.heap.size, 0, none⟩ = some (.int .u8 (c.toNat : Int)) := cell_below pc1 C2.out (lt_of_cell pc1)
            have hzt : ¬ 9223372036854775807 < t.size + ta.size := by omega
            have hzu : ¬ 9223372036854775807 < t.size + ta.size + 1 := by omega
            refine hK.out _ _ hk2 (fun hHeld => ?_)
            clear hK K
            try simp only [Act.put, List.setIfInBounds_toArray, List.set_cons_zero, List.set_cons_succ]
            refine wpAnyH_take (i := 8) (oi := { dst := some 32, op := Go.Op.binOp Go.BinOp.add 9 (Go.Operand.tmp 24) (Go.Operand.tmp 31) 9, type := 9, pos := "l04_graph.go:107", after := #[{ on := 0, ground := Go.Ground.data }, { on := 7, ground := Go.Ground.data }], guard := none }) (v := ?_) rfl (by kernel_rfl) (by kernel_rfl) (by kernel_rfl) (fun _ _ _ h => h) (Or.inl ⟨by kernel_rfl, ?_⟩) (by assumption) ?_
            rotate_left
            · intro w hSw; (try dsimp only at hSw); go_simp; try with_reducible rfl
            simp only [Act.put, List.setIfInBounds_toArray, List.set_cons_zero, List.set_cons_succ]
            refine wpAnyH_ready (rs := [16, 24]) (by kernel_rfl) (by simp) ?_
            refine AllReadyH.cons (o := { dst := some 40, op := Go.Op.convert 22 9 (Go.Operand.tmp 39), type := 9, pos := "l04_graph.go:107", after := #[{ on := 15, ground := Go.Ground.data }], guard := none }) rfl (fun K hK => ?_) ?_
            · have hcv3 := conv_cell pc2
              go_simp
              refine hK.out _ _ hk2 (fun hHeld => ?_)
              clear hK K
              try simp only [Act.put, List.setIfInBounds_toArray, List.set_cons_zero, List.set_cons_succ]
              refine wpAnyH_take (i := 17) (oi := { dst := some 41, op := Go.Op.binOp Go.BinOp.add 9 (Go.Operand.tmp 32) (Go.Operand.tmp 40) 9, type := 9, pos := "l04_graph.go:107", after := #[{ on := 8, ground := Go.Ground.data }, { on := 16, ground := Go.Ground.data }], guard := none }) (v := ?_) rfl (by kernel_rfl) (by kernel_rfl) (by kernel_rfl) (fun _ _ _ h => h) (Or.inl ⟨by kernel_rfl, ?_⟩) (by assumption) ?_
              rotate_left
              · intro w hSw; (try dsimp only at hSw); go_simp; try with_reducible rfl
              simp only [Act.put, List.setIfInBounds_toArray, List.set_cons_zero, List.set_cons_succ]
              refine wpAnyH_ready (rs := [24]) (by kernel_rfl) (by simp) ?_
              refine AllReadyH.cons (o := { dst := some 48, op := Go.Op.call { callee := Go.Callee.value (Go.Operand.func 92), args := #[Go.Operand.tmp 47], argTypes := #[3] }, type := 9, pos := "l04_graph.go:107", after := #[{ on := 23, ground := Go.Ground.data }, { on := 7, ground := Go.Ground.chain }], guard := none }) rfl (fun K hK => ?_) ?_
              · go_simp
                go_wp2_with (go_at_call 92; refine (l01Var_let x2 _ (by omega) (by omega)).mono ?_; rintro e wq3 ⟨tb, rfl, Htb, C3⟩)
                have HB3 : Hid (Below wr.heap.size wr wq3) := (HB2.out).trans (C3.out.mono (HB2.out).size)
                have hk3 := HKS.out _ HB3.out
                have hztb : tb.size ≤ 10 := by have := size_of_list Htb.out; have := vb_le x2; omega
                have hzv : ¬ 9223372036854775807 < t.size + ta.size + 1 + tb.size := by omega
                refine hK.out _ _ hk3 (fun hHeld => ?_)
                clear hK K
                try simp only [Act.put, List.setIfInBounds_toArray, List.set_cons_zero, List.set_cons_succ]
                refine wpAnyH_take (i := 25) (oi := { dst := some 49, op := Go.Op.binOp Go.BinOp.add 9 (Go.Operand.tmp 41) (Go.Operand.tmp 48) 9, type := 9, pos := "l04_graph.go:107", after := #[{ on := 17, ground := Go.Ground.data }, { on := 24, ground := Go.Ground.data }], guard := none }) (v := ?_) rfl (by kernel_rfl) (by kernel_rfl) (by kernel_rfl) (fun _ _ _ h => h) (Or.inl ⟨by kernel_rfl, ?_⟩) (by assumption) ?_
                rotate_left
                · intro w hSw; (try dsimp only at hSw); go_simp; try with_reducible rfl
                simp only [Act.put, List.setIfInBounds_toArray, List.set_cons_zero, List.set_cons_succ]
                refine wpAnyH_take (i := 26) (oi := { dst := some 4, op := Go.Op.assign (Go.Operand.tmp 49), type := 9, pos := "l04_graph.go:107", after := #[{ on := 25, ground := Go.Ground.data }, { on := 24, ground := Go.Ground.chain }, { on := 0, ground := Go.Ground.phase }, { on := 1, ground := Go.Ground.phase }, { on := 2, ground := Go.Ground.phase }, { on := 3, ground := Go.Ground.phase }, { on := 4, ground := Go.Ground.phase }, { on := 5, ground := Go.Ground.phase }, { on := 6, ground := Go.Ground.phase }, { on := 7, ground := Go.Ground.phase }, { on := 8, ground := Go.Ground.phase }, { on := 9, ground := Go.Ground.phase }, { on := 10, ground := Go.Ground.phase }, { on := 11, ground := Go.Ground.phase }, { on := 12, ground := Go.Ground.phase }, { on := 13, ground := Go.Ground.phase }, { on := 14, ground := Go.Ground.phase }, { on := 15, ground := Go.Ground.phase }, { on := 16, ground := Go.Ground.phase }, { on := 17, ground := Go.Ground.phase }, { on := 18, ground := Go.Ground.phase }, { on := 19, ground := Go.Ground.phase }, { on := 20, ground := Go.Ground.phase }, { on := 21, ground := Go.Ground.phase }, { on := 22, ground := Go.Ground.phase }, { on := 23, ground := Go.Ground.phase }, { on := 24, ground := Go.Ground.phase }, { on := 25, ground := Go.Ground.phase }], guard := none }) (v := ?_) rfl (by kernel_rfl) (by kernel_rfl) (by kernel_rfl) (fun _ _ _ h => h) (Or.inl ⟨by kernel_rfl, ?_⟩) (by assumption) ?_
                rotate_left
                · intro w hSw; (try dsimp only at hSw); go_simp; try with_reducible rfl
                simp only [Act.put, List.setIfInBounds_toArray, List.set_cons_zero, List.set_cons_succ]
                refine wpAnyH_done (by kernel_rfl) ?_ _
                clear hHeld
                go_wp2
                go_roundw
                case rel =>
                  refine ⟨k + 1, _, by go_num, rfl, by omega, ?_, HL.out.trans ((HB3.out).mono HL.out.size), HK.out.of_block ((HB3.out).block _ HK.out.lt)⟩
                  show _ = _
                  rw [gtxtTo_step (by rw [HN.out]; exact hlt), ← HXX.out, ← HTX.out]
                  unfold edgeTxt
                  rw [HC.out, cat_list, cat_list, cat_list, Hta.out, Htb.out]
                  simp
                case measure => simp [intOf]; omega
              exact AllReadyH.nil
            refine AllReadyH.cons (o := { dst := some 48, op := Go.Op.call { callee := Go.Callee.value (Go.Operand.func 92), args := #[Go.Operand.tmp 47], argTypes := #[3] }, type := 9, pos := "l04_graph.go:107", after := #[{ on := 23, ground := Go.Ground.data }, { on := 7, ground := Go.Ground.chain }], guard := none }) rfl (fun K hK => ?_) ?_
            · go_simp
              go_wp2_with (go_at_call 92; refine (l01Var_let x2 _ (by omega) (by omega)).mono ?_; rintro e wq3 ⟨tb, rfl, Htb, C3⟩)
              have HB3 : Hid (Below wr.heap.size wr wq3) := (HB2.out).trans (C3.out.mono (HB2.out).size)
              have hk3 := HKS.out _ HB3.out
              have hztb : tb.size ≤ 10 := by have := size_of_list Htb.out; have := vb_le x2; omega
              have pc3 : wq3.cell? ⟨wr.heap.size, 0, none⟩ = some (.int .u8 (c.toNat : Int)) := cell_below pc2 C3.out (lt_of_cell pc2)
              have hzv : ¬ 9223372036854775807 < t.size + ta.size + 1 + tb.size := by omega
              refine hK.out _ _ hk3 (fun hHeld => ?_)
              clear hK K
              try simp only [Act.put, List.setIfInBounds_toArray, List.set_cons_zero, List.set_cons_succ]
              refine wpAnyH_ready (rs := [16]) (by kernel_rfl) (by simp) ?_
              refine AllReadyH.cons (o := { dst := some 40, op := Go.Op.convert 22 9 (Go.Operand.tmp 39), type := 9, pos := "l04_graph.go:107", after := #[{ on := 15, ground := Go.Ground.data }], guard := none }) rfl (fun K hK => ?_) ?_
              · have hcv4 := conv_cell pc3
                go_simp
                refine hK.out _ _ hk3 (fun hHeld => ?_)
                clear hK K
                try simp only [Act.put, List.setIfInBounds_toArray, List.set_cons_zero, List.set_cons_succ]
                refine wpAnyH_take (i := 17) (oi := { dst := some 41, op := Go.Op.binOp Go.BinOp.add 9 (Go.Operand.tmp 32) (Go.Operand.tmp 40) 9, type := 9, pos := "l04_graph.go:107", after := #[{ on := 8, ground := Go.Ground.data }, { on := 16, ground := Go.Ground.data }], guard := none }) (v := ?_) rfl (by kernel_rfl) (by kernel_rfl) (by kernel_rfl) (fun _ _ _ h => h) (Or.inl ⟨by kernel_rfl, ?_⟩) (by assumption) ?_
                rotate_left
                · intro w hSw; (try dsimp only at hSw); go_simp; try with_reducible rfl
                simp only [Act.put, List.setIfInBounds_toArray, List.set_cons_zero, List.set_cons_succ]
                refine wpAnyH_take (i := 25) (oi := { dst := some 49, op := Go.Op.binOp Go.BinOp.add 9 (Go.Operand.tmp 41) (Go.Operand.tmp 48) 9, type := 9, pos := "l04_graph.go:107", after := #[{ on := 17, ground := Go.Ground.data }, { on := 24, ground := Go.Ground.data }], guard := none }) (v := ?_) rfl (by kernel_rfl) (by kernel_rfl) (by kernel_rfl) (fun _ _ _ h => h) (Or.inl ⟨by kernel_rfl, ?_⟩) (by assumption) ?_
                rotate_left
                · intro w hSw; (try dsimp only at hSw); go_simp; try with_reducible rfl
                simp only [Act.put, List.setIfInBounds_toArray, List.set_cons_zero, List.set_cons_succ]
                refine wpAnyH_take (i := 26) (oi := { dst := some 4, op := Go.Op.assign (Go.Operand.tmp 49), type := 9, pos := "l04_graph.go:107", after := #[{ on := 25, ground := Go.Ground.data }, { on := 24, ground := Go.Ground.chain }, { on := 0, ground := Go.Ground.phase }, { on := 1, ground := Go.Ground.phase }, { on := 2, ground := Go.Ground.phase }, { on := 3, ground := Go.Ground.phase }, { on := 4, ground := Go.Ground.phase }, { on := 5, ground := Go.Ground.phase }, { on := 6, ground := Go.Ground.phase }, { on := 7, ground := Go.Ground.phase }, { on := 8, ground := Go.Ground.phase }, { on := 9, ground := Go.Ground.phase }, { on := 10, ground := Go.Ground.phase }, { on := 11, ground := Go.Ground.phase }, { on := 12, ground := Go.Ground.phase }, { on := 13, ground := Go.Ground.phase }, { on := 14, ground := Go.Ground.phase }, { on := 15, ground := Go.Ground.phase }, { on := 16, ground := Go.Ground.phase }, { on := 17, ground := Go.Ground.phase }, { on := 18, ground := Go.Ground.phase }, { on := 19, ground := Go.Ground.phase }, { on := 20, ground := Go.Ground.phase }, { on := 21, ground := Go.Ground.phase }, { on := 22, ground := Go.Ground.phase }, { on := 23, ground := Go.Ground.phase }, { on := 24, ground := Go.Ground.phase }, { on := 25, ground := Go.Ground.phase }], guard := none }) (v := ?_) rfl (by kernel_rfl) (by kernel_rfl) (by kernel_rfl) (fun _ _ _ h => h) (Or.inl ⟨by kernel_rfl, ?_⟩) (by assumption) ?_
                rotate_left
                · intro w hSw; (try dsimp only at hSw); go_simp; try with_reducible rfl
                simp only [Act.put, List.setIfInBounds_toArray, List.set_cons_zero, List.set_cons_succ]
                refine wpAnyH_done (by kernel_rfl) ?_ _
                clear hHeld
                go_wp2
                go_roundw
                case rel =>
                  refine ⟨k + 1, _, by go_num, rfl, by omega, ?_, HL.out.trans ((HB3.out).mono HL.out.size), HK.out.of_block ((HB3.out).block _ HK.out.lt)⟩
                  show _ = _
                  rw [gtxtTo_step (by rw [HN.out]; exact hlt), ← HXX.out, ← HTX.out]
                  unfold edgeTxt
                  rw [HC.out, cat_list, cat_list, cat_list, Hta.out, Htb.out]
                  simp
                case measure => simp [intOf]; omega
              exact AllReadyH.nil
            exact AllReadyH.nil
          refine AllReadyH.cons (o := { dst := some 40, op := Go.Op.convert 22 9 (Go.Operand.tmp 39), type := 9, pos := "l04_graph.go:107", after := #[{ on := 15, ground := Go.Ground.data }], guard := none }) rfl (fun K hK => ?_) ?_
          · have hcv2 := conv_cell pc1
            go_simp
            refine hK.out _ _ hk1 (fun hHeld => ?_)
            clear hK K
            try simp only [Act.put, List.setIfInBounds_toArray, List.set_cons_zero, List.set_cons_succ]
            refine wpAnyH_ready (rs := [7]) (by kernel_rfl) (by simp) ?_
            refine AllReadyH.cons (o := { dst := some 31, op := Go.Op.call { callee := Go.Callee.value (Go.Operand.func 92), args := #[Go.Operand.tmp 30], argTypes := #[3] }, type := 9, pos := "l04_graph.go:107", after := #[{ on := 6, ground := Go.Ground.data }], guard := none }) rfl (fun K hK => ?_) ?_
            · go_simp
              go_wp2_with (go_at_call 92; refine (l01Var_let x0 _ (by omega) (by omega)).mono ?_; rintro e wq2 ⟨ta, rfl, Hta, C2⟩)
              have HB2 : Hid (Below wr.heap.size wr wq2) := (HB1.out).trans (C2.out.mono (HB1.out).size)
              have hk2 := HKS.out _ HB2.out
              have hzta : ta.size ≤ 10 := by have := size_of_list Hta.out; have := vb_le x0; omega
              have hzt : ¬ 9223372036854775807 < t.size + ta.size := by omega
              have hzu : ¬ 9223372036854775807 < t.size + ta.size + 1 := by omega
              refine hK.out _ _ hk2 (fun hHeld => ?_)
              clear hK K
              try simp only [Act.put, List.setIfInBounds_toArray, List.set_cons_zero, List.set_cons_succ]
              refine wpAnyH_take (i := 8) (oi := { dst := some 32, op := Go.Op.binOp Go.BinOp.add 9 (Go.Operand.tmp 24) (Go.Operand.tmp 31) 9, type := 9, pos := "l04_graph.go:107", after := #[{ on := 0, ground := Go.Ground.data }, { on := 7, ground := Go.Ground.data }], guard := none }) (v := ?_) rfl (by kernel_rfl) (by kernel_rfl) (by kernel_rfl) (fun _ _ _ h => h) (Or.inl ⟨by kernel_rfl, ?_⟩) (by assumption) ?_
              rotate_left
              · intro w hSw; (try dsimp only at hSw); go_simp; try with_reducible rfl
              simp only [Act.put, List.setIfInBounds_toArray, List.set_cons_zero, List.set_cons_succ]
              refine wpAnyH_take (i := 17) (oi := { dst := some 41, op := Go.Op.binOp Go.BinOp.add 9 (Go.Operand.tmp 32) (Go.Operand.tmp 40) 9, type := 9, pos := "l04_graph.go:107", after := #[{ on := 8, ground := Go.Ground.data }, { on := 16, ground := Go.Ground.data }], guard := none }) (v := ?_) rfl (by kernel_rfl) (by kernel_rfl) (by kernel_rfl) (fun _ _ _ h => h) (Or.inl ⟨by kernel_rfl, ?_⟩) (by assumption) ?_
              rotate_left
              · intro w hSw; (try dsimp only at hSw); go_simp; try with_reducible rfl
              simp only [Act.put, List.setIfInBounds_toArray, List.set_cons_zero, List.set_cons_succ]
              refine wpAnyH_ready (rs := [24]) (by kernel_rfl) (by simp) ?_
              refine AllReadyH.cons (o := { dst := some 48, op := Go.Op.call { callee := Go.Callee.value (Go.Operand.func 92), args := #[Go.Operand.tmp 47], argTypes := #[3] }, type := 9, pos := "l04_graph.go:107", after := #[{ on := 23, ground := Go.Ground.data }, { on := 7, ground := Go.Ground.chain }], guard := none }) rfl (fun K hK => ?_) ?_
              · go_simp
                go_wp2_with (go_at_call 92; refine (l01Var_let x2 _ (by omega) (by omega)).mono ?_; rintro e wq3 ⟨tb, rfl, Htb, C3⟩)
                have HB3 : Hid (Below wr.heap.size wr wq3) := (HB2.out).trans (C3.out.mono (HB2.out).size)
                have hk3 := HKS.out _ HB3.out
                have hztb : tb.size ≤ 10 := by have := size_of_list Htb.out; have := vb_le x2; omega
                have hzv : ¬ 9223372036854775807 < t.size + ta.size + 1 + tb.size := by omega
                refine hK.out _ _ hk3 (fun hHeld => ?_)
                clear hK K
                try simp only [Act.put, List.setIfInBounds_toArray, List.set_cons_zero, List.set_cons_succ]
                refine wpAnyH_take (i := 25) (oi := { dst := some 49, op := Go.Op.binOp Go.BinOp.add 9 (Go.Operand.tmp 41) (Go.Operand.tmp 48) 9, type := 9, pos := "l04_graph.go:107", after := #[{ on := 17, ground := Go.Ground.data }, { on := 24, ground := Go.Ground.data }], guard := none }) (v := ?_) rfl (by kernel_rfl) (by kernel_rfl) (by kernel_rfl) (fun _ _ _ h => h) (Or.inl ⟨by kernel_rfl, ?_⟩) (by assumption) ?_
                rotate_left
                · intro w hSw; (try dsimp only at hSw); go_simp; try with_reducible rfl
                simp only [Act.put, List.setIfInBounds_toArray, List.set_cons_zero, List.set_cons_succ]
                refine wpAnyH_take (i := 26) (oi := { dst := some 4, op := Go.Op.assign (Go.Operand.tmp 49), type := 9, pos := "l04_graph.go:107", after := #[{ on := 25, ground := Go.Ground.data }, { on := 24, ground := Go.Ground.chain }, { on := 0, ground := Go.Ground.phase }, { on := 1, ground := Go.Ground.phase }, { on := 2, ground := Go.Ground.phase }, { on := 3, ground := Go.Ground.phase }, { on := 4, ground := Go.Ground.phase }, { on := 5, ground := Go.Ground.phase }, { on := 6, ground := Go.Ground.phase }, { on := 7, ground := Go.Ground.phase }, { on := 8, ground := Go.Ground.phase }, { on := 9, ground := Go.Ground.phase }, { on := 10, ground := Go.Ground.phase }, { on := 11, ground := Go.Ground.phase }, { on := 12, ground := Go.Ground.phase }, { on := 13, ground := Go.Ground.phase }, { on := 14, ground := Go.Ground.phase }, { on := 15, ground := Go.Ground.phase }, { on := 16, ground := Go.Ground.phase }, { on := 17, ground := Go.Ground.phase }, { on := 18, ground := Go.Ground.phase }, { on := 19, ground := Go.Ground.phase }, { on := 20, ground := Go.Ground.phase }, { on := 21, ground := Go.Ground.phase }, { on := 22, ground := Go.Ground.phase }, { on := 23, ground := Go.Ground.phase }, { on := 24, ground := Go.Ground.phase }, { on := 25, ground := Go.Ground.phase }], guard := none }) (v := ?_) rfl (by kernel_rfl) (by kernel_rfl) (by kernel_rfl) (fun _ _ _ h => h) (Or.inl ⟨by kernel_rfl, ?_⟩) (by assumption) ?_
                rotate_left
                · intro w hSw; (try dsimp only at hSw); go_simp; try with_reducible rfl
                simp only [Act.put, List.setIfInBounds_toArray, List.set_cons_zero, List.set_cons_succ]
                refine wpAnyH_done (by kernel_rfl) ?_ _
                clear hHeld
                go_wp2
                go_roundw
                case rel =>
                  refine ⟨k + 1, _, by go_num, rfl, by omega, ?_, HL.out.trans ((HB3.out).mono HL.out.size), HK.out.of_block ((HB3.out).block _ HK.out.lt)⟩
                  show _ = _
                  rw [gtxtTo_step (by rw [HN.out]; exact hlt), ← HXX.out, ← HTX.out]
                  unfold edgeTxt
                  rw [HC.out, cat_list, cat_list, cat_list, Hta.out, Htb.out]
                  simp
                case measure => simp [intOf]; omega
              exact AllReadyH.nil
            exact AllReadyH.nil
          exact AllReadyH.nil
        exact AllReadyH.nil
      · obtain rfl : k = n := by omega
        go_wp2
        go_ret2
        refine ⟨t, true, rfl, ⟨HO.out.symm, ?_⟩, HL⟩
        unfold gtxtOf
        rw [if_pos HO.out, HN.out, ← HTX.out]
  · subst hs
    go_wp2
    go_ret2
    refine ⟨_, false, rfl, ⟨HS.out, ?_⟩, HB1.out⟩
    unfold gtxtOf
    rw [← HS.out]; rfl
end Go.Proofs.Ytelikebpddhncaa

/-
  A drawn text of a graph: l02Spoilt, DrawReadGraph.
-/
namespace Go.Proofs.Ytelikebpddhncaa
open Go.RowKit

theorem text_curL (w : World) (p n cap : Nat) (ao : Option Addr) (m : Nat) (hm : m ≤ 5000) (hc : CurL p ao n cap w) :
    Calls Try.prog 99 #[.pointer (some ⟨p, 0, none⟩), .int .i64 (m : Int)] w fun e w' => ∃ t : ByteArray, e = .returned (.string t) ∧ t.size = m ∧ Hid (CurL p ao n cap w') ∧ Hid (KeptBut p w w') :=
  (text_cur w p n cap ao m hm hc.1).mono fun _ _ ⟨t, h1, h2, h3, h4⟩ => ⟨t, h1, h2, ⟨h3, hc.2⟩, h4⟩
theorem ext_le (s : ByteArray) (i j : Nat) : (s.extract i j).size ≤ j - i := by rw [ByteArray.size_extract]; omega
theorem ext_le2 (s : ByteArray) (i : Nat) (h : i < s.size) : (s.extract (i + 1) s.size).size + i + 1 ≤ s.size := by rw [ByteArray.size_extract]; omega

set_option maxHeartbeats 4000000 in
set_option maxRecDepth 100000 in
theorem spoilt_any (w : World) (p n cap : Nat) (ao : Option Addr) (s : ByteArray) (hs : s.size ≤ 1000000) (hc : CurL p ao n cap w) :
    Calls Try.prog 63 #[.pointer (some ⟨p, 0, none⟩), .string s] w fun e w' => ∃ t : ByteArray, e = .returned (.string t) ∧ Hid (t.size ≤ s.size + 1) ∧ Hid (CurL p ao n cap w') ∧ Hid (KeptBut p w w') := by
  have HC : Hid (CurL p ao n cap w) := hc
  clear hc
  go_enter Try.func63, Try.ntmps63
  go_wp2_with fail
  refine (HC.out.draw 12 (by omega) (by omega)).mono ?_
  rintro e w1 ⟨k, rfl, hk0, hk1, HC1, HK1⟩
  clear HC
  by_cases e0 : k = 0
  · subst e0
    go_wp2_with fail
    refine (text_curL w1 p n cap ao 1 (by omega) HC1.out).mono ?_
    rintro e w2 ⟨t, rfl, ht, HC2, HK2⟩
    have hcat : ¬ 9223372036854775807 < s.size + t.size := by omega
    go_wp2
    go_ret
    exact ⟨_, rfl, by show _ ≤ _; rw [ByteArray.size_append]; omega, HC2, HK1.out.trans HK2.out⟩
  · by_cases e1 : k = 1
    · subst e1
      go_wp2_with fail
      refine (HC1.out.draw _ (by omega) (by omega)).mono ?_
      rintro e w2 ⟨y, rfl, hy0, hy1, HC2, HK2⟩
      obtain ⟨i, rfl⟩ := Int.eq_ofNat_of_zero_le hy0
      have hi : (i : Int) ≤ (s.size : Int) := by omega
      have hin : i ≤ s.size := by omega
      go_wp2
      go_ret
      exact ⟨_, rfl, by show _ ≤ _; first | (have := ext_le s 0 i; omega) | (rw [ByteArray.size_extract]; omega), HC2, HK1.out.trans HK2.out⟩
    · by_cases e2 : k = 2 ∨ k = 3
      · by_cases h0 : s.size = 0
        · have h0' : ¬ (0 : Int) < (s.size : Int) := by omega
          rcases e2 with rfl | rfl
          · go_wp2
            go_ret
            exact ⟨s, rfl, Nat.le_succ _, HC1, HK1⟩
          · go_wp2
            go_ret
            exact ⟨s, rfl, Nat.le_succ _, HC1, HK1⟩
        · have h0' : (0 : Int) < (s.size : Int) := by omega
          rcases e2 with rfl | rfl
          · go_wp2_with fail
            refine (HC1.out.draw _ (by omega) (by omega)).mono ?_
            rintro e w2 ⟨y, rfl, hy0, hy1, HC2, HK2⟩
            obtain ⟨i, rfl⟩ := Int.eq_ofNat_of_zero_le hy0
            have HKK2 : Hid (KeptBut p w w2) := HK1.out.trans HK2.out
            have hi : (i : Int) ≤ (s.size : Int) := by omega
            have hi1 : (i : Int) + 1 ≤ (s.size : Int) := by omega
            have hin : i ≤ s.size := by omega
            have hw1 : ((i : Int) + 1).toNat = i + 1 := by omega
            have hw2 : IntKind.i64.wrap ((i : Int) + 1) = (i : Int) + 1 := by rw [IntKind.wrap_i64]; omega
            have hw3 : (0 : Int) ≤ (i : Int) + 1 := by omega
            have hw4 : ¬ 9223372036854775807 < i + 1 := by omega
            have hw5 : ¬ 9223372036854775807 < i + 1 + (s.size - (i + 1)) := by omega
            clear HC1 HK1 HK2
            go_wp2_with fail
            refine wp_region_held_drew (S := fun _ => True) (by kernel_rfl) trivial (fun hHeld => ?_)
            refine wpAnyH_take (i := 0) (oi := { dst := some 33, op := Go.Op.move (Go.Operand.tmp 1), type := 9, pos := "l02_sums.go:68", after := #[], guard := none }) (v := ?_) rfl (by kernel_rfl) (by kernel_rfl) (by kernel_rfl) (fun _ _ _ h => h) (Or.inl ⟨by kernel_rfl, ?_⟩) (by assumption) ?_
            rotate_left
            · intro w hSw; (try dsimp only at hSw); go_simp; try with_reducible rfl
            simp only [Act.put, List.setIfInBounds_toArray, List.set_cons_zero, List.set_cons_succ]
            refine wpAnyH_take (i := 1) (oi := { dst := some 34, op := Go.Op.move (Go.Operand.tmp 5), type := 3, pos := "l02_sums.go:68", after := #[], guard := none }) (v := ?_) rfl (by kernel_rfl) (by kernel_rfl) (by kernel_rfl) (fun _ _ _ h => h) (Or.inl ⟨by kernel_rfl, ?_⟩) (by assumption) ?_
            rotate_left
            · intro w hSw; (try dsimp only at hSw); go_simp; try with_reducible rfl
            simp only [Act.put, List.setIfInBounds_toArray, List.set_cons_zero, List.set_cons_succ]
            refine wpAnyH_take (i := 2) (oi := { dst := some 35, op := Go.Op.slice 9 (Go.Operand.tmp 33) none (some (Go.Operand.tmp 34)) none, type := 9, pos := "l02_sums.go:68", after := #[{ on := 0, ground := Go.Ground.data }, { on := 1, ground := Go.Ground.data }], guard := none }) (v := ?_) rfl (by kernel_rfl) (by kernel_rfl) (by kernel_rfl) (fun _ _ _ h => h) (Or.inl ⟨by kernel_rfl, ?_⟩) (by assumption) ?_
            rotate_left
            · intro w hSw; (try dsimp only at hSw); go_simp; try with_reducible rfl
            simp only [Act.put, List.setIfInBounds_toArray, List.set_cons_zero, List.set_cons_succ]
            refine wpAnyH_take (i := 3) (oi := { dst := some 36, op := Go.Op.move (Go.Operand.tmp 0), type := 83, pos := "l02_sums.go:68", after := #[], guard := none }) (v := ?_) rfl (by kernel_rfl) (by kernel_rfl) (by kernel_rfl) (fun _ _ _ h => h) (Or.inl ⟨by kernel_rfl, ?_⟩) (by assumption) ?_
            rotate_left
            · intro w hSw; (try dsimp only at hSw); go_simp; try with_reducible rfl
            simp only [Act.put, List.setIfInBounds_toArray, List.set_cons_zero, List.set_cons_succ]
            refine wpAnyH_take (i := 6) (oi := { dst := some 39, op := Go.Op.move (Go.Operand.tmp 1), type := 9, pos := "l02_sums.go:68", after := #[], guard := none }) (v := ?_) rfl (by kernel_rfl) (by kernel_rfl) (by kernel_rfl) (fun _ _ _ h => h) (Or.inl ⟨by kernel_rfl, ?_⟩) (by assumption) ?_
            rotate_left
            · intro w hSw; (try dsimp only at hSw); go_simp; try with_reducible rfl
            simp only [Act.put, List.setIfInBounds_toArray, List.set_cons_zero, List.set_cons_succ]
            refine wpAnyH_take (i := 7) (oi := { dst := some 40, op := Go.Op.move (Go.Operand.tmp 5), type := 3, pos := "l02_sums.go:68", after := #[], guard := none }) (v := ?_) rfl (by kernel_rfl) (by kernel_rfl) (by kernel_rfl) (fun _ _ _ h => h) (Or.inl ⟨by kernel_rfl, ?_⟩) (by assumption) ?_
            rotate_left
            · intro w hSw; (try dsimp only at hSw); go_simp; try with_reducible rfl
            simp only [Act.put, List.setIfInBounds_toArray, List.set_cons_zero, List.set_cons_succ]
            refine wpAnyH_take (i := 8) (oi := { dst := some 41, op := Go.Op.binOp Go.BinOp.add 3 (Go.Operand.tmp 40) (Go.Operand.const (Go.Value.int Go.IntKind.i64 1)) 3, type := 3, pos := "l02_sums.go:68", after := #[{ on := 7, ground := Go.Ground.data }], guard := none }) (v := ?_) rfl (by kernel_rfl) (by kernel_rfl) (by kernel_rfl) (fun _ _ _ h => h) (Or.inl ⟨by kernel_rfl, ?_⟩) (by assumption) ?_
            rotate_left
            · intro w hSw; (try dsimp only at hSw); go_simp; try with_reducible rfl
            simp only [Act.put, List.setIfInBounds_toArray, List.set_cons_zero, List.set_cons_succ]
            refine wpAnyH_take (i := 9) (oi := { dst := some 42, op := Go.Op.slice 9 (Go.Operand.tmp 39) (some (Go.Operand.tmp 41)) none none, type := 9, pos := "l02_sums.go:68", after := #[{ on := 6, ground := Go.Ground.data }, { on := 8, ground := Go.Ground.data }], guard := none }) (v := ?_) rfl (by kernel_rfl) (by kernel_rfl) (by kernel_rfl) (fun _ _ _ h => h) (Or.inl ⟨by kernel_rfl, ?_⟩) (by assumption) ?_
            rotate_left
            · intro w hSw; (try dsimp only at hSw); go_simp; try with_reducible rfl
            simp only [Act.put, List.setIfInBounds_toArray, List.set_cons_zero, List.set_cons_succ]
            refine wpAnyH_ready (rs := [4]) (by kernel_rfl) (by simp) ?_
            refine AllReadyH.cons (o := { dst := some 37, op := Go.Op.call { callee := Go.Callee.value (Go.Operand.func 99), args := #[Go.Operand.tmp 36, Go.Operand.const (Go.Value.int Go.IntKind.i64 1)], argTypes := #[83, 3] }, type := 9, pos := "l02_sums.go:68", after := #[{ on := 3, ground := Go.Ground.data }], guard := none }) rfl (fun K hK => ?_) ?_
            · go_simp
              go_wp2_with (go_at_call 99; refine (text_curL _ p n cap ao 1 (by omega) (HC2.out.below ((Below.refl _ _).drew) HC2.out.lt)).mono ?_; rintro e w3 ⟨t, rfl, ht, HC3, HK3⟩)
              have hcat1 : ¬ 9223372036854775807 < (s.extract 0 i).size + t.size := by have := ext_le s 0 i; omega
              have hcat2 : ¬ 9223372036854775807 < (s.extract 0 i ++ t).size + (s.extract (i + 1) s.size).size := by have := ext_le s 0 i; have := ext_le s (i + 1) s.size; rw [ByteArray.size_append]; omega
              refine hK.out _ _ trivial (fun hHeld => ?_)
              clear hK K
              try simp only [Act.put, List.setIfInBounds_toArray, List.set_cons_zero, List.set_cons_succ]
              refine wpAnyH_take (i := 5) (oi := { dst := some 38, op := Go.Op.binOp Go.BinOp.add 9 (Go.Operand.tmp 35) (Go.Operand.tmp 37) 9, type := 9, pos := "l02_sums.go:68", after := #[{ on := 2, ground := Go.Ground.data }, { on := 4, ground := Go.Ground.data }], guard := none }) (v := ?_) rfl (by kernel_rfl) (by kernel_rfl) (by kernel_rfl) (fun _ _ _ h => h) (Or.inl ⟨by kernel_rfl, ?_⟩) (by assumption) ?_
              rotate_left
              · intro w hSw; (try dsimp only at hSw); go_simp; try with_reducible rfl
              simp only [Act.put, List.setIfInBounds_toArray, List.set_cons_zero, List.set_cons_succ]
              refine wpAnyH_take (i := 10) (oi := { dst := some 43, op := Go.Op.binOp Go.BinOp.add 9 (Go.Operand.tmp 38) (Go.Operand.tmp 42) 9, type := 9, pos := "l02_sums.go:68", after := #[{ on := 5, ground := Go.Ground.data }, { on := 9, ground := Go.Ground.data }], guard := none }) (v := ?_) rfl (by kernel_rfl) (by kernel_rfl) (by kernel_rfl) (fun _ _ _ h => h) (Or.inl ⟨by kernel_rfl, ?_⟩) (by assumption) ?_
              rotate_left
              · intro w hSw; (try dsimp only at hSw); go_simp; try with_reducible rfl
              simp only [Act.put, List.setIfInBounds_toArray, List.set_cons_zero, List.set_cons_succ]
              refine wpAnyH_take (i := 11) (oi := { dst := some 4, op := Go.Op.assign (Go.Operand.tmp 43), type := 9, pos := "l02_sums.go:68", after := #[{ on := 10, ground := Go.Ground.data }, { on := 4, ground := Go.Ground.chain }, { on := 0, ground := Go.Ground.phase }, { on := 1, ground := Go.Ground.phase }, { on := 2, ground := Go.Ground.phase }, { on := 3, ground := Go.Ground.phase }, { on := 4, ground := Go.Ground.phase }, { on := 5, ground := Go.Ground.phase }, { on := 6, ground := Go.Ground.phase }, { on := 7, ground := Go.Ground.phase }, { on := 8, ground := Go.Ground.phase }, { on := 9, ground := Go.Ground.phase }, { on := 10, ground := Go.Ground.phase }], guard := none }) (v := ?_) rfl (by kernel_rfl) (by kernel_rfl) (by kernel_rfl) (fun _ _ _ h => h) (Or.inl ⟨by kernel_rfl, ?_⟩) (by assumption) ?_
              rotate_left
              · intro w hSw; (try dsimp only at hSw); go_simp; try with_reducible rfl
              simp only [Act.put, List.setIfInBounds_toArray, List.set_cons_zero, List.set_cons_succ]
              refine wpAnyH_done (by kernel_rfl) ?_ _
              clear hHeld
              go_wp2
              go_ret
              exact ⟨_, rfl, by show _ ≤ _; rw [ByteArray.size_append, ByteArray.size_append]; have := ext_le s 0 i; have := ext_le2 s i (by omega); omega, HC3, HKK2.out.trans (((KeptBut.refl p w2).below ((Below.refl _ _).drew)).trans HK3.out)⟩
            exact AllReadyH.nil
          · go_wp2_with fail
            refine (HC1.out.draw _ (by omega) (by omega)).mono ?_
            rintro e w2 ⟨y, rfl, hy0, hy1, HC2, HK2⟩
            obtain ⟨i, rfl⟩ := Int.eq_ofNat_of_zero_le hy0
            have HKK2 : Hid (KeptBut p w w2) := HK1.out.trans HK2.out
            have hi : (i : Int) ≤ (s.size : Int) := by omega
            have hi1 : (i : Int) + 1 ≤ (s.size : Int) := by omega
            have hin : i ≤ s.size := by omega
            have hw1 : ((i : Int) + 1).toNat = i + 1 := by omega
            have hw2 : IntKind.i64.wrap ((i : Int) + 1) = (i : Int) + 1 := by rw [IntKind.wrap_i64]; omega
            have hw3 : (0 : Int) ≤ (i : Int) + 1 := by omega
            have hw4 : ¬ 9223372036854775807 < i + 1 := by omega
            have hw5 : ¬ 9223372036854775807 < i + 1 + (s.size - (i + 1)) := by omega
            clear HC1 HK1 HK2
            go_wp2_with fail
            refine wp_region_held_drew (S := fun _ => True) (by kernel_rfl) trivial (fun hHeld => ?_)
            refine wpAnyH_take (i := 0) (oi := { dst := some 33, op := Go.Op.move (Go.Operand.tmp 1), type := 9, pos := "l02_sums.go:68", after := #[], guard := none }) (v := ?_) rfl (by kernel_rfl) (by kernel_rfl) (by kernel_rfl) (fun _ _ _ h => h) (Or.inl ⟨by kernel_rfl, ?_⟩) (by assumption) ?_
            rotate_left
            · intro w hSw; (try dsimp only at hSw); go_simp; try with_reducible rfl
            simp only [Act.put, List.setIfInBounds_toArray, List.set_cons_zero, List.set_cons_succ]
            refine wpAnyH_take (i := 1) (oi := { dst := some 34, op := Go.Op.move (Go.Operand.tmp 5), type := 3, pos := "l02_sums.go:68", after := #[], guard := none }) (v := ?_) rfl (by kernel_rfl) (by kernel_rfl) (by kernel_rfl) (fun _ _ _ h => h) (Or.inl ⟨by kernel_rfl, ?_⟩) (by assumption) ?_
            rotate_left
            · intro w hSw; (try dsimp only at hSw); go_simp; try with_reducible rfl
            simp only [Act.put, List.setIfInBounds_toArray, List.set_cons_zero, List.set_cons_succ]
            refine wpAnyH_take (i := 2) (oi := { dst := some 35, op := Go.Op.slice 9 (Go.Operand.tmp 33) none (some (Go.Operand.tmp 34)) none, type := 9, pos := "l02_sums.go:68", after := #[{ on := 0, ground := Go.Ground.data }, { on := 1, ground := Go.Ground.data }], guard := none }) (v := ?_) rfl (by kernel_rfl) (by kernel_rfl) (by kernel_rfl) (fun _ _ _ h => h) (Or.inl ⟨by kernel_rfl, ?_⟩) (by assumption) ?_
            rotate_left
            · intro w hSw; (try dsimp only at hSw); go_simp; try with_reducible rfl
            simp only [Act.put, List.setIfInBounds_toArray, List.set_cons_zero, List.set_cons_succ]
            refine wpAnyH_take (i := 3) (oi := { dst := some 36, op := Go.Op.move (Go.Operand.tmp 0), type := 83, pos := "l02_sums.go:68", after := #[], guard := none }) (v := ?_) rfl (by kernel_rfl) (by kernel_rfl) (by kernel_rfl) (fun _ _ _ h => h) (Or.inl ⟨by kernel_rfl, ?_⟩) (by assumption) ?_
            rotate_left
            · intro w hSw; (try dsimp only at hSw); go_simp; try with_reducible rfl
            simp only [Act.put, List.setIfInBounds_toArray, List.set_cons_zero, List.set_cons_succ]
            refine wpAnyH_take (i := 6) (oi := { dst := some 39, op := Go.Op.move (Go.Operand.tmp 1), type := 9, pos := "l02_sums.go:68", after := #[], guard := none }) (v := ?_) rfl (by kernel_rfl) (by kernel_rfl) (by kernel_rfl) (fun _ _ _ h => h) (Or.inl ⟨by kernel_rfl, ?_⟩) (by assumption) ?_
            rotate_left
            · intro w hSw; (try dsimp only at hSw); go_simp; try with_reducible rfl
            simp only [Act.put, List.setIfInBounds_toArray, List.set_cons_zero, List.set_cons_succ]
            refine wpAnyH_take (i := 7) (oi := { dst := some 40, op := Go.Op.move (Go.Operand.tmp 5), type := 3, pos := "l02_sums.go:68", after := #[], guard := none }) (v := ?_) rfl (by kernel_rfl) (by kernel_rfl) (by kernel_rfl) (fun _ _ _ h => h) (Or.inl ⟨by kernel_rfl, ?_⟩) (by assumption) ?_
            rotate_left
            · intro w hSw; (try dsimp only at hSw); go_simp; try with_reducible rfl
            simp only [Act.put, List.setIfInBounds_toArray, List.set_cons_zero, List.set_cons_succ]
            refine wpAnyH_take (i := 8) (oi := { dst := some 41, op := Go.Op.binOp Go.BinOp.add 3 (Go.Operand.tmp 40) (Go.Operand.const (Go.Value.int Go.IntKind.i64 1)) 3, type := 3, pos := "l02_sums.go:68", after := #[{ on := 7, ground := Go.Ground.data }], guard := none }) (v := ?_) rfl (by kernel_rfl) (by kernel_rfl) (by kernel_rfl) (fun _ _ _ h => h) (Or.inl ⟨by kernel_rfl, ?_⟩) (by assumption) ?_
            rotate_left
            · intro w hSw; (try dsimp only at hSw); go_simp; try with_reducible rfl
            simp only [Act.put, List.setIfInBounds_toArray, List.set_cons_zero, List.set_cons_succ]
            refine wpAnyH_take (i := 9) (oi := { dst := some 42, op := Go.Op.slice 9 (Go.Operand.tmp 39) (some (Go.Operand.tmp 41)) none none, type := 9, pos := "l02_sums.go:68", after := #[{ on := 6, ground := Go.Ground.data }, { on := 8, ground := Go.Ground.data }], guard := none }) (v := ?_) rfl (by kernel_rfl) (by kernel_rfl) (by kernel_rfl) (fun _ _ _ h => h) (Or.inl ⟨by kernel_rfl, ?_⟩) (by assumption) ?_
            rotate_left
            · intro w hSw; (try dsimp only at hSw); go_simp; try with_reducible rfl
            simp only [Act.put, List.setIfInBounds_toArray, List.set_cons_zero, List.set_cons_succ]
            refine wpAnyH_ready (rs := [4]) (by kernel_rfl) (by simp) ?_
            refine AllReadyH.cons (o := { dst := some 37, op := Go.Op.call { callee := Go.Callee.value (Go.Operand.func 99), args := #[Go.Operand.tmp 36, Go.Operand.const (Go.Value.int Go.IntKind.i64 1)], argTypes := #[83, 3] }, type := 9, pos := "l02_sums.go:68", after := #[{ on := 3, ground := Go.Ground.data }], guard := none }) rfl (fun K hK => ?_) ?_
            · go_simp
              go_wp2_with (go_at_call 99; refine (text_curL _ p n cap ao 1 (by omega) (HC2.out.below ((Below.refl _ _).drew) HC2.out.lt)).mono ?_; rintro e w3 ⟨t, rfl, ht, HC3, HK3⟩)
              have hcat1 : ¬ 9223372036854775807 < (s.extract 0 i).size + t.size := by have := ext_le s 0 i; omega
              have hcat2 : ¬ 9223372036854775807 < (s.extract 0 i ++ t).size + (s.extract (i + 1) s.size).size := by have := ext_le s 0 i; have := ext_le s (i + 1) s.size; rw [ByteArray.size_append]; omega
              refine hK.out _ _ trivial (fun hHeld => ?_)
              clear hK K
              try simp only [Act.put, List.setIfInBounds_toArray, List.set_cons_zero, List.set_cons_succ]
              refine wpAnyH_take (i := 5) (oi := { dst := some 38, op := Go.Op.binOp Go.BinOp.add 9 (Go.Operand.tmp 35) (Go.Operand.tmp 37) 9, type := 9, pos := "l02_sums.go:68", after := #[{ on := 2, ground := Go.Ground.data }, { on := 4, ground := Go.Ground.data }], guard := none }) (v := ?_) rfl (by kernel_rfl) (by kernel_rfl) (by kernel_rfl) (fun _ _ _ h => h) (Or.inl ⟨by kernel_rfl, ?_⟩) (by assumption) ?_
              rotate_left
              · intro w hSw; (try dsimp only at hSw); go_simp; try with_reducible rfl
              simp only [Act.put, List.setIfInBounds_toArray, List.set_cons_zero, List.set_cons_succ]
              refine wpAnyH_take (i := 10) (oi := { dst := some 43, op := Go.Op.binOp Go.BinOp.add 9 (Go.Operand.tmp 38) (Go.Operand.tmp 42) 9, type := 9, pos := "l02_sums.go:68", after := #[{ on := 5, ground := Go.Ground.data }, { on := 9, ground := Go.Ground.data }], guard := none }) (v := ?_) rfl (by kernel_rfl) (by kernel_rfl) (by kernel_rfl) (fun _ _ _ h => h) (Or.inl ⟨by kernel_rfl, ?_⟩) (by assumption) ?_
              rotate_left
              · intro w hSw; (try dsimp only at hSw); go_simp; try with_reducible rfl
              simp only [Act.put, List.setIfInBounds_toArray, List.set_cons_zero, List.set_cons_succ]
              refine wpAnyH_take (i := 11) (oi := { dst := some 4, op := Go.Op.assign (Go.Operand.tmp 43), type := 9, pos := "l02_sums.go:68", after := #[{ on := 10, ground := Go.Ground.data }, { on := 4, ground := Go.Ground.chain }, { on := 0, ground := Go.Ground.phase }, { on := 1, ground := Go.Ground.phase }, { on := 2, ground := Go.Ground.phase }, { on := 3, ground := Go.Ground.phase }, { on := 4, ground := Go.Ground.phase }, { on := 5, ground := Go.Ground.phase }, { on := 6, ground := Go.Ground.phase }, { on := 7, ground := Go.Ground.phase }, { on := 8, ground := Go.Ground.phase }, { on := 9, ground := Go.Ground.phase }, { on := 10, ground := Go.Ground.phase }], guard := none }) (v := ?_) rfl (by kernel_rfl) (by kernel_rfl) (by kernel_rfl) (fun _ _ _ h => h) (Or.inl ⟨by kernel_rfl, ?_⟩) (by assumption) ?_
              rotate_left
              · intro w hSw; (try dsimp only at hSw); go_simp; try with_reducible rfl
              simp only [Act.put, List.setIfInBounds_toArray, List.set_cons_zero, List.set_cons_succ]
              refine wpAnyH_done (by kernel_rfl) ?_ _
              clear hHeld
              go_wp2
              go_ret
              exact ⟨_, rfl, by show _ ≤ _; rw [ByteArray.size_append, ByteArray.size_append]; have := ext_le s 0 i; have := ext_le2 s i (by omega); omega, HC3, HKK2.out.trans (((KeptBut.refl p w2).below ((Below.refl _ _).drew)).trans HK3.out)⟩
            exact AllReadyH.nil
      · have e3 : ¬ k = 2 := fun h => e2 (.inl h)
        have e4 : ¬ k = 3 := fun h => e2 (.inr h)
        go_wp2
        go_ret
        exact ⟨s, rfl, Nat.le_succ _, HC1, HK1⟩

theorem gtxt_size (s : Int) (l : List Ed) (h : l.length ≤ 1000) : (gtxtOf s l).size ≤ 30000 := by
  have e : (gtxtOf s l).size = (if okG s l = true then gtxtTo s l l.length else []).length := by rw [← data_size]; rfl
  rw [e]
  split
  · have := gtxt_le s l l.length (Nat.le_refl _); omega
  · simp

set_option maxHeartbeats 4000000 in
set_option maxRecDepth 100000 in
theorem drawReadG_any (w : World) (n cap : Nat) (ao : Option Addr) (hn : n ≤ 1048576) (hc : CodeIn w ao n) :
    Calls Try.prog 38 #[.slice ao n cap] w fun e w' => ∃ t : ByteArray, e = .returned (.string t) ∧ Hid (t.size ≤ 30001) ∧ Hid (Below w.heap.size w w') := by
  have HC : Hid (CodeIn w ao n) := hc
  clear hc
  go_enter Try.func38, Try.ntmps38
  go_wp2_with fail
  refine (new_any w ao n cap hn HC.out).mono ?_
  rintro e w1 ⟨rfl, hc1, hb1⟩
  obtain ⟨p, HP⟩ : ∃ p, Hid (p = w.heap.size) := ⟨_, rfl⟩
  have HCU : Hid (CurL p ao n cap w1) := by rw [HP.out]; exact ⟨hc1, cur_start HC.out⟩
  have HB1 : Hid (Below w.heap.size w w1) := hb1
  rw [← HP.out]
  clear hc1 hb1
  go_wp2_with fail
  refine (HCU.out.draw 3 (by omega) (by omega)).mono ?_
  rintro e w2 ⟨k, rfl, hk0, hk1, HC2, HK2⟩
  go_wp2_with fail
  refine (l04Any_any w2 p n cap ao HC2.out).mono ?_
  rintro e w3 ⟨s, a, nL, cL, L, rfl, HLN, HE, HNL, HC3, HK3⟩
  go_wp2_with fail
  refine (specGText_any _ _ s a nL cL L w3 HE.out (Nat.le_refl _) HLN.out (by have := HNL.out; omega)).mono ?_
  rintro e w4 ⟨t, ok, rfl, HT, HB4⟩
  have HTS : Hid (t.size ≤ 30000) := by show _ ≤ _; rw [HT.out.2]; exact gtxt_size s L (by have := HNL.out; have := HLN.out; omega)
  have HC4 : Hid (CurL p ao n cap w4) := HC3.out.below HB4.out HC3.out.lt
  have HK4 : Hid (KeptBut p w1 w4) := ((HK2.out.trans HK3.out).below HB4.out)
  have HBW : Hid (Below w.heap.size w w4) := HB1.out.trans (HK4.out.to_below (by rw [HP.out]; exact Nat.le_refl _) HB1.out.size)
  have hsz : w.heap.size ≤ w4.heap.size := HBW.out.size
  clear HK2 HK3 HB4 HE HC2 HC3 HT HCU HB1 HC
  by_cases e0 : k = 0
  · subst e0
    go_wp2_with fail
    refine (spoilt_any w4 p n cap ao t (by have := HTS.out; omega) HC4.out).mono ?_
    rintro e w5 ⟨t5, rfl, HT5, HC5, HK5⟩
    go_wp2
    go_ret
    exact ⟨t5, rfl, by show _ ≤ _; have := HT5.out; have := HTS.out; omega, HBW.out.trans (HK5.out.to_below (by rw [HP.out]; exact Nat.le_refl _) hsz)⟩
  · go_wp2
    go_ret
    exact ⟨t, rfl, by show _ ≤ _; have := HTS.out; omega, HBW⟩
end Go.Proofs.Ytelikebpddhncaa

/-
  slices.Index, slices.Contains at edges.
-/
namespace Go.Proofs.Ytelikebpddhncaa
open Go.RowKit

set_option maxRecDepth 100000 in
theorem eql_edge (x0 x1 x2 y0 y1 y2 : Int) (q : Bool) (w : World) (hq : q = decide ((x0, x1, x2) = ((y0, y1, y2) : Ed))) : (binOp .eql 42 (.agg #[.int .i64 x0, .int .u8 x1, .int .i64 x2]) (.agg #[.int .i64 y0, .int .u8 y1, .int .i64 y2])).run Try.prog w = .ok (.bool q) w := by
  have u3 := Try.underlying3
  have a3 := Try.isAgg3
  have z3 := Try.sizeOf3
  have u5 := Try.underlying5
  have a5 := Try.isAgg5
  have z5 := Try.sizeOf5
  have hS : Try.prog.underlying 42 = some (.struct (Try.prog.fieldsOf 42)) := by kernel_rfl
  have hp : Try.prog.stoodInHeld 42 = false := by kernel_rfl
  rw [run_eql_struct, show (10000 : Nat) = 9999 + 1 from rfl, run_equalIn_agg w 9999 42 _ _ hS hp]
  simp only [Program.fieldsOf, Try.underlying42]
  rw [hq]
  go_simp
  by_cases h1 : x0 = y0 <;> by_cases h2 : x1 = y1 <;> by_cases h3 : x2 = y2 <;> simp [h1, h2, h3]

/-- where an edge is met first; -1: nowhere -/
def idxE (l : List Ed) (e : Ed) (k : Nat) : Prop := ∀ i, i < k → eat l i ≠ e

set_option maxHeartbeats 2000000 in
set_option maxRecDepth 100000 in
theorem indexE_any (lo hi : Nat) (a : Option Addr) (n cap : Nat) (l : List Ed) (e : Ed) (w : World) (ha : EdgesIn lo hi w a l) (hh : hi ≤ w.heap.size) (hn : l.length = n) (hm : n ≤ 1048576) :
    Calls Try.prog 104 #[.slice a n cap, ev e] w fun r w' => ∃ z : Int, r = .returned (.int .i64 z) ∧ Hid (decide (0 ≤ z) = decide (e ∈ l)) ∧ Hid (Below w.heap.size w w') := by
  have HN : Hid (l.length = n) := hn
  have HA : Hid (EdgesIn lo hi w a l) := ha
  have HH : Hid (hi ≤ w.heap.size) := hh
  obtain ⟨B, HB⟩ : ∃ B, Hid (B = w.heap.size) := ⟨_, rfl⟩
  clear ha hh hn
  obtain ⟨e0, e1, e2⟩ := e
  go_enter Try.func104, Try.ntmps104
  go_wp2
  rw [← HB.out]
  go_loopw [8] (fun i wr => ∃ k : Nat, i = .int .i64 k ∧ k ≤ n ∧ Hid (∀ j, j < k → eat l j ≠ (e0, e1, e2)) ∧ Hid (Below w.heap.size w wr) ∧ Hid (Blk wr B 3 (fun i => if i = 0 then .int .i64 e0 else if i = 1 then .int .u8 e1 else .int .i64 e2))) (fun i _ => n - (intOf i).toNat)
  case atStart => exact ⟨0, rfl, by omega, fun j hj => absurd hj (by omega), below1 _ _, blk_three w B HB.out _ _ _ _⟩
  case round =>
    obtain ⟨k, rfl, hk, HP, HL, HK⟩ := hrel
    by_cases hlt : k < n
    · have hlt1 : (k : Int) < (n : Int) := by omega
      have hlt0 : (0 : Int) ≤ (k : Int) := by omega
      obtain ⟨b, o, rfl, _, _, hx⟩ := (HA.out.below HL.out HH.out).edge (k := k) (by rw [HN.out]; exact hlt)
      obtain ⟨x, HXX⟩ : ∃ x : Ed, Hid (x = eat l k) := ⟨_, rfl⟩
      rw [← HXX.out] at hx
      obtain ⟨x0, x1, x2⟩ := x
      obtain ⟨p0, p1, p2⟩ := hx
      dsimp only at p0 p1 p2
      have c0 : wr.cell? ⟨B, 0, none⟩ = some (.int .i64 e0) := HK.out.cell (i := 0) (by omega)
      have c1 : wr.cell? ⟨B, 1, none⟩ = some (.int .u8 e1) := HK.out.cell (i := 1) (by omega)
      have c2 : wr.cell? ⟨B, 2, none⟩ = some (.int .i64 e2) := HK.out.cell (i := 2) (by omega)
      by_cases he : (e0, e1, e2) = ((x0, x1, x2) : Ed)
      · have hq := fun w => eql_edge e0 e1 e2 x0 x1 x2 true w (decide_eq_true he).symm
        have HIN : Hid ((e0, e1, e2) ∈ l) := by
          show _ ∈ _
          rw [he, HXX.out, eat_get (by rw [HN.out]; exact hlt)]
          exact List.getElem_mem _
        clear he
        go_wp2_with fail
        go_quiet (fail)
        go_wp2
        go_ret
        refine ⟨(k : Int), rfl, ?_, below_drewN HL.out _⟩
        show _ = _
        rw [decide_eq_true HIN.out]; simp
      · have hq := fun w => eql_edge e0 e1 e2 x0 x1 x2 false w (decide_eq_false he).symm
        have HNE : Hid ((e0, e1, e2) ≠ ((x0, x1, x2) : Ed)) := he
        clear he
        go_wp2_with fail
        go_quiet (fail)
        go_wp2
        go_roundw
        case rel =>
          refine ⟨k + 1, by go_num, by omega, fun j hj => ?_, below_drewN HL.out _, HK⟩
          by_cases ej : j = k
          · subst ej; rw [← HXX.out]; exact fun h => HNE.out h.symm
          · exact HP.out j (by omega)
        case measure => simp [intOf]; omega
    · obtain rfl : k = n := by omega
      go_wp2
      go_ret
      refine ⟨-1, rfl, ?_, HL⟩
      show _ = _
      have : ¬ (e0, e1, e2) ∈ l := by
        intro h
        obtain ⟨i, hi, e⟩ := List.getElem_of_mem h
        exact HP.out i (by rw [← HN.out]; exact hi) (by rw [eat_get hi, e])
      rw [decide_eq_false this]; simp
set_option maxHeartbeats 1000000 in
set_option maxRecDepth 100000 in
theorem containsE_any (lo hi : Nat) (a : Option Addr) (n cap : Nat) (l : List Ed) (e : Ed) (q : Bool) (w : World) (ha : EdgesIn lo hi w a l) (hh : hi ≤ w.heap.size) (hn : l.length = n) (hm : n ≤ 1048576) (hq : q = decide (e ∈ l)) :
    Calls Try.prog 74 #[.slice a n cap, ev e] w fun r w' => r = .returned (.bool q) ∧ Hid (Below w.heap.size w w') := by
  have HN : Hid (l.length = n) := hn
  have HA : Hid (EdgesIn lo hi w a l) := ha
  have HH : Hid (hi ≤ w.heap.size) := hh
  have HQ : Hid (q = decide (e ∈ l)) := hq
  clear ha hh hn hq
  obtain ⟨e0, e1, e2⟩ := e
  go_enter Try.func74, Try.ntmps74
  go_wp2_with fail
  refine (indexE_any lo hi a n cap l (e0, e1, e2) _ (HA.out.below (below1 w _) HH.out) (by have := HH.out; simp; omega) HN.out hm).mono ?_
  rintro e w1 ⟨z, rfl, HZ, HB⟩
  have HL : Hid (Below w.heap.size w w1) := (below1 w _).trans (HB.out.mono (by simp))
  have hd : decide (0 ≤ z) = q := by rw [HZ.out, HQ.out]
  have hd' : decide (z ≥ 0) = q := hd
  go_wp2
  go_ret
  exact ⟨rfl, HL⟩
end Go.Proofs.Ytelikebpddhncaa

/-
  Laid off the shelf at this translation: slices.Sort, slices.Compact over ints.
-/
namespace Go.Proofs.Ytelikebpddhncaa
open Go.Shelf
def Try.lays189_ren : Go.Shelf.Ren := ⟨fun | 189 => 78 | 125 => 106 | 257 => 110 | 128 => 123 | 129 => 124 | 294 => 127 | 295 => 128 | 296 => 129 | 297 => 130 | 298 => 131 | 299 => 132 | 216 => 133 | 300 => 134 | 301 => 135 | 328 => 142 | 329 => 138 | 330 => 139 | 331 => 143 | 332 => 144 | 215 => 125 | 343 => 146 | n => n, fun | 28 => 39 | 3 => 3 | 46 => 123 | 0 => 0 | 51 => 145 | 53 => 147 | 4 => 4 | 183 => 138 | 182 => 137 | 131 => 142 | 5 => 5 | 9 => 9 | 218 => 155 | 222 => 159 | 228 => 163 | 229 => 164 | n => n, fun | n => n⟩
theorem Try.lays189 : Go.Proofs.Lays.n189 Try.prog Try.lays189_ren := {
  mixed := by kernel_rfl
  f125 := Try.func106.trans (congrArg some (by kernel_rfl))
  f128 := Try.func123.trans (congrArg some (by kernel_rfl))
  f129 := Try.func124.trans (congrArg some (by kernel_rfl))
  f189 := Try.func78.trans (congrArg some (by kernel_rfl))
  f215 := Try.func125.trans (congrArg some (by kernel_rfl))
  f216 := Try.func133.trans (congrArg some (by kernel_rfl))
  f257 := Try.func110.trans (congrArg some (by kernel_rfl))
  f294 := Try.func127.trans (congrArg some (by kernel_rfl))
  f295 := Try.func128.trans (congrArg some (by kernel_rfl))
  f296 := Try.func129.trans (congrArg some (by kernel_rfl))
  f297 := Try.func130.trans (congrArg some (by kernel_rfl))
  f298 := Try.func131.trans (congrArg some (by kernel_rfl))
  f299 := Try.func132.trans (congrArg some (by kernel_rfl))
  f300 := Try.func134.trans (congrArg some (by kernel_rfl))
  f301 := Try.func135.trans (congrArg some (by kernel_rfl))
  f328 := Try.func142.trans (congrArg some (by kernel_rfl))
  f329 := Try.func138.trans (congrArg some (by kernel_rfl))
  f330 := Try.func139.trans (congrArg some (by kernel_rfl))
  f331 := Try.func143.trans (congrArg some (by kernel_rfl))
  f332 := Try.func144.trans (congrArg some (by kernel_rfl))
  f343 := Try.func146.trans (congrArg some (by kernel_rfl))
  t0 := Try.underlying0
  a0 := Try.isAgg0
  z0 := Try.sizeOf0
  v0 := Try.zeroValue0
  t3 := Try.underlying3
  a3 := Try.isAgg3
  z3 := Try.sizeOf3
  v3 := Try.zeroValue3
  t4 := Try.underlying4
  a4 := Try.isAgg4
  z4 := Try.sizeOf4
  v4 := Try.zeroValue4
  t5 := Try.underlying5
  a5 := Try.isAgg5
  z5 := Try.sizeOf5
  v5 := Try.zeroValue5
  t9 := Try.underlying9
  a9 := Try.isAgg9
  z9 := Try.sizeOf9
  v9 := Try.zeroValue9
  t28 := Try.underlying39
  a28 := Try.isAgg39
  z28 := Try.sizeOf39
  v28 := Try.zeroValue39
  t46 := Try.underlying123
  a46 := Try.isAgg123
  z46 := Try.sizeOf123
  v46 := Try.zeroValue123
  t51 := Try.underlying145
  a51 := Try.isAgg145
  z51 := Try.sizeOf145
  v51 := Try.zeroValue145
  t53 := Try.underlying147
  a53 := Try.isAgg147
  z53 := Try.sizeOf147
  v53 := Try.zeroValue147
  t131 := Try.underlying142
  a131 := Try.isAgg142
  z131 := Try.sizeOf142
  v131 := Try.zeroValue142
  t182 := Try.underlying137
  a182 := Try.isAgg137
  z182 := Try.sizeOf137
  v182 := Try.zeroValue137
  t183 := Try.underlying138
  a183 := Try.isAgg138
  z183 := Try.sizeOf138
  v183 := Try.zeroValue138
  t218 := Try.underlying155
  a218 := Try.isAgg155
  z218 := Try.sizeOf155
  v218 := Try.zeroValue155
  t222 := Try.underlying159
  a222 := Try.isAgg159
  z222 := Try.sizeOf159
  v222 := Try.zeroValue159
  t228 := Try.underlying163
  a228 := Try.isAgg163
  z228 := Try.sizeOf163
  v228 := Try.zeroValue163
  t229 := Try.underlying164
  a229 := Try.isAgg164
  z229 := Try.sizeOf164
  v229 := Try.zeroValue164 }
open Go.Sort Go.RowKit in
theorem Try.slices_Sort_int (blk off cap : Nat) (zs : List Int) (w : World) (hH : Holds (Value.int .i64) w blk off zs.toArray) (hblk : blk < w.heap.size) (hsz : zs.length < 4611686018427387904) :
    Calls Try.prog 78 #[.slice (some ⟨blk, off, none⟩) zs.length cap] w fun e w' =>
      e = .returned (.tuple #[]) ∧ ∃ n os, w' = grow (putRow (Value.int .i64) (Sort.ahead w n) blk off (zs.mergeSort fun x y => decide (x ≤ y)).toArray) os := Any.slices_Sort_int Try.lays189 blk off cap zs w hH hblk hsz
def Try.laysNm220_ren : Go.Shelf.Ren := ⟨fun | 20 => 79 | n => n, fun | 22 => 39 | 3 => 3 | 4 => 4 | 0 => 0 | n => n, fun | n => n⟩
theorem Try.laysNm220 : Go.Proofs.Lays2.n20 Try.prog Try.laysNm220_ren := {
  mixed := by kernel_rfl
  f20 := Try.func79.trans (congrArg some (by kernel_rfl))
  t0 := Try.underlying0
  a0 := Try.isAgg0
  z0 := Try.sizeOf0
  v0 := Try.zeroValue0
  t3 := Try.underlying3
  a3 := Try.isAgg3
  z3 := Try.sizeOf3
  v3 := Try.zeroValue3
  t4 := Try.underlying4
  a4 := Try.isAgg4
  z4 := Try.sizeOf4
  v4 := Try.zeroValue4
  t22 := Try.underlying39
  a22 := Try.isAgg39
  z22 := Try.sizeOf39
  v22 := Try.zeroValue39
  i3 := by kernel_rfl }
open Go.RowKit Go.Lib Go.Sort in
theorem Try.slices_Compact_int (blk off cap : Nat) (zs : List Int) (w : World) (hH : Holds (Value.int .i64) w blk off zs.toArray) (hsz : zs.length ≤ 9223372036854775807) (hcap : zs.length ≤ cap) :
    Calls Try.prog 79 #[.slice (some ⟨blk, off, none⟩) zs.length cap] w fun e w' => e = .returned (.slice (some ⟨blk, off, none⟩) (Lib.compact zs).length cap) ∧ ∃ q, w' = putRow (Value.int .i64) (Sort.ahead w q) blk off (Lib.compact zs ++ List.replicate (zs.length - (Lib.compact zs).length) 0).toArray := Any.slices_Compact_int Try.laysNm220 blk off cap zs w hH hsz hcap
open Go.RowKit Go.Lib Go.Sort in
theorem Try.slices_Compact_int_empty (a : Option Addr) (cap : Nat) (w : World) :
    Calls Try.prog 79 #[.slice a 0 cap] w fun e w' => e = .returned (.slice a 0 cap) ∧ w' = w := Any.slices_Compact_int_empty Try.laysNm220 a cap w
open Go.RowKit Go.Sort in
theorem Try.slices_Sort_int_none (p : Option Addr) (cap : Nat) (w : World) :
    Calls Try.prog 78 #[.slice p 0 cap] w fun e w' => e = .returned (.tuple #[]) ∧ w' = w := Any.slices_Sort_int_none Try.lays189 p cap w
end Go.Proofs.Ytelikebpddhncaa

/-
  Numbers ascending, each once: the plain mathematics; slices.Sort and slices.Compact over a row of the call's own.
-/
namespace Go.Proofs.Ytelikebpddhncaa
open Go.RowKit

/-- ascending, each once -/
def SrtI (l : List Int) : Prop := l.Pairwise (· < ·)
theorem srtI_ext : ∀ {l l' : List Int}, SrtI l → SrtI l' → (∀ x, x ∈ l ↔ x ∈ l') → l = l'
  | [], [], _, _, _ => rfl
  | [], y :: ys, _, _, h => absurd ((h y).2 (by simp)) (by simp)
  | x :: xs, [], _, _, h => absurd ((h x).1 (by simp)) (by simp)
  | x :: xs, y :: ys, h1, h2, h => by
    have a1 := List.pairwise_cons.1 h1
    have a2 := List.pairwise_cons.1 h2
    have e : x = y := by
      have hx := (h x).1 (by simp)
      have hy := (h y).2 (by simp)
      rcases List.mem_cons.1 hx with e | e
      · exact e
      · rcases List.mem_cons.1 hy with e' | e'
        · exact e'.symm
        · have := a2.1 x e; have := a1.1 y e'; omega
    subst e
    congr 1
    refine srtI_ext a1.2 a2.2 fun z => ⟨fun hz => ?_, fun hz => ?_⟩
    · rcases List.mem_cons.1 ((h z).1 (List.mem_cons_of_mem _ hz)) with e | e
      · subst e; have := a1.1 z hz; omega
      · exact e
    · rcases List.mem_cons.1 ((h z).2 (List.mem_cons_of_mem _ hz)) with e | e
      · subst e; have := a2.1 z hz; omega
      · exact e
/-- a number put into its place -/
def putI (l : List Int) (x : Int) : List Int := l.filter (fun y => decide (y < x)) ++ x :: l.filter (fun y => decide (x < y))
theorem mem_putI {l : List Int} {x y : Int} : y ∈ putI l x ↔ y = x ∨ y ∈ l := by
  unfold putI
  simp only [List.mem_append, List.mem_cons, List.mem_filter, decide_eq_true_eq]
  constructor
  · rintro (h | h | h)
    · exact .inr h.1
    · exact .inl h
    · exact .inr h.1
  · rintro (h | h)
    · exact .inr (.inl h)
    · rcases Int.lt_trichotomy y x with h1 | h1 | h1
      · exact .inl ⟨h, h1⟩
      · exact .inr (.inl h1)
      · exact .inr (.inr ⟨h, h1⟩)
theorem srt_putI {l : List Int} (h : SrtI l) (x : Int) : SrtI (putI l x) := by
  unfold putI SrtI
  rw [List.pairwise_append]
  refine ⟨List.Pairwise.filter _ h, ?_, ?_⟩
  · rw [List.pairwise_cons]
    exact ⟨fun y hy => of_decide_eq_true (List.mem_filter.1 hy).2, List.Pairwise.filter _ h⟩
  · intro y hy z hz
    have h1 : y < x := of_decide_eq_true (List.mem_filter.1 hy).2
    rcases List.mem_cons.1 hz with rfl | hz
    · exact h1
    · have h2 : x < z := of_decide_eq_true (List.mem_filter.1 hz).2
      omega
theorem putI_len (l : List Int) (x : Int) : (putI l x).length ≤ l.length + 1 := by
  unfold putI
  have h1 : (l.filter (fun y => decide (y < x))).length + (l.filter (fun y => decide (x < y))).length ≤ l.length := by
    induction l with
    | nil => simp
    | cons y ys ih =>
      rcases Int.lt_trichotomy y x with h | h | h
      · simp only [List.filter_cons, h, decide_true, if_true, show ¬ x < y by omega, decide_false]; simp; omega
      · subst h; simp; omega
      · simp only [List.filter_cons, h, decide_true, if_true, show ¬ y < x by omega, decide_false]; simp; omega
  simp; omega
/-- numbers ascending, each once -/
def nextL (zs : List Int) : List Int := zs.foldl putI []
theorem foldI_srt (zs : List Int) : ∀ acc, SrtI acc → SrtI (zs.foldl putI acc) := by
  induction zs with
  | nil => intro acc h; exact h
  | cons x xs ih => intro acc h; exact ih _ (srt_putI h _)
theorem foldI_mem (zs : List Int) : ∀ acc x, x ∈ zs.foldl putI acc ↔ x ∈ acc ∨ x ∈ zs := by
  induction zs with
  | nil => intro acc x; simp
  | cons y ys ih =>
    intro acc x
    rw [List.foldl_cons, ih, mem_putI, List.mem_cons]
    constructor
    · rintro ((h | h) | h)
      · exact .inr (.inl h)
      · exact .inl h
      · exact .inr (.inr h)
    · rintro (h | h | h)
      · exact .inl (.inr h)
      · exact .inl (.inl h)
      · exact .inr h
theorem foldI_len (zs : List Int) : ∀ acc : List Int, (zs.foldl putI acc).length ≤ acc.length + zs.length := by
  induction zs with
  | nil => intro acc; simp
  | cons x xs ih => intro acc; rw [List.foldl_cons, List.length_cons]; have := ih (putI acc x); have := putI_len acc x; omega
theorem nextL_srt (zs : List Int) : SrtI (nextL zs) := foldI_srt zs [] List.Pairwise.nil
theorem nextL_mem {zs : List Int} {x : Int} : x ∈ nextL zs ↔ x ∈ zs := by unfold nextL; rw [foldI_mem]; simp
theorem nextL_len (zs : List Int) : (nextL zs).length ≤ zs.length := by have := foldI_len zs []; simpa [nextL] using this

theorem compact_upto (zs : List Int) (h : zs.Pairwise (· ≤ ·)) : ∀ m, m ≤ zs.length → SrtI (Lib.compactUpTo zs.toArray m) ∧ (∀ x, x ∈ Lib.compactUpTo zs.toArray m ↔ ∃ j, j < m ∧ zs.toArray[j]! = x) := by
  have hat : ∀ j, j < zs.length → zs.toArray[j]! = zs.getD j 0 := fun j hj => by
    rw [getElem!_pos zs.toArray j (by simpa using hj)]; simp [List.getD, hj]
  have hle : ∀ i j, i ≤ j → j < zs.length → zs.getD i 0 ≤ zs.getD j 0 := fun i j hij hj => by
    rcases Nat.lt_or_ge i j with h1 | h1
    · have := List.pairwise_iff_getElem.1 h i j (by omega) hj h1
      simpa [List.getD, hj, show i < zs.length by omega] using this
    · have : i = j := by omega
      subst this; exact Int.le_refl _
  intro m
  induction m with
  | zero => intro _; exact ⟨List.Pairwise.nil, fun x => by simp [Lib.compactUpTo]⟩
  | succ m ih =>
    intro hm
    obtain ⟨h1, h2⟩ := ih (by omega)
    rw [Lib.compactUpTo_succ]
    by_cases hk : Lib.keeps zs.toArray m = true
    · rw [if_pos hk]
      refine ⟨?_, fun x => ?_⟩
      · unfold SrtI
        rw [List.pairwise_append]
        refine ⟨h1, by simp, fun x hx y hy => ?_⟩
        rw [List.mem_singleton] at hy
        subst hy
        obtain ⟨j, hj, rfl⟩ := (h2 x).1 hx
        have hk' := of_decide_eq_true hk
        rcases hk' with h0 | h0
        · omega
        · rw [hat m (by omega), hat (m - 1) (by omega)] at h0
          rw [hat j (by omega), hat m (by omega)]
          have e1 := hle j (m - 1) (by omega) (by omega)
          have e2 := hle (m - 1) m (by omega) (by omega)
          omega
      · rw [List.mem_append, h2]
        constructor
        · rintro (⟨j, hj, e⟩ | h)
          · exact ⟨j, by omega, e⟩
          · simp at h; exact ⟨m, by omega, by simp [h]⟩
        · rintro ⟨j, hj, e⟩
          rcases Nat.lt_or_ge j m with h3 | h3
          · exact .inl ⟨j, h3, e⟩
          · have : j = m := by omega
            subst this; exact .inr (by simpa using e.symm)
    · rw [if_neg hk, List.append_nil]
      refine ⟨h1, fun x => ?_⟩
      rw [h2]
      constructor
      · rintro ⟨j, hj, e⟩; exact ⟨j, by omega, e⟩
      · rintro ⟨j, hj, e⟩
        rcases Nat.lt_or_ge j m with h3 | h3
        · exact ⟨j, h3, e⟩
        · have hjm : j = m := by omega
          subst hjm
          have hf : ¬ (j = 0 ∨ zs.toArray[j]! ≠ zs.toArray[j - 1]!) := fun h => hk (decide_eq_true h)
          have h0 : j ≠ 0 := fun h => hf (.inl h)
          have h4 : zs.toArray[j]! = zs.toArray[j - 1]! := Decidable.byContradiction fun h => hf (.inr h)
          exact ⟨j - 1, by omega, by rw [← h4, e]⟩
/-- sorted, then each once -/
theorem compact_is {zs Z : List Int} (hp : Z.Perm zs) (hs : Z.Pairwise (· ≤ ·)) : Lib.compact Z = nextL zs := by
  obtain ⟨h1, h2⟩ := compact_upto Z hs Z.length (Nat.le_refl _)
  refine srtI_ext h1 (nextL_srt zs) fun x => ?_
  rw [nextL_mem, ← hp.mem_iff]
  unfold Lib.compact
  rw [h2]
  constructor
  · rintro ⟨j, hj, e⟩
    rw [getElem!_pos Z.toArray j (by simpa using hj)] at e
    rw [← e]; simp
  · intro hx
    obtain ⟨j, hj, e⟩ := List.getElem_of_mem hx
    exact ⟨j, hj, by rw [getElem!_pos Z.toArray j (by simpa using hj)]; simpa using e⟩

open Go.Sort in
theorem holds_row {w : World} {b : Nat} {zs : List Int} (h : Blk w b zs.length (fun i => .int .i64 (zs.getD i 0))) : Holds (Value.int .i64) w b 0 zs.toArray := by
  intro j hj
  have hj' : j < zs.length := by simpa using hj
  rw [Nat.zero_add]
  refine ⟨?_, h.frozen j⟩
  rw [h.cell hj', getElem!_pos zs.toArray j hj]
  simp [List.getD, hj']
open Go.Sort in
theorem blk_put {w : World} {b n q : Nat} {zs Z : List Int} {os : Array Obj} (h : Blk w b zs.length (fun i => .int .i64 (zs.getD i 0))) (hl : Z.length = zs.length) (hn : n ≤ Z.length) : Blk (grow (putRow (Value.int .i64) (Sort.ahead w q) b 0 Z.toArray) os) b n (fun i => .int .i64 (Z.getD i 0)) ∧ KeptP (fun k => k = b) w (grow (putRow (Value.int .i64) (Sort.ahead w q) b 0 Z.toArray) os) := by
  have hb := h.lt
  have hsz : (putRow (Value.int .i64) (Sort.ahead w q) b 0 Z.toArray).heap.size = w.heap.size := by rw [size_putRow]; rfl
  have hH : Holds (Value.int .i64) (Sort.ahead w q) b 0 zs.toArray := holds_row h
  have hH' := holds_putRow (Value.int .i64) (Sort.ahead w q) b 0 zs.toArray Z.toArray hH (by simpa using hl)
  refine ⟨?_, rfl, rfl, rfl, ?_, fun k hk hne => ?_⟩
  · obtain ⟨cur, e, hheap, _⟩ := h
    have hg : (grow (putRow (Value.int .i64) (Sort.ahead w q) b 0 Z.toArray) os).heap[b]? = some (.cells (putCells (Value.int .i64) 0 Z.toArray cur) e (0, 0)) := by
      rw [heap_grow_old _ _ (by rw [hsz]; exact hb)]
      simp [putRow, mapBlock, Sort.ahead, Array.getElem?_modify, hheap, onCells]
    refine ⟨_, e, hg, fun i hi => ?_⟩
    have h6 := (hH' i (by simp; omega)).1
    rw [Nat.zero_add, ← cell?_grow _ os _ (by rw [hsz]; exact hb), getElem!_pos Z.toArray i (by simp; omega)] at h6
    unfold World.cell? at h6
    rw [hg] at h6
    simpa [List.getD, show i < Z.length by omega] using h6
  · show w.heap.size ≤ (grow _ os).heap.size
    unfold grow
    simp only [Array.size_append, hsz]
    omega
  · rw [heap_grow_old _ _ (by rw [hsz]; exact hk)]
    simp [putRow, mapBlock, Sort.ahead, Array.getElem?_modify, Ne.symm hne]

theorem sortInts_any (lo hi n cap : Nat) (a : Option Addr) (zs : List Int) (w : World) (ho : RowOwn lo hi w a zs) (hl : zs.length = n) (hn : n ≤ 1048576) :
    Calls Try.prog 78 #[.slice a n cap] w fun e w' => e = .returned (.tuple #[]) ∧ ∃ Z : List Int, Hid (Z.Perm zs ∧ Z.Pairwise (· ≤ ·)) ∧ Hid (RowOwn lo hi w' a Z) ∧ Hid (KeptP (fun k => lo ≤ k ∧ k < hi) w w') := by
  subst hl
  rcases ho with rfl | ⟨b, rfl, h1, h2, h3⟩
  · refine (Try.slices_Sort_int_none a cap w).mono ?_
    rintro e w' ⟨rfl, rfl⟩
    exact ⟨rfl, [], ⟨List.Perm.refl _, List.Pairwise.nil⟩, .inl rfl, KeptP.refl _ _⟩
  · refine (Try.slices_Sort_int b 0 cap zs w (holds_row h3) h3.lt (by omega)).mono ?_
    rintro e w' ⟨rfl, q, os, rfl⟩
    have hp := List.mergeSort_perm zs (fun x y : Int => decide (x ≤ y))
    have hlen := hp.length_eq
    obtain ⟨g1, g2⟩ := blk_put (q := q) (os := os) (n := (zs.mergeSort fun x y : Int => decide (x ≤ y)).length) h3 hlen (Nat.le_refl _)
    refine ⟨rfl, zs.mergeSort fun x y : Int => decide (x ≤ y), ⟨hp, ?_⟩, .inr ⟨b, rfl, h1, h2, g1⟩, g2.mono (fun k hk => by rw [hk]; exact ⟨h1, h2⟩)⟩
    have := List.pairwise_mergeSort (le := fun x y : Int => decide (x ≤ y)) (fun a b c h1 h2 => by simp at *; omega) (fun a b => by simp; omega) zs
    exact this.imp fun h => by simpa using h
theorem compactInts_any (lo hi n cap : Nat) (a : Option Addr) (Z : List Int) (w : World) (ho : RowOwn lo hi w a Z) (hl : Z.length = n) (hn : n ≤ 1048576) (hc : n ≤ cap) :
    Calls Try.prog 79 #[.slice a n cap] w fun e w' => ∃ m : Nat, e = .returned (.slice a m cap) ∧ Hid ((Lib.compact Z).length = m) ∧ Hid (RowOwn lo hi w' a (Lib.compact Z)) ∧ Hid (KeptP (fun k => lo ≤ k ∧ k < hi) w w') := by
  subst hl
  rcases ho with rfl | ⟨b, rfl, h1, h2, h3⟩
  · refine (Try.slices_Compact_int_empty a cap w).mono ?_
    rintro e w' ⟨rfl, rfl⟩
    exact ⟨0, rfl, rfl, .inl rfl, KeptP.refl _ _⟩
  · refine (Try.slices_Compact_int b 0 cap Z w (holds_row h3) (by omega) hc).mono ?_
    rintro e w' ⟨rfl, q, rfl⟩
    have hle : (Lib.compact Z).length ≤ Z.length := by unfold Lib.compact Lib.compactUpTo; rw [List.length_map]; exact Nat.le_trans (List.length_filter_le _ _) (by simp)
    obtain ⟨g1, g2⟩ := blk_put (q := q) (os := #[]) (n := (Lib.compact Z).length) (Z := Lib.compact Z ++ List.replicate (Z.length - (Lib.compact Z).length) 0) h3 (by simp; omega) (by simp)
    rw [Go.Sort.grow_empty] at g1 g2
    refine ⟨_, rfl, rfl, .inr ⟨b, rfl, h1, h2, g1.congr fun i hi => ?_⟩, g2.mono (fun k hk => by rw [hk]; exact ⟨h1, h2⟩)⟩
    simp [List.getD, List.getElem?_append_left hi]
end Go.Proofs.Ytelikebpddhncaa

/-
  What is next, as far as place k; spec.l04Sorted.
-/
namespace Go.Proofs.Ytelikebpddhncaa
open Go.RowKit

/-- what edges lead on to, as far as place k -/
def nxTo (l : List Ed) (f b8 : Int) (k : Nat) : List Int := ((l.take k).filter (fun e => decide (e.1 = f) && decide (e.2.1 = b8))).map (fun e => e.2.2)
theorem nxTo_step {l : List Ed} {f b8 : Int} {k : Nat} (h : k < l.length) : nxTo l f b8 (k + 1) = nxTo l f b8 k ++ (if (decide ((eat l k).1 = f) && decide ((eat l k).2.1 = b8)) = true then [(eat l k).2.2] else []) := by
  unfold nxTo
  rw [filter_step (p := fun e => decide (e.1 = f) && decide (e.2.1 = b8)) h, List.map_append]
  split <;> simp
theorem nxTo_len (l : List Ed) (f b8 : Int) (k : Nat) : (nxTo l f b8 k).length ≤ k := by
  unfold nxTo; rw [List.length_map]; exact filter_len l k
/-- what is next, ascending, each once -/
def nextE (l : List Ed) (f b8 : Int) : List Int := nextL (nxTo l f b8 l.length)
theorem nextE_mem {l : List Ed} {f b8 x : Int} : x ∈ nextE l f b8 ↔ (f, b8, x) ∈ l := by
  unfold nextE nxTo
  rw [nextL_mem, List.take_length, List.mem_map]
  constructor
  · rintro ⟨⟨y0, y1, y2⟩, hy, rfl⟩
    obtain ⟨h1, h2⟩ := List.mem_filter.1 hy
    simp at h2
    obtain ⟨rfl, rfl⟩ := h2
    exact h1
  · intro h
    exact ⟨(f, b8, x), List.mem_filter.2 ⟨h, by simp⟩, rfl⟩
theorem nextE_len (l : List Ed) (f b8 : Int) : (nextE l f b8).length ≤ l.length := Nat.le_trans (nextL_len _) (nxTo_len l f b8 _)
theorem rowCells_snoc (l : List Int) (x : Int) : rowCells (l ++ [x]) = rowCells l ++ [.int .i64 x] := by simp [rowCells]
theorem owns_cap {B n cap : Nat} {w : World} {a : Option Addr} {xs : List Value} (h : w.ownsRow B 3 1 (.slice a n cap) n xs) : n ≤ cap := by
  rcases h.2 with ⟨h1, h2⟩ | ⟨g, cap', cur, h1, _, _, h4, _⟩
  · omega
  · simp only [Value.slice.injEq] at h1
    obtain ⟨_, _, rfl⟩ := h1
    exact h4
theorem owns_row {B n : Nat} {w : World} {v : Value} {l : List Int} (h : w.ownsRow B 3 1 v n (rowCells l)) (hn : l.length = n) : ∃ a cap, v = .slice a n cap ∧ RowIn B w.heap.size w a l := by
  obtain ⟨a, cap, h1, h2⟩ := rowOwn_of h hn
  exact ⟨a, cap, h1, h2.toIn⟩
theorem filterI_step {p : Int → Bool} {l : List Int} {k : Nat} (h : k < l.length) : (l.take (k + 1)).filter p = (l.take k).filter p ++ (if p (l.getD k 0) = true then [l.getD k 0] else []) := by
  rw [take_snocI l h, List.filter_append]
  by_cases hp : p (l.getD k 0) = true
  · simp only [List.getD] at hp ⊢; simp [hp]
  · simp only [List.getD] at hp ⊢; simp [hp]
theorem filterI_len {p : Int → Bool} (l : List Int) (k : Nat) : ((l.take k).filter p).length ≤ k := Nat.le_trans (List.length_filter_le _ _) (by rw [List.length_take]; omega)
theorem foldI_step {zs : List Int} {k : Nat} (h : k < zs.length) : nextL (zs.take (k + 1)) = putI (nextL (zs.take k)) (zs.getD k 0) := by
  unfold nextL
  rw [take_snocI zs h, List.foldl_append]
  rfl
theorem nextTake_len (zs : List Int) (k : Nat) : (nextL (zs.take k)).length ≤ k := Nat.le_trans (nextL_len _) (by rw [List.length_take]; omega)
/-- a number of a row that lies -/
theorem RowIn.num {lo hi i : Nat} {w : World} {a : Option Addr} {l : List Int} (h : RowIn lo hi w a l) (hi' : i < l.length) : ∃ b o, a = some ⟨b, o, none⟩ ∧ w.cell? ⟨b, o + i, none⟩ = some (.int .i64 (l.getD i 0)) := by
  rcases h with rfl | ⟨b, o, e, _, _, h3⟩
  · simp at hi'
  · exact ⟨b, o, e, h3 i hi'⟩

set_option maxHeartbeats 8000000 in
set_option maxRecDepth 100000 in
theorem l04Sorted_any (lo hi : Nat) (a : Option Addr) (n cap : Nat) (zs : List Int) (w : World) (ha : RowIn lo hi w a zs) (hh : hi ≤ w.heap.size) (hn : zs.length = n) (hm : n ≤ 1048576) :
    Calls Try.prog 77 #[.slice a n cap] w fun e w' => ∃ (a' : Option Addr) (n' cap' : Nat), e = .returned (.slice a' n' cap') ∧ Hid ((nextL zs).length = n') ∧ Hid (RowOwn w.heap.size w'.heap.size w' a' (nextL zs)) ∧ Hid (Below w.heap.size w w') := by
  have HN : Hid (zs.length = n) := hn
  have HA : Hid (RowIn lo hi w a zs) := ha
  have HH : Hid (hi ≤ w.heap.size) := hh
  obtain ⟨i0, hi0, hz0, hz1, hz2⟩ := info_parts Try.info3
  clear ha hh hn
  obtain ⟨B, HB⟩ : ∃ B, Hid (B = w.heap.size) := ⟨_, rfl⟩
  go_enter Try.func77, Try.ntmps77
  go_wp2
  rw [← HB.out]
  go_loopw [4, 3] (fun i v wr => ∃ k m : Nat, i = .int .i64 k ∧ k ≤ n ∧ Hid (wr.ownsRow B 3 1 v m (rowCells (nextL (zs.take k)))) ∧ Hid ((nextL (zs.take k)).length = m) ∧ Hid (Below B w wr)) (fun i _ _ => n - (intOf i).toNat)
  case atStart =>
    refine ⟨0, 0, rfl, by omega, ?_, rfl, ?_⟩
    · show World.ownsRow _ _ _ _ _ _ []
      have := World.ownsRow_made w (base := B) (e := 3) (size := 1) #[] 0 (by rw [HB.out]; exact Nat.le_refl _) (Nat.zero_le _) rfl
      simpa [HB.out] using this
    · exact (Below.refl _ _).alloc (by rw [HB.out]; exact Nat.le_refl _) _
  case round =>
    obtain ⟨k, m, rfl, hk, HO, HM, HL⟩ := hrel
    have hmk : m ≤ k := by rw [← HM.out]; exact nextTake_len zs k
    by_cases hlt : k < n
    · have hlt1 : (k : Int) < (n : Int) := by omega
      have hlt0 : (0 : Int) ≤ (k : Int) := by omega
      obtain ⟨oa, ocap, hov, HOI0⟩ := owns_row HO.out HM.out
      subst hov
      obtain ⟨OL, HOL⟩ : ∃ OL, Hid (OL = nextL (zs.take k)) := ⟨_, rfl⟩
      rw [← HOL.out] at HO HM HOI0
      obtain ⟨z, HZ⟩ : ∃ z, Hid (z = zs.getD k 0) := ⟨_, rfl⟩
      have HSTEP : Hid (nextL (zs.take (k + 1)) = putI OL z) := by show _ = _; rw [foldI_step (by rw [HN.out]; exact hlt), HOL.out, HZ.out]
      obtain ⟨X, HX⟩ : ∃ X, Hid (X = wr.heap.size) := ⟨_, rfl⟩
      obtain ⟨Wr, HWr⟩ : ∃ Wr, Hid (Wr = wr) := ⟨_, rfl⟩
      have HLr : Hid (Below B w Wr) := by rw [HWr.out]; exact HL
      have HXr : Hid (X = Wr.heap.size) := by rw [HWr.out]; exact HX
      have HOI : Hid (RowIn B X Wr oa OL) := by rw [HX.out, HWr.out]; exact HOI0
      have HBX : Hid (B ≤ X) := by have := HL.out.size; have := HB.out; rw [HX.out]; show _ ≤ _; omega
      have HAR : Hid (RowIn lo hi Wr a zs) := HA.out.below HLr.out (by have := HH.out; have := HB.out; omega)
      have HHX : Hid (hi ≤ X) := by have := HH.out; have := HB.out; have := HBX.out; show _ ≤ _; omega
      obtain ⟨F1, HF1⟩ : ∃ F : Nat → List Int, Hid (F = fun j => (OL.take j).filter (fun y => decide (y < z))) := ⟨_, rfl⟩
      obtain ⟨F2, HF2⟩ : ∃ F : Nat → List Int, Hid (F = fun j => (OL.take j).filter (fun y => decide (z < y))) := ⟨_, rfl⟩
      have HPUT : Hid (putI OL z = F1 m ++ (z :: F2 m)) := by show _ = _; rw [HF1.out, HF2.out, ← HM.out]; simp only [List.take_length]; rfl
      have HL1 : Hid (∀ j, (F1 j).length ≤ j) := by intro j; rw [HF1.out]; exact filterI_len OL j
      have HL2 : Hid (∀ j, (F2 j).length ≤ j) := by intro j; rw [HF2.out]; exact filterI_len OL j
      have HST1 : Hid (∀ j, j < m → F1 (j + 1) = F1 j ++ (if decide (OL.getD j 0 < z) = true then [OL.getD j 0] else [])) := by intro j hj; rw [HF1.out]; exact filterI_step (p := fun y => decide (y < z)) (by rw [HM.out]; exact hj)
      have HST2 : Hid (∀ j, j < m → F2 (j + 1) = F2 j ++ (if decide (z < OL.getD j 0) = true then [OL.getD j 0] else [])) := by intro j hj; rw [HF2.out]; exact filterI_step (p := fun y => decide (z < y)) (by rw [HM.out]; exact hj)
      have HZ1 : Hid (F1 0 = []) := by rw [HF1.out]; rfl
      have HZ2 : Hid (F2 0 = []) := by rw [HF2.out]; rfl
      have hst0 : (wr.alloc (.cells #[] 3)).ownsRow X 3 1 (.slice (some ⟨X, 0, none⟩) 0 0) 0 [] := by
        have := World.ownsRow_made wr (base := X) (e := 3) (size := 1) #[] 0 (by rw [HX.out]; exact Nat.le_refl _) (Nat.zero_le _) rfl
        simpa [HX.out] using this
      have HST0 : Hid ((wr.alloc (.cells #[] 3)).ownsRow X 3 1 (.slice (some ⟨X, 0, none⟩) 0 0) 0 []) := hst0
      have HB0 : Hid (Below X Wr (wr.alloc (.cells #[] 3))) := by rw [HX.out, HWr.out]; exact below1 wr _
      clear HF1 HF2 HOI0 hst0 HL HO HWr
      go_wp2
      rw [← HX.out]
      go_loopw [6, 5] (fun i v wq => ∃ j p : Nat, i = .int .i64 j ∧ j ≤ m ∧ Hid (wq.ownsRow X 3 1 v p (rowCells (F1 j))) ∧ Hid ((F1 j).length = p) ∧ Hid (Below X Wr wq)) (fun i _ _ => m - (intOf i).toNat)
      case atStart => exact ⟨0, 0, rfl, by omega, by rw [HZ1.out]; exact HST0, by show _ = _; rw [HZ1.out]; rfl, HB0⟩
      case round =>
        obtain ⟨j, p, rfl, hj, HQ, HP, HLQ⟩ := hrel
        have hpj : p ≤ j := by rw [← HP.out]; exact HL1.out j
        have hXq : X ≤ wr.heap.size := by have := HLQ.out.size; have := HXr.out; omega
        by_cases hjl : j < m
        · have hjl1 : (j : Int) < (m : Int) := by omega
          have hjl0 : (0 : Int) ≤ (j : Int) := by omega
          obtain ⟨zb, zo, hza, zc⟩ := (HAR.out.below HLQ.out HHX.out).num (i := k) (by rw [HN.out]; exact hlt)
          obtain ⟨yb, yo, hya, yc⟩ := (HOI.out.below HLQ.out (Nat.le_refl _)).num (i := j) (by rw [HM.out]; omega)
          rw [← HZ.out] at zc
          obtain ⟨y, HY⟩ : ∃ y, Hid (y = OL.getD j 0) := ⟨_, rfl⟩
          rw [← HY.out] at yc
          have HS1 : Hid (F1 (j + 1) = F1 j ++ (if decide (y < z) = true then [y] else [])) := by show _ = _; rw [HST1.out j (by omega), HY.out]
          subst hza hya
          by_cases hc : y < z
          · have hd : decide (y < z) = true := decide_eq_true hc
            obtain ⟨LL, HLL⟩ : ∃ LL, Hid (LL = F1 j) := ⟨_, rfl⟩
            rw [← HLL.out] at HQ
            have HE9 : Hid (F1 (j + 1) = LL ++ [y]) := by show _ = _; rw [HLL.out, HS1.out, hd]; simp
            clear HS1
            go_wp2_with fail
            go_quiet (fail)
            have HQd : Hid ((wr.drewN nq).ownsRow X 3 1 _ p (rowCells LL)) := HQ
            have HLQd : Hid (Below X Wr (wr.drewN nq)) := below_drewN HLQ.out _
            have hown := HQd.out.alloc (.cells #[.int .i64 y] 3)
            have zcd : (wr.drewN nq).cell? ⟨yb, yo + j, none⟩ = some (.int .i64 y) := yc
            have hXqd : X ≤ (wr.drewN nq).heap.size := hXq
            clear zc yc
            go_wp2_with (at_builtin; refine wpList_append_lies _ rfl (.tmp 31) (.tmp 36) 39 rfl X 3 i0 (.int .i64 0) 1 8 Try.underlying39 hi0 hz0 hz1 hz2 rfl (by decide) _ p (rowCells LL) rfl hown ⟨wr.heap.size, 0, none⟩ 1 1 [.int .i64 y] rfl rfl (cell_one_new' (wr.drewN nq) _ _) (by simp [Value.oneCell']) (by decide) (by unfold maxLen; omega) (by omega) (by simp; omega) _ rfl ?_)
            intro g1 cap1 w1 hown1 hgrow1 _ _
            have HQ1 : Hid (w1.ownsRow X 3 1 (.slice (some ⟨g1, 0, none⟩) (p + 1) cap1) (p + 1) (rowCells (LL ++ [y]))) := by rw [rowCells_snoc]; exact hown1
            have HLQ1 : Hid (Below X Wr w1) := (HLQd.out.alloc hXqd _).grown hgrow1 (by simp; omega) (fun k hk => (HQ.out.lt k hk).1)
            clear hown hown1 hgrow1
            go_wp2
            go_roundw
            case rel => exact ⟨j + 1, p + 1, by go_num, by omega, by rw [HE9.out]; exact HQ1, by show _ = _; rw [HE9.out, List.length_append, HLL.out, HP.out]; rfl, HLQ1⟩
            case measure => simp [intOf]; omega
          · have hd : decide (y < z) = false := decide_eq_false hc
            have HE9 : Hid (F1 (j + 1) = F1 j) := by show _ = _; rw [HS1.out, hd]; simp
            clear HS1
            go_wp2_with fail
            go_quiet (fail)
            have HLQd : Hid (Below X Wr (wr.drewN nq)) := below_drewN HLQ.out _
            go_wp2
            go_roundw
            case rel => exact ⟨j + 1, p, by go_num, by omega, by rw [HE9.out]; exact HQ, by show _ = _; rw [HE9.out, HP.out], HLQd⟩
            case measure => simp [intOf]; omega
        · obtain rfl : j = m := by omega
          obtain ⟨zb, zo, rfl, zc⟩ := (HAR.out.below HLQ.out HHX.out).num (i := k) (by rw [HN.out]; exact hlt)
          rw [← HZ.out] at zc
          have hown := HQ.out.alloc (.cells #[.int .i64 z] 3)
          go_wp2_with (at_builtin; refine wpList_append_lies _ rfl (.tmp 38) (.tmp 43) 39 rfl X 3 i0 (.int .i64 0) 1 8 Try.underlying39 hi0 hz0 hz1 hz2 rfl (by decide) _ p (rowCells (F1 j)) rfl hown ⟨wr.heap.size, 0, none⟩ 1 1 [.int .i64 z] rfl rfl (cell_one_new' _ _ _) (by simp [Value.oneCell']) (by decide) (by unfold maxLen; omega) (by omega) (by simp; omega) _ rfl ?_)
          intro g1 cap1 w1 hown1 hgrow1 _ _
          have HQ1 : Hid (w1.ownsRow X 3 1 (.slice (some ⟨g1, 0, none⟩) (p + 1) cap1) (p + 1) (rowCells (F1 j ++ [z]))) := by rw [rowCells_snoc]; exact hown1
          have HLQ1 : Hid (Below X Wr w1) := (HLQ.out.alloc hXq _).grown hgrow1 (by simp; omega) (fun k hk => (HQ.out.lt k hk).1)
          clear hown hown1 hgrow1 zc HQ HLQ
          go_wp2
          go_loopw [7, 5] (fun i v wq => ∃ j2 p2 : Nat, i = .int .i64 j2 ∧ j2 ≤ j ∧ Hid (wq.ownsRow X 3 1 v p2 (rowCells ((F1 j ++ [z]) ++ F2 j2))) ∧ Hid (((F1 j ++ [z]) ++ F2 j2).length = p2) ∧ Hid (Below X Wr wq)) (fun i _ _ => j - (intOf i).toNat)
          case atStart =>
            refine ⟨0, p + 1, rfl, by omega, ?_, by show _ = _; rw [HZ2.out, List.append_nil, List.length_append, HP.out]; rfl, HLQ1⟩
            rw [HZ2.out, List.append_nil]; exact HQ1
          case round =>
            obtain ⟨j2, p2, rfl, hj2, HQ, HP2, HLQ⟩ := hrel
            have hpj2 : p2 ≤ p + 1 + j2 := by rw [← HP2.out, List.length_append, List.length_append, HP.out]; have := HL2.out j2; simp; omega
            have hXq : X ≤ wr.heap.size := by have := HLQ.out.size; have := HXr.out; omega
            by_cases hjl : j2 < j
            · have hjl1 : (j2 : Int) < (j : Int) := by omega
              have hjl0 : (0 : Int) ≤ (j2 : Int) := by omega
              obtain ⟨zb2, zo2, hza, zc⟩ := (HAR.out.below HLQ.out HHX.out).num (i := k) (by rw [HN.out]; exact hlt)
              obtain ⟨yb, yo, hya, yc⟩ := (HOI.out.below HLQ.out (Nat.le_refl _)).num (i := j2) (by rw [HM.out]; omega)
              rw [← HZ.out] at zc
              obtain ⟨y, HY⟩ : ∃ y, Hid (y = OL.getD j2 0) := ⟨_, rfl⟩
              rw [← HY.out] at yc
              have HS1 : Hid (F2 (j2 + 1) = F2 j2 ++ (if decide (z < y) = true then [y] else [])) := by show _ = _; rw [HST2.out j2 (by omega), HY.out]
              simp only [Option.some.injEq, Addr.mk.injEq, and_true] at hza
              obtain ⟨rfl, rfl⟩ := hza
              subst hya
              by_cases hc : z < y
              · have hd : decide (z < y) = true := decide_eq_true hc
                obtain ⟨LL, HLL⟩ : ∃ LL, Hid (LL = (F1 j ++ [z]) ++ F2 j2) := ⟨_, rfl⟩
                rw [← HLL.out] at HQ
                have HE9 : Hid ((F1 j ++ [z]) ++ F2 (j2 + 1) = LL ++ [y]) := by show _ = _; rw [HLL.out, HS1.out, hd]; simp
                clear HS1
                go_wp2_with fail
                go_quiet (fail)
                have HQd : Hid ((wr.drewN nq).ownsRow X 3 1 _ p2 (rowCells LL)) := HQ
                have HLQd : Hid (Below X Wr (wr.drewN nq)) := below_drewN HLQ.out _
                have hown := HQd.out.alloc (.cells #[.int .i64 y] 3)
                have zcd : (wr.drewN nq).cell? ⟨yb, yo + j2, none⟩ = some (.int .i64 y) := yc
                have hXqd : X ≤ (wr.drewN nq).heap.size := hXq
                clear zc yc
                go_wp2_with (at_builtin; refine wpList_append_lies _ rfl (.tmp 60) (.tmp 65) 39 rfl X 3 i0 (.int .i64 0) 1 8 Try.underlying39 hi0 hz0 hz1 hz2 rfl (by decide) _ p2 (rowCells LL) rfl hown ⟨wr.heap.size, 0, none⟩ 1 1 [.int .i64 y] rfl rfl (cell_one_new' (wr.drewN nq) _ _) (by simp [Value.oneCell']) (by decide) (by unfold maxLen; omega) (by omega) (by simp; omega) _ rfl ?_)
                intro g1 cap1 w1 hown1 hgrow1 _ _
                have HQ1 : Hid (w1.ownsRow X 3 1 (.slice (some ⟨g1, 0, none⟩) (p2 + 1) cap1) (p2 + 1) (rowCells (LL ++ [y]))) := by rw [rowCells_snoc]; exact hown1
                have HLQ1 : Hid (Below X Wr w1) := (HLQd.out.alloc hXqd _).grown hgrow1 (by simp; omega) (fun k hk => (HQ.out.lt k hk).1)
                clear hown hown1 hgrow1
                go_wp2
                go_roundw
                case rel => exact ⟨j2 + 1, p2 + 1, by go_num, by omega, by rw [HE9.out]; exact HQ1, by show _ = _; rw [HE9.out, List.length_append, HLL.out, HP2.out]; rfl, HLQ1⟩
                case measure => simp [intOf]; omega
              · have hd : decide (z < y) = false := decide_eq_false hc
                have HE9 : Hid ((F1 j ++ [z]) ++ F2 (j2 + 1) = (F1 j ++ [z]) ++ F2 j2) := by show _ = _; rw [HS1.out, hd]; simp
                clear HS1
                go_wp2_with fail
                go_quiet (fail)
                have HLQd : Hid (Below X Wr (wr.drewN nq)) := below_drewN HLQ.out _
                go_wp2
                go_roundw
                case rel => exact ⟨j2 + 1, p2, by go_num, by omega, by rw [HE9.out]; exact HQ, by show _ = _; rw [HE9.out, HP2.out], HLQd⟩
                case measure => simp [intOf]; omega
            · obtain rfl : j2 = j := by omega
              have HFIN := HQ.out
              rw [List.append_assoc, List.singleton_append, ← HPUT.out, ← HSTEP.out] at HFIN
              have HFX : Hid (wr.ownsRow X 3 1 _ p2 (rowCells (nextL (zs.take (k + 1))))) := HFIN
              have HFL : Hid ((nextL (zs.take (k + 1))).length = p2) := by have h := HP2.out; rw [List.append_assoc, List.singleton_append, ← HPUT.out, ← HSTEP.out] at h; exact h
              clear HFIN
              go_wp2
              go_roundw
              case rel => exact ⟨k + 1, p2, by go_num, by omega, owns_low HFX.out HBX.out, HFL, HLr.out.trans (HLQ.out.mono HBX.out)⟩
              case measure => simp [intOf]; omega
    · obtain rfl : k = n := by omega
      have HT : Hid (nextL (zs.take k) = nextL zs) := by show _ = _; rw [List.take_of_length_le (by rw [HN.out]; exact Nat.le_refl _)]
      rw [HT.out] at HO HM
      obtain ⟨a9, cap9, hv9, HR9⟩ := rowOwn_of HO.out HM.out
      have HR9' : Hid (RowOwn B wr.heap.size wr a9 (nextL zs)) := HR9
      subst hv9
      go_wp2
      go_ret
      exact ⟨a9, m, cap9, rfl, HM, by rw [← HB.out]; exact HR9', by rw [← HB.out]; exact HL⟩
end Go.Proofs.Ytelikebpddhncaa

/-
  laws.sameGraph at equal graphs; laws.in.
-/
namespace Go.Proofs.Ytelikebpddhncaa
open Go.RowKit

set_option maxRecDepth 100000 in
theorem neq_edge (x0 x1 x2 : Int) (w : World) : (binOp .neq 42 (.agg #[.int .i64 x0, .int .u8 x1, .int .i64 x2]) (.agg #[.int .i64 x0, .int .u8 x1, .int .i64 x2])).run Try.prog w = .ok (.bool false) w := by
  have u3 := Try.underlying3
  have a3 := Try.isAgg3
  have z3 := Try.sizeOf3
  have u5 := Try.underlying5
  have a5 := Try.isAgg5
  have z5 := Try.sizeOf5
  have hS : Try.prog.underlying 42 = some (.struct (Try.prog.fieldsOf 42)) := by kernel_rfl
  have hp : Try.prog.stoodInHeld 42 = false := by kernel_rfl
  rw [run_neq_struct, show (10000 : Nat) = 9999 + 1 from rfl, run_equalIn_agg w 9999 42 _ _ hS hp]
  simp only [Program.fieldsOf, Try.underlying42]
  go_simp
  try simp

set_option maxHeartbeats 2000000 in
set_option maxRecDepth 100000 in
theorem sameGraph_any (lo hi lo' hi' : Nat) (s : Int) (a a' : Option Addr) (n cap cap' : Nat) (l : List Ed) (w : World) (ha : EdgesIn lo hi w a l) (hb : EdgesIn lo' hi' w a' l) (hh : hi ≤ w.heap.size) (hh' : hi' ≤ w.heap.size) (hn : l.length = n) (hm : n ≤ 1048576) :
    Calls Try.prog 29 #[gv s a n cap, gv s a' n cap'] w fun e w' => e = .returned (.bool true) ∧ Hid (Below w.heap.size w w') := by
  have HN : Hid (l.length = n) := hn
  have HA : Hid (EdgesIn lo hi w a l) := ha
  have HBB : Hid (EdgesIn lo' hi' w a' l) := hb
  have HH : Hid (hi ≤ w.heap.size ∧ hi' ≤ w.heap.size) := ⟨hh, hh'⟩
  obtain ⟨B, HB⟩ : ∃ B, Hid (B = w.heap.size) := ⟨_, rfl⟩
  clear ha hb hn hh hh'
  have HK0 : Hid (Blk ((w.alloc (.cells #[.int .i64 s, .slice a n cap] 37)).alloc (.cells #[.int .i64 s, .slice a' n cap'] 37)) B 2 (fun i => if i = 0 then .int .i64 s else .slice a n cap)) := (blk_two w B HB.out _ _ _).alloc _
  have HK1 : Hid (Blk ((w.alloc (.cells #[.int .i64 s, .slice a n cap] 37)).alloc (.cells #[.int .i64 s, .slice a' n cap'] 37)) (B + 1) 2 (fun i => if i = 0 then .int .i64 s else .slice a' n cap')) := blk_two _ (B + 1) (by rw [HB.out]; simp) _ _ _
  go_enter Try.func29, Try.ntmps29
  go_wp2
  rw [← HB.out]
  go_loopw [5] (fun i wr => ∃ k : Nat, i = .int .i64 k ∧ k ≤ n ∧ Hid (Blk wr B 2 (fun i => if i = 0 then .int .i64 s else .slice a n cap)) ∧ Hid (Blk wr (B + 1) 2 (fun i => if i = 0 then .int .i64 s else .slice a' n cap')) ∧ Hid (Below w.heap.size w wr)) (fun i _ => n - (intOf i).toNat)
  case atStart => exact ⟨0, rfl, by omega, HK0, HK1, below2 w _ _⟩
  case round =>
    obtain ⟨k, rfl, hk, HKA, HKB, HL⟩ := hrel
    have q0 : wr.cell? ⟨B, 1, none⟩ = some (.slice a n cap) := HKA.out.cell (i := 1) (by omega)
    have q1 : wr.cell? ⟨B + 1, 1, none⟩ = some (.slice a' n cap') := HKB.out.cell (i := 1) (by omega)
    by_cases hlt : k < n
    · have hlt1 : (k : Int) < (n : Int) := by omega
      have hlt0 : (0 : Int) ≤ (k : Int) := by omega
      obtain ⟨b, o, rfl, _, _, hx⟩ := (HA.out.below HL.out HH.out.1).edge (k := k) (by rw [HN.out]; exact hlt)
      obtain ⟨b', o', rfl, _, _, hx'⟩ := (HBB.out.below HL.out HH.out.2).edge (k := k) (by rw [HN.out]; exact hlt)
      obtain ⟨x, HXX⟩ : ∃ x : Ed, Hid (x = eat l k) := ⟨_, rfl⟩
      rw [← HXX.out] at hx hx'
      obtain ⟨x0, x1, x2⟩ := x
      obtain ⟨p0, p1, p2⟩ := hx
      obtain ⟨p0', p1', p2'⟩ := hx'
      dsimp only at p0 p1 p2 p0' p1' p2'
      have hq := fun w => neq_edge x0 x1 x2 w
      go_wp2
      go_quiet (fail)
      go_wp2
      go_round
      case rel => exact ⟨k + 1, by go_num, by omega, HKA.out.of_block rfl, HKB.out.of_block rfl, below_drewN HL.out _⟩
      case measure => simp [intOf]; omega
    · obtain rfl : k = n := by omega
      go_wp2
      go_ret
      exact ⟨rfl, HL⟩

set_option maxHeartbeats 1000000 in
set_option maxRecDepth 100000 in
theorem in_any (lo hi : Nat) (a : Option Addr) (n cap : Nat) (l : List Int) (x : Int) (w : World) (ha : RowIn lo hi w a l) (hn : l.length = n) (hm : n ≤ 1048576) (hx : x ∈ l) :
    Calls Try.prog 26 #[.slice a n cap, .int .i64 x] w fun e w' => e = .returned (.bool true) ∧ Hid (Below w.heap.size w w') := by
  obtain ⟨j, hj, hjx⟩ := List.getElem_of_mem hx
  rcases ha with h0 | ⟨b, o, rfl, _, _, hc⟩
  · subst h0; simp at hj
  have HC : Hid (∀ i, i < l.length → w.cell? ⟨b, o + i, none⟩ = some (.int .i64 (l.getD i 0))) := fun i hi => hc i hi
  have HJ : Hid (l.getD j 0 = x) := by show _ = _; rw [← hjx]; simp [List.getD, hj]
  have HN : Hid (l.length = n) := hn
  have hj' : j < n := by omega
  clear hc hx hjx hj hn
  go_enter Try.func26, Try.ntmps26
  go_wp2
  go_loop [5] (fun i => ∃ k : Nat, i = .int .i64 k ∧ k ≤ j) (fun i => n - (intOf i).toNat)
  case atStart => exact ⟨0, rfl, by omega⟩
  case round =>
    obtain ⟨k, rfl, hk⟩ := hrel
    have hlt1 : (k : Int) < (n : Int) := by omega
    have hlt0 : (0 : Int) ≤ (k : Int) := by omega
    obtain ⟨z, HZ⟩ : ∃ z : Int, Hid (z = l.getD k 0) := ⟨_, rfl⟩
    have hcell : w.cell? ⟨b, o + k, none⟩ = some (.int .i64 z) := by rw [HZ.out]; exact HC.out k (by rw [HN.out]; omega)
    by_cases he : z = x
    · subst he
      go_wp2
      go_ret
      exact ⟨rfl, Below.refl _ _⟩
    · have hne : k < j := by
        rcases Nat.lt_or_ge k j with h | h
        · exact h
        · obtain rfl : k = j := by omega
          exact absurd (HZ.out.trans HJ.out) he
      go_wp2
      go_round
      case rel => exact ⟨k + 1, by go_num, by omega⟩
      case measure => simp [intOf]; omega
end Go.Proofs.Ytelikebpddhncaa

/-
  How the model reads a bag, in plain mathematics: it reads what the program reads. What its walk keeps at hand.
-/
namespace Go.Proofs.Ytelikebpddhncaa
open Go.RowKit sp

def sNums : Nat → St → List Int × St
  | 0, st => ([], st)
  | _ + 1, none => ([], none)
  | m + 1, some r => (((rn (some r) 1000000000).1 : Int) :: (sNums m (rn (some r) 1000000000).2).1, (sNums m (rn (some r) 1000000000).2).2)
def sItem (st : St) : It × St :=
  (((sNums (min (rn st 1000000000).1 10) (rn st 1000000000).2).1, ((rn (sNums (min (rn st 1000000000).1 10) (rn st 1000000000).2).2 1000000000).1 : Int)), (rn (sNums (min (rn st 1000000000).1 10) (rn st 1000000000).2).2 1000000000).2)
def sItems : Nat → St → List It × St
  | 0, st => ([], st)
  | _ + 1, none => ([], none)
  | m + 1, some r => ((sItem (some r)).1 :: (sItems m (sItem (some r)).2).1, (sItems m (sItem (some r)).2).2)
def specRead (s : List UInt8) : List It × Bool :=
  let y := sItems (min (rn (some s) 1000000000).1 310) (rn (some s) 1000000000).2
  (y.1, decide (y.2 ≠ none) && okBag y.1 && decide (txtTo y.1 y.1.length = s))

theorem sNums_none (m : Nat) : sNums m none = ([], none) := by cases m <;> rfl
theorem sItems_none (m : Nat) : sItems m none = ([], none) := by cases m <;> rfl
theorem sNums_zero (st : St) : sNums 0 st = ([], st) := by cases st <;> rfl
theorem sItems_zero (st : St) : sItems 0 st = ([], st) := by cases st <;> rfl
theorem sNums_succ (m : Nat) {st : St} (h : st ≠ none) : sNums (m + 1) st = (((rn st 1000000000).1 : Int) :: (sNums m (rn st 1000000000).2).1, (sNums m (rn st 1000000000).2).2) := by
  cases st with
  | none => exact absurd rfl h
  | some r => rfl
theorem sItems_succ (m : Nat) {st : St} (h : st ≠ none) : sItems (m + 1) st = ((sItem st).1 :: (sItems m (sItem st).2).1, (sItems m (sItem st).2).2) := by
  cases st with
  | none => exact absurd rfl h
  | some r => rfl
theorem rn_back {most n : Nat} {r' : List UInt8} (hm : most ≤ 1000000000) (h : n ≤ most) : rn (some (varB 9 n ++ r')) most = (n, some r') := (rn_iff hm).2 ⟨h, rfl⟩
theorem sNums_back (l : List Int) (hl : ∀ x ∈ l, 0 ≤ x ∧ x ≤ 99) (r' : List UInt8) : sNums l.length (some (vt l ++ r')) = (l, some r') := by
  induction l with
  | nil => simp [sNums, vt]
  | cons x xs ih =>
    obtain ⟨n, rfl⟩ := Int.eq_ofNat_of_zero_le (hl x (by simp)).1
    have hn := (hl _ (List.mem_cons_self ..)).2
    have e2 : vt ((n : Int) :: xs) ++ r' = varB 9 n ++ (vt xs ++ r') := by simp [vt, vb]
    rw [e2, List.length_cons, sNums_succ _ (by simp), rn_back (by omega) (by omega)]
    simp only []
    rw [ih (fun y hy => hl y (List.mem_cons_of_mem _ hy))]
theorem sItem_back {x : It} (hx : okItem x.1 x.2 = true) (r' : List UInt8) : sItem (some (itemTxt x ++ r')) = (x, some r') := by
  have h1 := okItem_row hx
  have h2 := okItem_times hx
  obtain ⟨t, ht⟩ := Int.eq_ofNat_of_zero_le (show 0 ≤ x.2 by omega)
  have e0 : itemTxt x ++ r' = varB 9 x.1.length ++ (vt x.1 ++ (varB 9 t ++ r')) := by unfold itemTxt; rw [vb_nat, ht, vb_nat]; simp
  have a2 : sNums x.1.length (some (vt x.1 ++ (varB 9 t ++ r'))) = (x.1, some (varB 9 t ++ r')) := sNums_back x.1 (fun y hy => by
    obtain ⟨i, hi, rfl⟩ := List.getElem_of_mem hy
    have := h1.2 i hi
    simpa [List.getD, hi] using this) _
  unfold sItem
  rw [e0, rn_back (by omega) (by omega)]
  simp only []
  rw [show min x.1.length 10 = x.1.length by omega, a2]
  simp only []
  rw [rn_back (by omega) (by omega), ← ht]
theorem sItems_back (l : List It) (hl : ∀ x ∈ l, okItem x.1 x.2 = true) (r' : List UInt8) : sItems l.length (some (l.flatMap itemTxt ++ r')) = (l, some r') := by
  induction l with
  | nil => simp [sItems]
  | cons x xs ih =>
    rw [List.flatMap_cons, List.append_assoc, List.length_cons, sItems_succ _ (by simp), sItem_back (hl x (List.mem_cons_self ..))]
    simp only []
    rw [ih (fun y hy => hl y (List.mem_cons_of_mem _ hy))]
theorem specRead_back {l : List It} (h : okBag l = true) : specRead (txtTo l l.length) = (l, true) := by
  have h3 := okBag_len h
  have a1 : rn (some (txtTo l l.length)) 1000000000 = (l.length, some (l.flatMap itemTxt)) := by rw [txt_all]; exact rn_back (by omega) (by omega)
  have a2 : sItems l.length (some (l.flatMap itemTxt)) = (l, some []) := by have := sItems_back l (ok_items h) []; rwa [List.append_nil] at this
  unfold specRead
  rw [a1]
  simp only []
  rw [show min l.length 310 = l.length by omega, a2]
  simp [h]
/-- both read the same -/
theorem specRead_yes {s : List UInt8} (h : (specRead s).2 = true) : implRead s = ((specRead s).1, true) := by
  simp only [specRead, Bool.and_eq_true, decide_eq_true_eq] at h ⊢
  obtain ⟨⟨_, h2⟩, h3⟩ := h
  have := implRead_back h2
  rwa [h3] at this
theorem specRead_no {s : List UInt8} (h : (specRead s).2 = false) : (implRead s).2 = false := by
  rcases hv : (implRead s).2 with _ | _
  · rfl
  · obtain ⟨h1, h2⟩ := implRead_yes hv
    have h3 := specRead_back h1
    rw [← h2] at h3
    rw [h3] at h; cases h

theorem RdAt.flag {T : TypeId} {c : Nat} {s : ByteArray} {st : St} {w : World} (h : RdAt T c s st w) : w.cell? ⟨c, 2, none⟩ = some (.bool st.isNone) := by
  obtain ⟨p, f, hb, _, rfl⟩ := h
  rw [Lib.cell_of_heap hb]
  cases f <;> rfl

/-- what the walk keeps at hand -/
structure SOut (B M : Nat) (w wi : World) (s : ByteArray) (st : St) (v : Value) (L : List It) : Prop where
  rd : RdAt 90 (B + 1) s st wi
  bv : Blk wi (B + 1 + 1) 1 (fun _ => v)
  laid : LaidO (B + 1 + 1 + 1) M wi v L
  res : Blk wi B 1 (fun _ => .slice none 0 0)
  bel : Below B w wi
  low : B + 1 + 1 + 1 ≤ M
  size : M ≤ wi.heap.size
  vlt : ∀ k, v.ownBlock = some k → k < M
theorem LaidO.upto {B M : Nat} {w w' : World} {v : Value} {l : List It} (h : LaidO B M w v l) (hv : ∀ k, v.ownBlock = some k → k < M) (hb : ∀ k, B ≤ k → k < M → w'.heap[k]? = w.heap[k]?) : LaidO B M w' v l := by
  obtain ⟨f, R, C, h1, h2⟩ := h
  refine ⟨f, R, C, ?_, fun i hi => ⟨(h2 i hi).1, ?_, (h2 i hi).2.2⟩⟩
  · refine ⟨h1.1, ?_⟩
    rcases h1.2 with h3 | ⟨g, cap, cur, rfl, h3, h4, h5⟩
    · exact .inl h3
    · exact .inr ⟨g, cap, cur, rfl, h3, by rw [hb g h3 (hv g rfl)]; exact h4, h5⟩
  · rcases (h2 i hi).2.1 with h3 | ⟨c, e, h3, h4, h5⟩
    · exact .inl h3
    · exact .inr ⟨c, e, h3, h4, h5.of_block (hb c h3 h4)⟩
theorem owns_kept {B e s n : Nat} {w w' : World} {v : Value} {xs : List Value} (ho : w.ownsRow B e s v n xs) (hb : ∀ k, B ≤ k → k < w.heap.size → w'.heap[k]? = w.heap[k]?) : w'.ownsRow B e s v n xs := by
  refine ⟨ho.1, ?_⟩
  rcases ho.2 with hn | ⟨g, cap, cur, rfl, hg, hh, r⟩
  · exact .inl hn
  · exact .inr ⟨g, cap, cur, rfl, hg, by rw [hb g hg (Array.getElem?_eq_some_iff.1 hh).1]; exact hh, r⟩
theorem SOut.over {B M : Nat} {w wi w' : World} {s : ByteArray} {st : St} {v : Value} {L : List It} (h : SOut B M w wi s st v L) (hb : Below M wi w') : SOut B M w w' s st v L :=
  have hl := h.low
  ⟨h.rd.below hb (by omega), h.bv.of_block (hb.block _ (by omega)), h.laid.upto h.vlt (fun k _ hk => hb.block k hk), h.res.of_block (hb.block _ (by omega)), h.bel.trans (hb.mono (by omega)), h.low, Nat.le_trans h.size hb.size, h.vlt⟩
theorem SOut.num {B M : Nat} {w wi w' : World} {s : ByteArray} {st st' : St} {v : Value} {L : List It} (h : SOut B M w wi s st v L) (hk : KeptBut (B + 1) wi w') (hr : RdAt 90 (B + 1) s st' w') : SOut B M w w' s st' v L :=
  have hl := h.low
  have hs := h.size
  ⟨hr, blk_but h.bv hk (by omega), h.laid.upto h.vlt (fun k _ _ => hk.block k (by omega) (by omega)), blk_but h.res hk (by omega), h.bel.trans (hk.to_below (by omega) (by omega)), h.low, Nat.le_trans h.size hk.size, h.vlt⟩
/-- with an item at X whose row is being read -/
structure SIn (B X : Nat) (w wi : World) (s : ByteArray) (st : St) (v : Value) (L : List It) (vr : Value) (j : Nat) (l : List Int) : Prop where
  out : SOut B X w wi s st v L
  x : Blk wi X 2 (fun i => if i = 0 then vr else .int .i64 0)
  own : wi.ownsRow (X + 1) 3 1 vr j (rowCells l)
  len : l.length = j
theorem SIn.num {B X : Nat} {w wi w' : World} {s : ByteArray} {st st' : St} {v vr : Value} {L : List It} {j : Nat} {l : List Int} (h : SIn B X w wi s st v L vr j l) (hk : KeptBut (B + 1) wi w') (hr : RdAt 90 (B + 1) s st' w') : SIn B X w w' s st' v L vr j l :=
  have hl := h.out.low
  ⟨h.out.num hk hr, blk_but h.x hk (by omega), owns_kept h.own (fun k h1 h2 => hk.block k h2 (by omega)), h.len⟩
theorem SIn.drew {B X : Nat} {w wi : World} {s : ByteArray} {st : St} {v vr : Value} {L : List It} {j : Nat} {l : List Int} (h : SIn B X w wi s st v L vr j l) : SIn B X w wi.drew s st v L vr j l :=
  ⟨h.out.over (Below.refl _ _).drew, h.x, h.own, h.len⟩
theorem SIn.push {B X : Nat} {w w4 w5 : World} {s : ByteArray} {st : St} {v vr v' : Value} {L : List It} {j : Nat} {l : List Int} {t : Int} (h : SIn B X w w4 s st v L vr j l) {o : Obj} (hg : (w4.alloc o).grownBy w5 vr.ownBlock) (ho : w5.ownsRow (X + 1) 3 1 v' (j + 1) (rowCells l ++ [.int .i64 t])) :
    SIn B X w (w5.setCell ⟨X, 0, none⟩ v') s st v L v' (j + 1) (l ++ [t]) := by
  have hX := h.x.lt
  have hb1 : Below (X + 1) w4 (w4.alloc o) := (Below.refl _ _).alloc (by omega) _
  have hb2 : Below (X + 1) w4 w5 := hb1.grown hg (by simp; omega) (fun k hk => (h.own.lt k hk).1)
  refine ⟨h.out.over ((hb2.mono (Nat.le_succ _)).setCell (by simp) _), ?_, owns_kept (xs := rowCells (l ++ [t])) (by simpa [rowCells] using ho) (fun k h1 _ => Below.heap_setCell _ _ _ _ (by simp; omega)), by rw [List.length_append, h.len]; rfl⟩
  exact ((h.x.of_block (hb2.block X (by omega))).set 0 (by omega) _).congr (fun i _ => by by_cases e : i = 0 <;> simp [e])
/-- an item more -/
theorem SOut.push {B X : Nat} {w w8 w9 : World} {s : ByteArray} {st : St} {v v' : Value} {L : List It} {x : It} {f : Nat → Value} {R : Nat → Option Addr} {C : Nat → Nat} {ra : Option Addr} {rc : Nat} (h : SOut B X w w8 s st v L)
    (h2 : ∀ i, i < L.length → (f (i * 2) = .slice (R i) (at' L i).1.length (C i) ∧ f (i * 2 + 1) = .int .i64 (at' L i).2) ∧ RowOwn (B + 1 + 1 + 1) X w8 (R i) (at' L i).1 ∧ Off v (R i) (at' L i).1 ∧ ((at' L i).1 ≠ [] → ∀ j, j < i → (at' L j).1 ≠ [] → R j ≠ R i))
    (hr : RowOwn X w8.heap.size w8 ra x.1) (hg : w8.grownBy w9 v.ownBlock) (hloc : v'.ownBlock = v.ownBlock ∨ v'.ownBlock = some w8.heap.size)
    (ho : w9.ownsRow (B + 1 + 1 + 1) 77 2 v' (L.length + 1) ((List.range (L.length * 2)).map f ++ [.slice ra x.1.length rc, .int .i64 x.2])) : SOut B w9.heap.size w (w9.setCell ⟨B + 1 + 1, 0, none⟩ v') s st v' (L ++ [x]) := by
  have hl := h.low
  have hs := h.size
  have hb : Below (B + 1 + 1 + 1) w8 w9 := (Below.refl _ _).grown hg (by omega) (fun k hk => by
    obtain ⟨f', R', C', h1, _⟩ := h.laid
    exact (h1.lt k hk).1)
  have hz := hb.size
  have hd : LaidO (B + 1 + 1 + 1) w8.heap.size w9 v' (L ++ [x]) := LaidO.snoc (M := X) (M' := w8.heap.size) h2 hr (fun hne c o e hc => by
    rcases hr with h3 | ⟨c', e', h3, _, _⟩
    · exact hne h3
    · rw [e] at e'
      simp only [Option.some.injEq, Addr.mk.injEq] at e'
      have := h.vlt c hc
      omega) hl hs (Nat.le_refl _) hg hloc ho
  have hvlt : ∀ k, v'.ownBlock = some k → k < w9.heap.size := fun k hk => (ho.lt k hk).2
  refine ⟨?_, ?_, ?_, ?_, ?_, by omega, by simp, hvlt⟩
  · obtain ⟨p, f, h1, h2⟩ := h.rd.below hb (by omega)
    exact ⟨p, f, by rw [Below.heap_setCell _ _ _ _ (by simp)]; exact h1, h2⟩
  · exact ((h.bv.of_block (hb.block _ (by omega))).set 0 (by omega) _).congr (fun i hi => by simp [show i = 0 by omega])
  · exact (hd.wide hz).upto hvlt (fun k h1 _ => Below.heap_setCell _ _ _ _ (by simp; omega))
  · exact (h.res.of_block (hb.block _ (by omega))).of_block (Below.heap_setCell _ _ _ _ (by simp; omega))
  · exact (h.bel.trans (hb.mono (by omega))).setCell (by simp; omega) _
end Go.Proofs.Ytelikebpddhncaa

/-
  spec.ReadGraph.
-/
namespace Go.Proofs.Ytelikebpddhncaa
open Go.RowKit

theorem rb_lt (st : St) : (rb st).1 < 256 := by
  unfold rb
  split
  · omega
  · omega
  · rename_i c r; exact c.toNat_lt

set_option maxHeartbeats 4000000 in
set_option maxRecDepth 100000 in
theorem specReadG_any (s : ByteArray) (w : World) (hs : s.size ≤ 1048576) :
    Calls Try.prog 39 #[.string s] w fun e w' => ∃ (z : Int) (v : Value) (ok : Bool), e = .returned (.tuple #[.agg #[.int .i64 z, v], .bool ok]) ∧ Hid (ok = (implReadG s.data.toList).2) ∧ Hid (z = if ok = true then (implReadG s.data.toList).1.1 else 0) ∧ Hid (∃ a cap, v = .slice a (if ok = true then (implReadG s.data.toList).1.2 else []).length cap ∧ EdgesOwn w.heap.size w'.heap.size w' a (if ok = true then (implReadG s.data.toList).1.2 else [])) ∧ Hid (Below w.heap.size w w') := by
  obtain ⟨i1, hj0, hy0, hy1, hy2⟩ := info_parts Try.info42
  obtain ⟨B, HB⟩ : ∃ B, Hid (B = w.heap.size) := ⟨_, rfl⟩
  go_enter Try.func39, Try.ntmps39
  go_wp2_with fail
  rw [← HB.out]
  have hrd0 : RdAt 90 (B + 1) s (some s.data.toList) ((w.alloc (.cells #[.int .i64 0, .slice none 0 0] 37)).alloc (.cells #[.string s, .int .i64 0, .bool false] 90)) := by
    refine ⟨0, false, ?_, Nat.zero_le _, rfl⟩
    rw [HB.out]
    have := heap_new (w.alloc (.cells #[.int .i64 0, .slice none 0 0] 37)) (.cells #[.string s, .int .i64 0, .bool false] 90)
    simpa using this
  refine (l03Var_any (B + 1) s (some s.data.toList) _ hrd0 hs).mono ?_
  rintro e w1 ⟨Z, rfl, HZ, HRD1, HK1⟩
  have HP0 : Hid (Blk w1 B 2 (fun i => if i = 0 then .int .i64 0 else .slice none 0 0)) := blk_but ((blk_two w B HB.out _ _ _).alloc _) HK1.out (by omega)
  have HL1 : Hid (Below B w w1) := by
    have h := HK1.out.to_below (B := B) (by omega) (by rw [HB.out]; simp; omega)
    rw [HB.out] at h ⊢
    exact (below2 w _ _).trans h
  have HS1 : Hid (B + 1 + 1 ≤ w1.heap.size) := by have := HK1.out.size; rw [HB.out]; simpa [Hid] using this
  obtain ⟨P, HP⟩ : ∃ P, Hid (P = w1.heap.size) := ⟨_, rfl⟩
  have HG0 : Hid (GL 90 B P (P + 1) w (w1.alloc (.cells #[.int .i64 (Z : Int), .slice none 0 0] 37)) s (rn (some s.data.toList) 1000000000).2 (Z : Int) (.slice none 0 0) []) := by
    have h1 := HS1.out
    refine ⟨HRD1.out.below (below1 w1 _) (by omega), blk_two w1 P HP.out _ _ _, World.ownsRow_nil _ _ _ _, HP0.out.alloc _, HL1.out.alloc (by omega) _, by rw [HP.out]; omega, by rw [HP.out]; simp, fun k hk => by simp [Value.ownBlock] at hk⟩
  clear hrd0 HK1 HRD1 HP0 HL1 HS1
  go_wp2_with fail
  rw [← HP.out]
  refine (l03Var_any (B + 1) s (rn (some s.data.toList) 1000000000).2 _ HG0.out.rd hs).mono ?_
  rintro e w2 ⟨N0, rfl, HN0, HRD2, HK2⟩
  have HG2 : Hid (GL 90 B P (P + 1) w w2 s (rn (rn (some s.data.toList) 1000000000).2 1000000000).2 (Z : Int) (.slice none 0 0) []) := HG0.out.num HK2.out HRD2.out
  obtain ⟨N, hN⟩ : ∃ N, N = min N0 50 := ⟨_, rfl⟩
  have hN4 : N ≤ 50 := by omega
  obtain ⟨st0, HST⟩ : ∃ st0, Hid (st0 = (rn (rn (some s.data.toList) 1000000000).2 1000000000).2) := ⟨_, rfl⟩
  rw [← HST.out] at HG2
  have HN : Hid (N = min (rn (rn (some s.data.toList) 1000000000).2 1000000000).1 50) := by rw [← HN0.out]; exact hN
  clear HG0 HK2 HRD2
  go_wp2
  go_loopw [7] (fun i wr => ∃ (k : Nat) (L : List Ed) (st : St) (v : Value) (M : Nat), i = .int .i64 k ∧ k ≤ N ∧ Hid (sEdges N st0 = (L ++ (sEdges (N - k) st).1, (sEdges (N - k) st).2)) ∧ Hid (L.length = k) ∧ Hid (GL 90 B P M w wr s st (Z : Int) v L)) (fun i _ => N - (intOf i).toNat)
  case atStart => exact ⟨0, [], st0, .slice none 0 0, P + 1, rfl, by omega, by show _ = _; simp, rfl, HG2⟩
  case round =>
    obtain ⟨k, L, st, v, M, rfl, hk, HE, HLN, HG⟩ := hrel
    have cf := HG.out.rd.flag
    obtain ⟨bad, hbad⟩ : ∃ bad, st.isNone = bad := ⟨_, rfl⟩
    rw [hbad] at cf
    have HBAD : Hid (st.isNone = bad) := hbad
    clear hbad
    by_cases hgo : k < N ∧ bad = false
    · obtain ⟨hlt, hbf⟩ := hgo
      subst hbf
      have HNN : Hid (st ≠ none) := by intro e; have := HBAD.out; rw [e] at this; cases this
      have hd0 : decide ((k : Int) < (N0 : Int)) = true := by simp; omega
      have hd5 : decide ((k : Int) < 50) = true := by simp; omega
      go_wp2_with fail
      refine (l03Var_any (B + 1) s st _ HG.out.rd hs).mono ?_
      rintro e w3 ⟨y0, rfl, HY0, HRD3, HK3⟩
      have HG3 : Hid (GL 90 B P M w w3 s (rn st 1000000000).2 (Z : Int) v L) := HG.out.num HK3.out HRD3.out
      obtain ⟨E, HEE⟩ : ∃ E, Hid (E = w3.heap.size) := ⟨_, rfl⟩
      have HME : Hid (M ≤ E) := by rw [HEE.out]; exact HG3.out.size
      have hlo := HG3.out.low
      have hBE : E ≠ B + 1 := by have := HME.out; omega
      clear hlo
      have HG4' : Hid (GL 90 B P M w (w3.alloc (.cells #[.int .i64 (y0 : Int), .int .u8 0, .int .i64 0] 42)) s (rn st 1000000000).2 (Z : Int) v L) := HG3.out.over ((Below.refl _ _).alloc HG3.out.size _)
      have HX4' : Hid (Blk (w3.alloc (.cells #[.int .i64 (y0 : Int), .int .u8 0, .int .i64 0] 42)) E 3 (fun i => if i = 0 then .int .i64 (y0 : Int) else if i = 1 then .int .u8 0 else .int .i64 0)) := blk_three w3 E HEE.out _ _ _ _
      clear HG HG3 HK3 HRD3 cf
      go_wp2_with fail
      rw [← HEE.out]
      refine (l03Byte_any (B + 1) s (rn st 1000000000).2 _ HG4'.out.rd hs).mono ?_
      rintro e w5 ⟨y1, rfl, HY1, HRD5, HK5⟩
      have hy8 : (y1 : Int) % 256 = (y1 : Int) := by have := rb_lt (rn st 1000000000).2; rw [← HY1.out] at this; omega
      have HG5 : Hid (GL 90 B P M w w5 s (rb (rn st 1000000000).2).2 (Z : Int) v L) := HG4'.out.num HK5.out HRD5.out
      have HX5 : Hid (Blk w5 E 3 (fun i => if i = 0 then .int .i64 (y0 : Int) else if i = 1 then .int .u8 0 else .int .i64 0)) := blk_but HX4'.out HK5.out hBE
      have HG5' : Hid (GL 90 B P M w (w5.setCell ⟨E, 1, none⟩ (.int .u8 (y1 : Int))) s (rb (rn st 1000000000).2).2 (Z : Int) v L) := HG5.out.over ((Below.refl _ _).setCell HME.out _)
      have HX5' : Hid (Blk (w5.setCell ⟨E, 1, none⟩ (.int .u8 (y1 : Int))) E 3 (fun i => if i = 0 then .int .i64 (y0 : Int) else if i = 1 then .int .u8 (y1 : Int) else .int .i64 0)) := HX5.out.put1 _
      obtain ⟨x50, x51, x52⟩ := blk_three_set HX5.out
      have xf5 := HX5.out.frozen 1
      clear HG4' HX4' HK5 HRD5 HG5 HX5
      go_wp2_with fail
      refine (l03Var_any (B + 1) s (rb (rn st 1000000000).2).2 _ HG5'.out.rd hs).mono ?_
      rintro e w6 ⟨y2, rfl, HY2, HRD6, HK6⟩
      obtain ⟨st6, HST6⟩ : ∃ st6, Hid (st6 = (rn (rb (rn st 1000000000).2).2 1000000000).2) := ⟨_, rfl⟩
      rw [← HST6.out] at HRD6
      have HG6 : Hid (GL 90 B P M w w6 s st6 (Z : Int) v L) := HG5'.out.num HK6.out HRD6.out
      have HX6 : Hid (Blk w6 E 3 (fun i => if i = 0 then .int .i64 (y0 : Int) else if i = 1 then .int .u8 (y1 : Int) else .int .i64 0)) := blk_but HX5'.out HK6.out hBE
      obtain ⟨w7, HW7⟩ : ∃ w7, Hid (w7 = w6.setCell ⟨E, 2, none⟩ (.int .i64 (y2 : Int))) := ⟨_, rfl⟩
      have HG7 : Hid (GL 90 B P M w w7 s st6 (Z : Int) v L) := by rw [HW7.out]; exact HG6.out.over ((Below.refl _ _).setCell HME.out _)
      obtain ⟨d0, d1, d2⟩ : w7.cell? ⟨E, 0, none⟩ = some (.int .i64 (y0 : Int)) ∧ w7.cell? ⟨E, 1, none⟩ = some (.int .u8 (y1 : Int)) ∧ w7.cell? ⟨E, 2, none⟩ = some (.int .i64 (y2 : Int)) := by rw [HW7.out]; exact blk_three_set (HX6.out.put2 _)
      have xf6 := HX6.out.frozen 2
      obtain ⟨x60, x61, x62⟩ := blk_three_set HX6.out
      have c1 : w7.cell? ⟨P, 1, none⟩ = some v := HG7.out.g.cell (i := 1) (by omega)
      have hown : (w7.alloc (.cells #[.int .i64 (y0 : Int), .int .u8 (y1 : Int), .int .i64 (y2 : Int)] 42)).ownsRow (P + 1) 42 3 v k (ecells L) := by have h := HG7.out.own.alloc (.cells #[.int .i64 (y0 : Int), .int .u8 (y1 : Int), .int .i64 (y2 : Int)] 42); rwa [HLN.out] at h
      have hP7 : P + 1 ≤ w7.heap.size := by have := HG7.out.low; have := HG7.out.size; omega
      have HG8 : Hid (GL 90 B P M w (w7.alloc (.cells #[.int .i64 (y0 : Int), .int .u8 (y1 : Int), .int .i64 (y2 : Int)] 42)) s st6 (Z : Int) v L) := HG7.out.over ((Below.refl _ _).alloc HG7.out.size _)
      clear x50 x51 x52 xf5 HG5' HX5' HK6 HRD6 HG6
      go_upto_region 10 with fail
      rw [← HW7.out]
      clear x60 x61 x62 xf6 HW7
      go_wp2_with (at_builtin; refine wpList_append_lies _ rfl (.tmp 46) (.tmp 48) 35 rfl (P + 1) 42 i1 _ 3 24 Try.underlying35 hj0 hy0 hy1 hy2 rfl (by decide) v k (ecells L) rfl hown ⟨w7.heap.size, 0, none⟩ 1 1 [.int .i64 (y0 : Int), .int .u8 (y1 : Int), .int .i64 (y2 : Int)] rfl rfl (news_three w7 _ _ _ _) (by simp [Value.oneCell']) (by decide) (by unfold maxLen; omega) (by omega) (by simp; omega) _ rfl ?_)
      intro g9 cap9 w9 hown9 hgrow9 _ _
      have HG9 : Hid (GL 90 B P w9.heap.size w (w9.setCell ⟨P, 1, none⟩ (.slice (some ⟨g9, 0, none⟩) (k + 1) cap9)) s st6 (Z : Int) (.slice (some ⟨g9, 0, none⟩) (k + 1) cap9) (L ++ [((y0 : Int), (y1 : Int), (y2 : Int))])) := HG8.out.push hgrow9 (by rw [HLN.out]; exact hown9)
      have hb9 : Below (P + 1) (w7.alloc (.cells #[.int .i64 (y0 : Int), .int .u8 (y1 : Int), .int .i64 (y2 : Int)] 42)) w9 := (Below.refl _ _).grown hgrow9 (by simp; omega) (fun k hk => (hown.lt k hk).1)
      have k9 := HG8.out.g.of_block (hb9.block P (by omega))
      have c9 : w9.cell? ⟨P, 1, none⟩ = some v := k9.cell (i := 1) (by omega)
      have f9 : w9.frozen? ⟨P, 1, none⟩ = false := k9.frozen 1
      clear k9 hb9 hown hown9 hgrow9 HG8 HG7
      go_wp2
      go_roundw
      case rel =>
        refine ⟨k + 1, L ++ [((y0 : Int), (y1 : Int), (y2 : Int))], st6, _, _, by go_num, by omega, ?_, by show _ = _; rw [List.length_append, HLN.out]; rfl, HG9⟩
        show _ = _
        rw [HE.out, show N - k = (N - (k + 1)) + 1 by omega, sEdges_succ _ HNN.out]
        have e : readEdge 1000000000 st = (((y0 : Int), (y1 : Int), (y2 : Int)), st6) := by unfold readEdge; rw [← HY0.out, ← HY1.out, ← HY2.out, ← HST6.out]
        rw [e]; simp
      case measure => simp [intOf]; omega
    · have HFN : Hid (sEdges (N - k) st = ([], st)) := by
        show _ = _
        by_cases h0 : k < N
        · have hb : bad = true := by rcases Bool.eq_false_or_eq_true bad with h | h; exact h; exact absurd ⟨h0, h⟩ hgo
          have : st = none := by have := HBAD.out; rw [hb] at this; cases st with | none => rfl | some r => cases this
          rw [this, sEdges_none]
        · rw [show N - k = 0 by omega, sEdges_zero]
      have HSS : Hid (sEdges N st0 = (L, st)) := by show _ = _; rw [HE.out, HFN.out]; simp
      have HSP : Hid (specReadG s.data.toList = (((Z : Int), L), decide (st ≠ none) && okG (Z : Int) L && decide (gtxtTo (Z : Int) L L.length = s.data.toList))) := by
        show _ = _
        unfold specReadG
        simp only []
        rw [← HZ.out, ← HN.out, ← HST.out, HSS.out]
      obtain ⟨a, cap, rfl, HEO⟩ := edges_own HG.out.own rfl
      rw [HLN.out] at HG
      have HEO' : Hid (EdgesOwn (P + 1) wr.heap.size wr a L) := HEO
      have g0 : wr.cell? ⟨P, 0, none⟩ = some (.int .i64 (Z : Int)) := HG.out.g.cell (i := 0) (by omega)
      have g1 : wr.cell? ⟨P, 1, none⟩ = some (.slice a k cap) := HG.out.g.cell (i := 1) (by omega)
      have HRES : Hid (∀ w0, Below wr.heap.size wr w0 → Calls Try.prog 52 #[gv (Z : Int) a k cap] w0 fun e w' => ∃ (t : ByteArray) (ok : Bool), e = .returned (.tuple #[.string t, .bool ok]) ∧ Hid (ok = okG (Z : Int) L ∧ t = gtxtOf (Z : Int) L) ∧ Hid (Below wr.heap.size wr w')) := fun w0 h =>
        (specGText_any (P + 1) wr.heap.size (Z : Int) a k cap L w0 (HEO'.out.toIn.below h (Nat.le_refl _)) h.size HLN.out (by omega)).mono fun _ _ ⟨t, ok, h1, h2, h3⟩ => ⟨t, ok, h1, h2, h.trans (h3.out.mono h.size)⟩
      clear HEO HE HFN
      have mk : Hid (∀ w2, Below wr.heap.size wr w2 → GL 90 B P M w w2 s st (Z : Int) (.slice a k cap) L ∧ EdgesOwn (P + 1) wr.heap.size w2 a L ∧ wr.heap.size ≤ w2.heap.size) := fun w2 h => ⟨HG.out.over (h.mono HG.out.size), HEO'.out.below h (Nat.le_refl _), h.size⟩
      have fin : Hid (∀ w2 (t : ByteArray) (ok : Bool), GL 90 B P M w w2 s st (Z : Int) (.slice a k cap) L → (ok = okG (Z : Int) L ∧ t = gtxtOf (Z : Int) L) → ((implReadG s.data.toList).2 = (!bad && ok && decide (t = s)) ∧ ((implReadG s.data.toList).2 = true → (implReadG s.data.toList).1 = ((Z : Int), L)))) := by
        intro w2 t ok hg ⟨hok, htx⟩
        have hb : decide (st ≠ none) = !bad := by rw [← HBAD.out]; cases st <;> simp
        have he : (ok && decide (gtxtTo (Z : Int) L L.length = s.data.toList)) = (ok && decide (t = s)) := by
          rcases Bool.eq_false_or_eq_true ok with h | h
          · rw [h, Bool.true_and, Bool.true_and, decide_eq_decide]
            have ht : t.data.toList = gtxtTo (Z : Int) L L.length := by rw [htx]; unfold gtxtOf; rw [← hok, if_pos h]
            rw [← ht]
            constructor
            · intro e; exact ByteArray.ext (Array.toList_inj.1 e)
            · intro e; rw [e]
          · rw [h]; rfl
        have h2 : (specReadG s.data.toList).2 = (!bad && ok && decide (t = s)) := by rw [HSP.out]; simp only []; rw [hb, ← hok, Bool.and_assoc, he, Bool.and_assoc]
        rcases hv : (specReadG s.data.toList).2 with _ | _
        · have h3 := specG_no hv
          rw [h3, ← h2, hv]
          exact ⟨rfl, fun h => by cases h⟩
        · have h3 := specG_yes hv
          rw [h3, ← h2, hv, HSP.out]
          exact ⟨rfl, fun _ => rfl⟩
      by_cases hk50 : k < N0
      · have hd0 : decide ((k : Int) < (N0 : Int)) = true := by simp; omega
        by_cases hk5 : k < 50
        · have hd5 : decide ((k : Int) < 50) = true := by simp; omega
          have hb : bad = true := by rcases Bool.eq_false_or_eq_true bad with h | h; exact h; exact absurd ⟨by omega, h⟩ hgo
          subst hb
          go_wp2_with fail
          refine (HRES.out _ (Below.refl _ _)).mono ?_
          rintro e w2 ⟨t, ok, rfl, HT, HB2⟩
          have HG2' : Hid (GL 90 B P M w w2 s st (Z : Int) (.slice a k cap) L) := (mk.out w2 HB2.out).1
          have HE2 : Hid (EdgesOwn (P + 1) wr.heap.size w2 a L) := (mk.out w2 HB2.out).2.1
          have HS2 : Hid (wr.heap.size ≤ w2.heap.size) := (mk.out w2 HB2.out).2.2
          have HF : Hid ((implReadG s.data.toList).2 = (!true && ok && decide (t = s)) ∧ ((implReadG s.data.toList).2 = true → (implReadG s.data.toList).1 = ((Z : Int), L))) := fin.out w2 t ok HG2'.out HT.out
          have cf2 := HG2'.out.rd.flag
          rw [HBAD.out] at cf2
          have g02 : w2.cell? ⟨P, 0, none⟩ = some (.int .i64 (Z : Int)) := HG2'.out.g.cell (i := 0) (by omega)
          have g12 : w2.cell? ⟨P, 1, none⟩ = some (.slice a k cap) := HG2'.out.g.cell (i := 1) (by omega)
          have q0 : w2.cell? ⟨B, 0, none⟩ = some (.int .i64 0) := HG2'.out.res.cell (i := 0) (by omega)
          have q1 : w2.cell? ⟨B, 1, none⟩ = some (.slice none 0 0) := HG2'.out.res.cell (i := 1) (by omega)
          have qf0 : w2.frozen? ⟨B, 0, none⟩ = false := HG2'.out.res.frozen 0
          have qf1 : w2.frozen? ⟨B, 1, none⟩ = false := HG2'.out.res.frozen 1
          have hBB : B ≠ P := by have := HG2'.out.low; omega
          have HBl : Hid (B < P + 1) := by have := HG2'.out.low; show _ < _; omega
          clear cf g0 g1 HT HG HEO' mk fin HRES HB2 hgo
          go_wp2
          clear cf2 g02 g12
          refine bodyPost_ret (v := .tuple #[.agg #[.int .i64 0, .slice none 0 0], .bool false]) (by simp [results, Try.results39, go_sem, q0, q1]) rfl ?_
          refine ⟨0, _, false, rfl, by show _ = _; rw [HF.out.1]; simp, rfl, ⟨none, 0, rfl, .inl rfl⟩, ?_⟩
          have h := (HG2'.out.bel.setCell (p := ⟨B, 0, none⟩) (by simp) (.int .i64 0)).setCell (p := ⟨B, 1, none⟩) (by simp) (.slice none 0 0)
          show Below _ _ _
          rw [← HB.out]; exact h
        · have hd5 : decide ((k : Int) < 50) = false := by simp; omega
          go_wp2_with fail
          refine (HRES.out _ (Below.refl _ _)).mono ?_
          rintro e w2 ⟨t, ok, rfl, HT, HB2⟩
          have HG2' : Hid (GL 90 B P M w w2 s st (Z : Int) (.slice a k cap) L) := (mk.out w2 HB2.out).1
          have HE2 : Hid (EdgesOwn (P + 1) wr.heap.size w2 a L) := (mk.out w2 HB2.out).2.1
          have HS2 : Hid (wr.heap.size ≤ w2.heap.size) := (mk.out w2 HB2.out).2.2
          have HF : Hid ((implReadG s.data.toList).2 = (!bad && ok && decide (t = s)) ∧ ((implReadG s.data.toList).2 = true → (implReadG s.data.toList).1 = ((Z : Int), L))) := fin.out w2 t ok HG2'.out HT.out
          have cf2 := HG2'.out.rd.flag
          rw [HBAD.out] at cf2
          have g02 : w2.cell? ⟨P, 0, none⟩ = some (.int .i64 (Z : Int)) := HG2'.out.g.cell (i := 0) (by omega)
          have g12 : w2.cell? ⟨P, 1, none⟩ = some (.slice a k cap) := HG2'.out.g.cell (i := 1) (by omega)
          have q0 : w2.cell? ⟨B, 0, none⟩ = some (.int .i64 0) := HG2'.out.res.cell (i := 0) (by omega)
          have q1 : w2.cell? ⟨B, 1, none⟩ = some (.slice none 0 0) := HG2'.out.res.cell (i := 1) (by omega)
          have qf0 : w2.frozen? ⟨B, 0, none⟩ = false := HG2'.out.res.frozen 0
          have qf1 : w2.frozen? ⟨B, 1, none⟩ = false := HG2'.out.res.frozen 1
          have hBB : B ≠ P := by have := HG2'.out.low; omega
          have HBl : Hid (B < P + 1) := by have := HG2'.out.low; show _ < _; omega
          clear cf g0 g1 HT HG HEO' mk fin HRES HB2 hgo
          rcases Bool.eq_false_or_eq_true bad with hbd | hbd
          · subst hbd
            go_wp2
            clear cf2 g02 g12
            refine bodyPost_ret (v := .tuple #[.agg #[.int .i64 0, .slice none 0 0], .bool false]) (by simp [results, Try.results39, go_sem, q0, q1]) rfl ?_
            refine ⟨0, _, false, rfl, by show _ = _; rw [HF.out.1]; simp, rfl, ⟨none, 0, rfl, .inl rfl⟩, ?_⟩
            have h := (HG2'.out.bel.setCell (p := ⟨B, 0, none⟩) (by simp) (.int .i64 0)).setCell (p := ⟨B, 1, none⟩) (by simp) (.slice none 0 0)
            show Below _ _ _
            rw [← HB.out]; exact h
          · subst hbd
            rcases Bool.eq_false_or_eq_true ok with ho | ho
            · subst ho
              by_cases hts : t = s
              · subst hts
                go_wp2
                refine bodyPost_ret (v := .tuple #[.agg #[.int .i64 (Z : Int), .slice a k cap], .bool true]) (by simp [results, Try.results39, go_sem, q0, q1]) rfl ?_
                have hyes : (implReadG t.data.toList).2 = true := by rw [HF.out.1]; simp
                have h1 := HF.out.2 hyes
                refine ⟨(Z : Int), _, true, rfl, hyes.symm, by show _ = _; rw [h1]; rfl, ⟨a, cap, by rw [h1]; simp only [if_true]; rw [HLN.out], ?_⟩, ?_⟩
                · rw [h1]
                  have h := ((HE2.out.setCell (b := B) (j := 0) HBl.out (.int .i64 (Z : Int))).setCell (b := B) (j := 1) HBl.out (.slice a k cap))
                  have hb := HB.out
                  exact h.wide (by have := HBl.out; omega) (by simpa using HS2.out)
                · have h := (HG2'.out.bel.setCell (p := ⟨B, 0, none⟩) (by simp) (.int .i64 (Z : Int))).setCell (p := ⟨B, 1, none⟩) (by simp) (.slice a k cap)
                  show Below _ _ _
                  rw [← HB.out]; exact h
              · have hts1 : (!t.toList == s.toList) = true := by
                  simp only [Bool.not_eq_true', beq_eq_false_iff_ne]
                  intro e
                  exact hts (by simpa [ByteArray.toList_eq, ByteArray.ext_iff] using e)
                go_wp2
                clear cf2 g02 g12
                refine bodyPost_ret (v := .tuple #[.agg #[.int .i64 0, .slice none 0 0], .bool false]) (by simp [results, Try.results39, go_sem, q0, q1]) rfl ?_
                refine ⟨0, _, false, rfl, by show _ = _; rw [HF.out.1]; simp [hts], rfl, ⟨none, 0, rfl, .inl rfl⟩, ?_⟩
                have h := (HG2'.out.bel.setCell (p := ⟨B, 0, none⟩) (by simp) (.int .i64 0)).setCell (p := ⟨B, 1, none⟩) (by simp) (.slice none 0 0)
                show Below _ _ _
                rw [← HB.out]; exact h
            · subst ho
              go_wp2
              clear cf2 g02 g12
              refine bodyPost_ret (v := .tuple #[.agg #[.int .i64 0, .slice none 0 0], .bool false]) (by simp [results, Try.results39, go_sem, q0, q1]) rfl ?_
              refine ⟨0, _, false, rfl, by show _ = _; rw [HF.out.1]; simp, rfl, ⟨none, 0, rfl, .inl rfl⟩, ?_⟩
              have h := (HG2'.out.bel.setCell (p := ⟨B, 0, none⟩) (by simp) (.int .i64 0)).setCell (p := ⟨B, 1, none⟩) (by simp) (.slice none 0 0)
              show Below _ _ _
              rw [← HB.out]; exact h
      · have hd0 : decide ((k : Int) < (N0 : Int)) = false := by simp; omega
        go_wp2_with fail
        refine (HRES.out _ (Below.refl _ _)).mono ?_
        rintro e w2 ⟨t, ok, rfl, HT, HB2⟩
        have HG2' : Hid (GL 90 B P M w w2 s st (Z : Int) (.slice a k cap) L) := (mk.out w2 HB2.out).1
        have HE2 : Hid (EdgesOwn (P + 1) wr.heap.size w2 a L) := (mk.out w2 HB2.out).2.1
        have HS2 : Hid (wr.heap.size ≤ w2.heap.size) := (mk.out w2 HB2.out).2.2
        have HF : Hid ((implReadG s.data.toList).2 = (!bad && ok && decide (t = s)) ∧ ((implReadG s.data.toList).2 = true → (implReadG s.data.toList).1 = ((Z : Int), L))) := fin.out w2 t ok HG2'.out HT.out
        have cf2 := HG2'.out.rd.flag
        rw [HBAD.out] at cf2
        have g02 : w2.cell? ⟨P, 0, none⟩ = some (.int .i64 (Z : Int)) := HG2'.out.g.cell (i := 0) (by omega)
        have g12 : w2.cell? ⟨P, 1, none⟩ = some (.slice a k cap) := HG2'.out.g.cell (i := 1) (by omega)
        have q0 : w2.cell? ⟨B, 0, none⟩ = some (.int .i64 0) := HG2'.out.res.cell (i := 0) (by omega)
        have q1 : w2.cell? ⟨B, 1, none⟩ = some (.slice none 0 0) := HG2'.out.res.cell (i := 1) (by omega)
        have qf0 : w2.frozen? ⟨B, 0, none⟩ = false := HG2'.out.res.frozen 0
        have qf1 : w2.frozen? ⟨B, 1, none⟩ = false := HG2'.out.res.frozen 1
        have hBB : B ≠ P := by have := HG2'.out.low; omega
        have HBl : Hid (B < P + 1) := by have := HG2'.out.low; show _ < _; omega
        clear cf g0 g1 HT HG HEO' mk fin HRES HB2 hgo
        rcases Bool.eq_false_or_eq_true bad with hbd | hbd
        · subst hbd
          go_wp2
          clear cf2 g02 g12
          refine bodyPost_ret (v := .tuple #[.agg #[.int .i64 0, .slice none 0 0], .bool false]) (by simp [results, Try.results39, go_sem, q0, q1]) rfl ?_
          refine ⟨0, _, false, rfl, by show _ = _; rw [HF.out.1]; simp, rfl, ⟨none, 0, rfl, .inl rfl⟩, ?_⟩
          have h := (HG2'.out.bel.setCell (p := ⟨B, 0, none⟩) (by simp) (.int .i64 0)).setCell (p := ⟨B, 1, none⟩) (by simp) (.slice none 0 0)
          show Below _ _ _
          rw [← HB.out]; exact h
        · subst hbd
          rcases Bool.eq_false_or_eq_true ok with ho | ho
          · subst ho
            by_cases hts : t = s
            · subst hts
              go_wp2
              refine bodyPost_ret (v := .tuple #[.agg #[.int .i64 (Z : Int), .slice a k cap], .bool true]) (by simp [results, Try.results39, go_sem, q0, q1]) rfl ?_
              have hyes : (implReadG t.data.toList).2 = true := by rw [HF.out.1]; simp
              have h1 := HF.out.2 hyes
              refine ⟨(Z : Int), _, true, rfl, hyes.symm, by show _ = _; rw [h1]; rfl, ⟨a, cap, by rw [h1]; simp only [if_true]; rw [HLN.out], ?_⟩, ?_⟩
              · rw [h1]
                have h := ((HE2.out.setCell (b := B) (j := 0) HBl.out (.int .i64 (Z : Int))).setCell (b := B) (j := 1) HBl.out (.slice a k cap))
                have hb := HB.out
                exact h.wide (by have := HBl.out; omega) (by simpa using HS2.out)
              · have h := (HG2'.out.bel.setCell (p := ⟨B, 0, none⟩) (by simp) (.int .i64 (Z : Int))).setCell (p := ⟨B, 1, none⟩) (by simp) (.slice a k cap)
                show Below _ _ _
                rw [← HB.out]; exact h
            · have hts1 : (!t.toList == s.toList) = true := by
                simp only [Bool.not_eq_true', beq_eq_false_iff_ne]
                intro e
                exact hts (by simpa [ByteArray.toList_eq, ByteArray.ext_iff] using e)
              go_wp2
              clear cf2 g02 g12
              refine bodyPost_ret (v := .tuple #[.agg #[.int .i64 0, .slice none 0 0], .bool false]) (by simp [results, Try.results39, go_sem, q0, q1]) rfl ?_
              refine ⟨0, _, false, rfl, by show _ = _; rw [HF.out.1]; simp [hts], rfl, ⟨none, 0, rfl, .inl rfl⟩, ?_⟩
              have h := (HG2'.out.bel.setCell (p := ⟨B, 0, none⟩) (by simp) (.int .i64 0)).setCell (p := ⟨B, 1, none⟩) (by simp) (.slice none 0 0)
              show Below _ _ _
              rw [← HB.out]; exact h
          · subst ho
            go_wp2
            clear cf2 g02 g12
            refine bodyPost_ret (v := .tuple #[.agg #[.int .i64 0, .slice none 0 0], .bool false]) (by simp [results, Try.results39, go_sem, q0, q1]) rfl ?_
            refine ⟨0, _, false, rfl, by show _ = _; rw [HF.out.1]; simp, rfl, ⟨none, 0, rfl, .inl rfl⟩, ?_⟩
            have h := (HG2'.out.bel.setCell (p := ⟨B, 0, none⟩) (by simp) (.int .i64 0)).setCell (p := ⟨B, 1, none⟩) (by simp) (.slice none 0 0)
            show Below _ _ _
            rw [← HB.out]; exact h
end Go.Proofs.Ytelikebpddhncaa

/-
  What a law keeps at hand while it goes on: what was there, the boxes of its variables, each of so many cells.
-/
namespace Go.Proofs.Ytelikebpddhncaa
open Go.RowKit

/-- what was there is as it was; each box holds its values -/
structure Hold (w wi : World) (bx : List (Nat × List Value)) : Prop where
  bel : Below w.heap.size w wi
  box : ∀ p ∈ bx, Blk wi p.1 p.2.length (fun i => p.2.getD i (.int .i64 0))
theorem Hold.below {w wi wj : World} {bx : List (Nat × List Value)} (h : Hold w wi bx) (hb : Below wi.heap.size wi wj) : Hold w wj bx :=
  ⟨h.bel.trans (hb.mono h.bel.size), fun p hp => (h.box p hp).of_block (hb.block _ (h.box p hp).lt)⟩
theorem Hold.kept {w wi wj : World} {bx : List (Nat × List Value)} {p : Nat → Prop} (h : Hold w wi bx) (hk : KeptP p wi wj) (h1 : ∀ x ∈ bx, ¬ p x.1) (h2 : ∀ k, p k → w.heap.size ≤ k) : Hold w wj bx :=
  ⟨h.bel.trans (hk.to_below h.bel.size h2), fun x hx => hk.blk (h.box x hx) (h1 x hx)⟩
theorem blk_list (w : World) (b : Nat) (hb : b = w.heap.size) (vs : List Value) (T : TypeId) : Blk (w.alloc (.cells vs.toArray T)) b vs.length (fun i => vs.getD i (.int .i64 0)) :=
  hb ▸ blk_new w vs.toArray T _ (fun i hi => by
    have hi' : i < vs.length := by simpa using hi
    simp [List.getD, hi'])
theorem Hold.more {w wi : World} {bx : List (Nat × List Value)} (h : Hold w wi bx) (vs : List Value) (T : TypeId) : Hold w (wi.alloc (.cells vs.toArray T)) ((wi.heap.size, vs) :: bx) :=
  ⟨h.bel.alloc h.bel.size _, fun p hp => by
    rcases List.mem_cons.1 hp with rfl | hp
    · exact blk_list wi _ rfl vs T
    · exact (h.box p hp).alloc _⟩
theorem Hold.cell {w wi : World} {bx : List (Nat × List Value)} (h : Hold w wi bx) {b : Nat} {vs : List Value} {i : Nat} (hm : (b, vs) ∈ bx) (hi : i < vs.length) : wi.cell? ⟨b, i, none⟩ = some (vs.getD i (.int .i64 0)) := (h.box _ hm).cell (i := i) hi
theorem Hold.frozen {w wi : World} {bx : List (Nat × List Value)} (h : Hold w wi bx) {b : Nat} {vs : List Value} (i : Nat) (hm : (b, vs) ∈ bx) : wi.frozen? ⟨b, i, none⟩ = false := (h.box _ hm).frozen i
theorem Hold.lt {w wi : World} {bx : List (Nat × List Value)} (h : Hold w wi bx) {b : Nat} {vs : List Value} (hm : (b, vs) ∈ bx) : b < wi.heap.size := (h.box _ hm).lt
theorem Hold.none (w : World) : Hold w w [] := ⟨Below.refl _ _, fun p hp => by simp at hp⟩
theorem Hold.less {w wi : World} {bx bx' : List (Nat × List Value)} (h : Hold w wi bx) (hs : ∀ p ∈ bx', p ∈ bx) : Hold w wi bx' := ⟨h.bel, fun p hp => h.box p (hs p hp)⟩
theorem Hold.drew {w wi : World} {bx : List (Nat × List Value)} (h : Hold w wi bx) : Hold w wi.drew bx := h.below ((Below.refl _ _).drew)
/-- a store into a box -/
theorem Hold.put {w wi : World} {bx : List (Nat × List Value)} {b j : Nat} {vs : List Value} (h : Hold w wi ((b, vs) :: bx)) (hj : j < vs.length) (v : Value) (hb : w.heap.size ≤ b) (hn : ∀ p ∈ bx, p.1 ≠ b) : Hold w (wi.setCell ⟨b, j, Option.none⟩ v) ((b, vs.set j v) :: bx) :=
  ⟨h.bel.setCell hb v, fun p hp => by
    rcases List.mem_cons.1 hp with rfl | hp
    · have h1 := (h.box (b, vs) (by simp)).set j hj v
      show Blk _ b (vs.set j v).length _
      rw [List.length_set]
      refine h1.congr fun i hi => ?_
      by_cases e : i = j
      · subst e; simp [List.getD, show i < vs.length from hj]
      · simp [List.getD, e, List.getElem?_set_ne (Ne.symm e)]
    · exact (h.box p (List.mem_cons_of_mem _ hp)).of_block (Below.heap_setCell _ _ _ _ (hn p hp))⟩
end Go.Proofs.Ytelikebpddhncaa

/-
  The walk of FnExactReadGraph.
-/
namespace Go.Proofs.Ytelikebpddhncaa
open Go.RowKit

theorem readBothG (s : ByteArray) (hs : s.size ≤ 1048576) : ∃ (ok : Bool) (z : Int) (L : List Ed) (n : Nat), L.length = n ∧ n ≤ 40 ∧ (ok = true → okG z L = true ∧ s.data.toList = gtxtTo z L L.length) ∧
    (∀ w : World, Calls Try.prog 39 #[.string s] w fun e w' => ∃ a cap, e = .returned (.tuple #[gv z a n cap, .bool ok]) ∧ Hid (EdgesOwn w.heap.size w'.heap.size w' a L) ∧ Hid (Below w.heap.size w w')) ∧
    (∀ w : World, Calls Try.prog 37 #[.string s] w fun e w' => ∃ a cap, e = .returned (.tuple #[gv z a n cap, .bool ok]) ∧ Hid (EdgesOwn w.heap.size w'.heap.size w' a L) ∧ Hid (Below w.heap.size w w')) := by
  have hok : (implReadG s.data.toList).2 = true → okG (implReadG s.data.toList).1.1 (implReadG s.data.toList).1.2 = true := fun h => (implG_yes h).1
  refine ⟨(implReadG s.data.toList).2, if (implReadG s.data.toList).2 = true then (implReadG s.data.toList).1.1 else 0, if (implReadG s.data.toList).2 = true then (implReadG s.data.toList).1.2 else [], _, rfl, ?_, fun h => ?_, fun w => ?_, fun w => ?_⟩
  · split
    · rename_i h; exact (okG_size (hok h)).2.2
    · simp
  · rw [if_pos h, if_pos h]; exact implG_yes h
  · refine (specReadG_any s w hs).mono ?_
    rintro e w' ⟨z, v, ok, rfl, h1, h2, h3, h4⟩
    obtain rfl := h1.out
    obtain rfl := h2.out
    obtain ⟨a, cap, rfl, h5⟩ := h3.out
    exact ⟨a, cap, rfl, h5, h4⟩
  · refine (readGraph_any s w hs).mono ?_
    rintro e w' ⟨z, v, ok, rfl, h1, h2, h3, h4⟩
    obtain rfl := h1.out
    obtain rfl := h2.out
    obtain ⟨a, cap, rfl, h5⟩ := h3.out
    exact ⟨a, cap, rfl, h5, h4⟩

set_option maxHeartbeats 8000000 in
set_option maxRecDepth 100000 in
theorem law_13 (s0 : ByteArray) (w : World) (hs0 : s0.size ≤ maxLen) :
    Calls Try.prog 13 #[.string s0] w fun e w' => e = .returned (.bool true) ∧ Below w.heap.size w w' := by
  unfold maxLen at hs0
  by_cases hs : s0.size ≤ 1048576
  · obtain ⟨ok, z, L, n, hL, hn, _, hS, hI⟩ := readBothG s0 hs
    have HL : Hid (L.length = n) := hL
    have HS : Hid (∀ w : World, Calls Try.prog 39 #[.string s0] w fun e w' => ∃ a cap, e = .returned (.tuple #[gv z a n cap, .bool ok]) ∧ Hid (EdgesOwn w.heap.size w'.heap.size w' a L) ∧ Hid (Below w.heap.size w w')) := hS
    have HI : Hid (∀ w : World, Calls Try.prog 37 #[.string s0] w fun e w' => ∃ a cap, e = .returned (.tuple #[gv z a n cap, .bool ok]) ∧ Hid (EdgesOwn w.heap.size w'.heap.size w' a L) ∧ Hid (Below w.heap.size w w')) := hI
    have HM : Hid (n ≤ 1048576) := by show _ ≤ _; omega
    have hs1 : ¬ (1048576 : Int) < (s0.size : Int) := by omega
    clear hL hS hI hs0 hs hn
    go_enter Try.func13, Try.ntmps13
    have HD_0 : Hid (Hold w w []) := Hold.none w
    go_wp2_with fail
    refine (HS.out _).mono ?_
    rintro e w1 ⟨a1, cap1, rfl, X_1, B_2⟩
    have HD_3 : Hid (Hold w w1 []) := HD_0.out.below B_2.out
    clear HD_0
    have ZZ4 : Hid (w.heap.size ≤ w1.heap.size) := B_2.out.size
    clear B_2
    have W0_5 : Hid (EdgesOwn w.heap.size w1.heap.size w1 a1 L) := X_1.out
    clear X_1
    have BA_6 : Hid (Below w1.heap.size w1 (w1.alloc (.cells #[.int .i64 z, .slice a1 n cap1] 37))) := below1' w1 _
    have HD_7 : Hid (Hold w (w1.alloc (.cells #[.int .i64 z, .slice a1 n cap1] 37)) [(w1.heap.size, [.int .i64 z, .slice a1 n cap1])]) := HD_3.out.more [.int .i64 z, .slice a1 n cap1] 37
    clear HD_3
    have ZZ8 : Hid ((w1.alloc (.cells #[.int .i64 z, .slice a1 n cap1] 37)).heap.size = w1.heap.size + 1) := by show _ = _; simp
    have ZZ9 : Hid (w1.heap.size ≤ (w1.alloc (.cells #[.int .i64 z, .slice a1 n cap1] 37)).heap.size) := BA_6.out.size
    have W0_9 : Hid (EdgesOwn w.heap.size w1.heap.size (w1.alloc (.cells #[.int .i64 z, .slice a1 n cap1] 37)) a1 L) := W0_5.out.below BA_6.out (by have y0 := ZZ4.out; have y1 := ZZ8.out; have y2 := ZZ9.out; omega)
    clear W0_5
    clear BA_6
    go_wp2_with fail
    refine (HI.out _).mono ?_
    rintro e w2 ⟨a2, cap2, rfl, X_10, B_11⟩
    have HD_12 : Hid (Hold w w2 [(w1.heap.size, [.int .i64 z, .slice a1 n cap1])]) := HD_7.out.below B_11.out
    clear HD_7
    have ZZ13 : Hid ((w1.alloc (.cells #[.int .i64 z, .slice a1 n cap1] 37)).heap.size ≤ w2.heap.size) := B_11.out.size
    have W0_13 : Hid (EdgesOwn w.heap.size w1.heap.size w2 a1 L) := W0_9.out.below B_11.out (by have y0 := ZZ4.out; have y1 := ZZ8.out; have y2 := ZZ9.out; have y3 := ZZ13.out; omega)
    clear W0_9
    clear B_11
    have G0_14 : Hid (EdgesOwn (w1.alloc (.cells #[.int .i64 z, .slice a1 n cap1] 37)).heap.size w2.heap.size w2 a2 L) := X_10.out
    clear X_10
    have BA_15 : Hid (Below w2.heap.size w2 (w2.alloc (.cells #[.int .i64 z, .slice a2 n cap2] 37))) := below1' w2 _
    have HD_16 : Hid (Hold w (w2.alloc (.cells #[.int .i64 z, .slice a2 n cap2] 37)) [(w2.heap.size, [.int .i64 z, .slice a2 n cap2]), (w1.heap.size, [.int .i64 z, .slice a1 n cap1])]) := HD_12.out.more [.int .i64 z, .slice a2 n cap2] 37
    clear HD_12
    have ZZ17 : Hid ((w2.alloc (.cells #[.int .i64 z, .slice a2 n cap2] 37)).heap.size = w2.heap.size + 1) := by show _ = _; simp
    have ZZ18 : Hid (w2.heap.size ≤ (w2.alloc (.cells #[.int .i64 z, .slice a2 n cap2] 37)).heap.size) := BA_15.out.size
    have W0_18 : Hid (EdgesOwn w.heap.size w1.heap.size (w2.alloc (.cells #[.int .i64 z, .slice a2 n cap2] 37)) a1 L) := W0_13.out.below BA_15.out (by have y0 := ZZ4.out; have y1 := ZZ8.out; have y2 := ZZ9.out; have y3 := ZZ13.out; have y4 := ZZ17.out; have y5 := ZZ18.out; omega)
    have G0_18 : Hid (EdgesOwn (w1.alloc (.cells #[.int .i64 z, .slice a1 n cap1] 37)).heap.size w2.heap.size (w2.alloc (.cells #[.int .i64 z, .slice a2 n cap2] 37)) a2 L) := G0_14.out.below BA_15.out (by have y0 := ZZ4.out; have y1 := ZZ8.out; have y2 := ZZ9.out; have y3 := ZZ13.out; have y4 := ZZ17.out; have y5 := ZZ18.out; omega)
    clear W0_13 G0_14
    clear BA_15
    have q_19 : (w2.alloc (.cells #[.int .i64 z, .slice a2 n cap2] 37)).cell? ⟨w1.heap.size, 0, none⟩ = some (.int .i64 z) := HD_16.out.cell (b := w1.heap.size) (vs := [.int .i64 z, .slice a1 n cap1]) (i := 0) (by simp) (by simp)
    have q_20 : (w2.alloc (.cells #[.int .i64 z, .slice a2 n cap2] 37)).cell? ⟨w1.heap.size, 1, none⟩ = some (.slice a1 n cap1) := HD_16.out.cell (b := w1.heap.size) (vs := [.int .i64 z, .slice a1 n cap1]) (i := 1) (by simp) (by simp)
    have q_21 : (w2.alloc (.cells #[.int .i64 z, .slice a2 n cap2] 37)).cell? ⟨w2.heap.size, 0, none⟩ = some (.int .i64 z) := HD_16.out.cell (b := w2.heap.size) (vs := [.int .i64 z, .slice a2 n cap2]) (i := 0) (by simp) (by simp)
    have q_22 : (w2.alloc (.cells #[.int .i64 z, .slice a2 n cap2] 37)).cell? ⟨w2.heap.size, 1, none⟩ = some (.slice a2 n cap2) := HD_16.out.cell (b := w2.heap.size) (vs := [.int .i64 z, .slice a2 n cap2]) (i := 1) (by simp) (by simp)
    go_wp2_with fail
    refine (eqGraph_any (w1.alloc (.cells #[.int .i64 z, .slice a1 n cap1] 37)).heap.size w2.heap.size w.heap.size w1.heap.size z z a2 a1 n n cap2 cap1 L L true _ G0_18.out.toIn W0_18.out.toIn (by have y0 := ZZ4.out; have y1 := ZZ8.out; have y2 := ZZ9.out; have y3 := ZZ13.out; have y4 := ZZ17.out; have y5 := ZZ18.out; omega) (by have y0 := ZZ4.out; have y1 := ZZ8.out; have y2 := ZZ9.out; have y3 := ZZ13.out; have y4 := ZZ17.out; have y5 := ZZ18.out; omega) HL.out HL.out HM.out (by simp)).mono ?_
    rintro e w3 ⟨rfl, B_23⟩
    clear q_19 q_20 q_21 q_22
    have HD_24 : Hid (Hold w w3 [(w2.heap.size, [.int .i64 z, .slice a2 n cap2]), (w1.heap.size, [.int .i64 z, .slice a1 n cap1])]) := HD_16.out.below B_23.out
    clear HD_16
    have ZZ25 : Hid ((w2.alloc (.cells #[.int .i64 z, .slice a2 n cap2] 37)).heap.size ≤ w3.heap.size) := B_23.out.size
    have W0_25 : Hid (EdgesOwn w.heap.size w1.heap.size w3 a1 L) := W0_18.out.below B_23.out (by have y0 := ZZ4.out; have y1 := ZZ8.out; have y2 := ZZ9.out; have y3 := ZZ13.out; have y4 := ZZ17.out; have y5 := ZZ18.out; have y6 := ZZ25.out; omega)
    have G0_25 : Hid (EdgesOwn (w1.alloc (.cells #[.int .i64 z, .slice a1 n cap1] 37)).heap.size w2.heap.size w3 a2 L) := G0_18.out.below B_23.out (by have y0 := ZZ4.out; have y1 := ZZ8.out; have y2 := ZZ9.out; have y3 := ZZ13.out; have y4 := ZZ17.out; have y5 := ZZ18.out; have y6 := ZZ25.out; omega)
    clear W0_18 G0_18
    clear B_23
    have q_26 : w3.cell? ⟨w2.heap.size, 0, none⟩ = some (.int .i64 z) := HD_24.out.cell (b := w2.heap.size) (vs := [.int .i64 z, .slice a2 n cap2]) (i := 0) (by simp) (by simp)
    have q_27 : w3.cell? ⟨w2.heap.size, 1, none⟩ = some (.slice a2 n cap2) := HD_24.out.cell (b := w2.heap.size) (vs := [.int .i64 z, .slice a2 n cap2]) (i := 1) (by simp) (by simp)
    go_wp2_with fail
    refine (markGraph_any (w1.alloc (.cells #[.int .i64 z, .slice a1 n cap1] 37)).heap.size w2.heap.size z a2 n cap2 1 L _ G0_25.out (by have y0 := ZZ4.out; have y1 := ZZ8.out; have y2 := ZZ9.out; have y3 := ZZ13.out; have y4 := ZZ17.out; have y5 := ZZ18.out; have y6 := ZZ25.out; omega) HL.out HM.out (by omega)).mono ?_
    rintro e w4 ⟨m4, rfl, HM_m4, X_28, K_28⟩
    clear q_26 q_27
    have HD_29 : Hid (Hold w w4 [(w2.heap.size, [.int .i64 z, .slice a2 n cap2]), (w1.heap.size, [.int .i64 z, .slice a1 n cap1])]) := HD_24.out.kept K_28.out (by intro x hx; simp only [List.mem_cons, List.not_mem_nil, or_false] at hx; have y0 := ZZ4.out; have y1 := ZZ8.out; have y2 := ZZ9.out; have y3 := ZZ13.out; have y4 := ZZ17.out; have y5 := ZZ18.out; have y6 := ZZ25.out; rcases hx with rfl | rfl <;> dsimp only <;> omega) (fun k hk => by have y0 := ZZ4.out; have y1 := ZZ8.out; have y2 := ZZ9.out; have y3 := ZZ13.out; have y4 := ZZ17.out; have y5 := ZZ18.out; have y6 := ZZ25.out; omega)
    clear HD_24
    have ZZ30 : Hid (w3.heap.size ≤ w4.heap.size) := K_28.out.size
    have W0_30 : Hid (EdgesOwn w.heap.size w1.heap.size w4 a1 L) := W0_25.out.kept K_28.out (fun c h1 h2 h3 => by have y0 := ZZ4.out; have y1 := ZZ8.out; have y2 := ZZ9.out; have y3 := ZZ13.out; have y4 := ZZ17.out; have y5 := ZZ18.out; have y6 := ZZ25.out; have y7 := ZZ30.out; omega)
    clear W0_25 G0_25
    clear K_28
    have G0_31 : Hid (EdgesOwn (w1.alloc (.cells #[.int .i64 z, .slice a1 n cap1] 37)).heap.size w2.heap.size w4 a2 (marksE 1 n)) := X_28.out
    clear X_28
    have q_32 : w4.cell? ⟨w2.heap.size, 0, none⟩ = some (.int .i64 z) := HD_29.out.cell (b := w2.heap.size) (vs := [.int .i64 z, .slice a2 n cap2]) (i := 0) (by simp) (by simp)
    have q_33 : w4.cell? ⟨w2.heap.size, 1, none⟩ = some (.slice a2 n cap2) := HD_29.out.cell (b := w2.heap.size) (vs := [.int .i64 z, .slice a2 n cap2]) (i := 1) (by simp) (by simp)
    go_wp2_with fail
    refine (heldGraph_any (w1.alloc (.cells #[.int .i64 z, .slice a1 n cap1] 37)).heap.size w2.heap.size z a2 n cap2 1 _ G0_31.out.toIn (by have y0 := ZZ4.out; have y1 := ZZ8.out; have y2 := ZZ9.out; have y3 := ZZ13.out; have y4 := ZZ17.out; have y5 := ZZ18.out; have y6 := ZZ25.out; have y7 := ZZ30.out; omega) HM.out (by omega)).mono ?_
    rintro e w5 ⟨m5, rfl, HM_m5, B_34⟩
    clear q_32 q_33
    have HD_35 : Hid (Hold w w5 [(w2.heap.size, [.int .i64 z, .slice a2 n cap2]), (w1.heap.size, [.int .i64 z, .slice a1 n cap1])]) := HD_29.out.below B_34.out
    clear HD_29
    have ZZ36 : Hid (w4.heap.size ≤ w5.heap.size) := B_34.out.size
    have W0_36 : Hid (EdgesOwn w.heap.size w1.heap.size w5 a1 L) := W0_30.out.below B_34.out (by have y0 := ZZ4.out; have y1 := ZZ8.out; have y2 := ZZ9.out; have y3 := ZZ13.out; have y4 := ZZ17.out; have y5 := ZZ18.out; have y6 := ZZ25.out; have y7 := ZZ30.out; have y8 := ZZ36.out; omega)
    have G0_36 : Hid (EdgesOwn (w1.alloc (.cells #[.int .i64 z, .slice a1 n cap1] 37)).heap.size w2.heap.size w5 a2 (marksE 1 n)) := G0_31.out.below B_34.out (by have y0 := ZZ4.out; have y1 := ZZ8.out; have y2 := ZZ9.out; have y3 := ZZ13.out; have y4 := ZZ17.out; have y5 := ZZ18.out; have y6 := ZZ25.out; have y7 := ZZ30.out; have y8 := ZZ36.out; omega)
    clear W0_30 G0_31
    clear B_34
    obtain rfl : m4 = m5 := by rw [HM_m5.out, HM_m4.out]
    clear HM_m5
    have hn_m5 : ¬ ((m4 : Nat) : Int) < 0 := by omega
    go_wp2_with fail
    refine (HI.out _).mono ?_
    rintro e w6 ⟨a6, cap6, rfl, X_37, B_38⟩
    have HD_39 : Hid (Hold w w6 [(w2.heap.size, [.int .i64 z, .slice a2 n cap2]), (w1.heap.size, [.int .i64 z, .slice a1 n cap1])]) := HD_35.out.below B_38.out
    clear HD_35
    have ZZ40 : Hid (w5.heap.size ≤ w6.heap.size) := B_38.out.size
    have W0_40 : Hid (EdgesOwn w.heap.size w1.heap.size w6 a1 L) := W0_36.out.below B_38.out (by have y0 := ZZ4.out; have y1 := ZZ8.out; have y2 := ZZ9.out; have y3 := ZZ13.out; have y4 := ZZ17.out; have y5 := ZZ18.out; have y6 := ZZ25.out; have y7 := ZZ30.out; have y8 := ZZ36.out; have y9 := ZZ40.out; omega)
    have G0_40 : Hid (EdgesOwn (w1.alloc (.cells #[.int .i64 z, .slice a1 n cap1] 37)).heap.size w2.heap.size w6 a2 (marksE 1 n)) := G0_36.out.below B_38.out (by have y0 := ZZ4.out; have y1 := ZZ8.out; have y2 := ZZ9.out; have y3 := ZZ13.out; have y4 := ZZ17.out; have y5 := ZZ18.out; have y6 := ZZ25.out; have y7 := ZZ30.out; have y8 := ZZ36.out; have y9 := ZZ40.out; omega)
    clear W0_36 G0_36
    clear B_38
    have H0_41 : Hid (EdgesOwn w5.heap.size w6.heap.size w6 a6 L) := X_37.out
    clear X_37
    have BA_42 : Hid (Below w6.heap.size w6 (w6.alloc (.cells #[.int .i64 z, .slice a6 n cap6] 37))) := below1' w6 _
    have HD_43 : Hid (Hold w (w6.alloc (.cells #[.int .i64 z, .slice a6 n cap6] 37)) [(w6.heap.size, [.int .i64 z, .slice a6 n cap6]), (w2.heap.size, [.int .i64 z, .slice a2 n cap2]), (w1.heap.size, [.int .i64 z, .slice a1 n cap1])]) := HD_39.out.more [.int .i64 z, .slice a6 n cap6] 37
    clear HD_39
    have ZZ44 : Hid ((w6.alloc (.cells #[.int .i64 z, .slice a6 n cap6] 37)).heap.size = w6.heap.size + 1) := by show _ = _; simp
    have ZZ45 : Hid (w6.heap.size ≤ (w6.alloc (.cells #[.int .i64 z, .slice a6 n cap6] 37)).heap.size) := BA_42.out.size
    have W0_45 : Hid (EdgesOwn w.heap.size w1.heap.size (w6.alloc (.cells #[.int .i64 z, .slice a6 n cap6] 37)) a1 L) := W0_40.out.below BA_42.out (by have y0 := ZZ4.out; have y1 := ZZ8.out; have y2 := ZZ9.out; have y3 := ZZ13.out; have y4 := ZZ17.out; have y5 := ZZ18.out; have y6 := ZZ25.out; have y7 := ZZ30.out; have y8 := ZZ36.out; have y9 := ZZ40.out; have y10 := ZZ44.out; have y11 := ZZ45.out; omega)
    have G0_45 : Hid (EdgesOwn (w1.alloc (.cells #[.int .i64 z, .slice a1 n cap1] 37)).heap.size w2.heap.size (w6.alloc (.cells #[.int .i64 z, .slice a6 n cap6] 37)) a2 (marksE 1 n)) := G0_40.out.below BA_42.out (by have y0 := ZZ4.out; have y1 := ZZ8.out; have y2 := ZZ9.out; have y3 := ZZ13.out; have y4 := ZZ17.out; have y5 := ZZ18.out; have y6 := ZZ25.out; have y7 := ZZ30.out; have y8 := ZZ36.out; have y9 := ZZ40.out; have y10 := ZZ44.out; have y11 := ZZ45.out; omega)
    have H0_45 : Hid (EdgesOwn w5.heap.size w6.heap.size (w6.alloc (.cells #[.int .i64 z, .slice a6 n cap6] 37)) a6 L) := H0_41.out.below BA_42.out (by have y0 := ZZ4.out; have y1 := ZZ8.out; have y2 := ZZ9.out; have y3 := ZZ13.out; have y4 := ZZ17.out; have y5 := ZZ18.out; have y6 := ZZ25.out; have y7 := ZZ30.out; have y8 := ZZ36.out; have y9 := ZZ40.out; have y10 := ZZ44.out; have y11 := ZZ45.out; omega)
    clear W0_40 G0_40 H0_41
    clear BA_42
    have q_46 : (w6.alloc (.cells #[.int .i64 z, .slice a6 n cap6] 37)).cell? ⟨w1.heap.size, 0, none⟩ = some (.int .i64 z) := HD_43.out.cell (b := w1.heap.size) (vs := [.int .i64 z, .slice a1 n cap1]) (i := 0) (by simp) (by simp)
    have q_47 : (w6.alloc (.cells #[.int .i64 z, .slice a6 n cap6] 37)).cell? ⟨w1.heap.size, 1, none⟩ = some (.slice a1 n cap1) := HD_43.out.cell (b := w1.heap.size) (vs := [.int .i64 z, .slice a1 n cap1]) (i := 1) (by simp) (by simp)
    have q_48 : (w6.alloc (.cells #[.int .i64 z, .slice a6 n cap6] 37)).cell? ⟨w6.heap.size, 0, none⟩ = some (.int .i64 z) := HD_43.out.cell (b := w6.heap.size) (vs := [.int .i64 z, .slice a6 n cap6]) (i := 0) (by simp) (by simp)
    have q_49 : (w6.alloc (.cells #[.int .i64 z, .slice a6 n cap6] 37)).cell? ⟨w6.heap.size, 1, none⟩ = some (.slice a6 n cap6) := HD_43.out.cell (b := w6.heap.size) (vs := [.int .i64 z, .slice a6 n cap6]) (i := 1) (by simp) (by simp)
    go_wp2_with fail
    refine (eqGraph_any w5.heap.size w6.heap.size w.heap.size w1.heap.size z z a6 a1 n n cap6 cap1 L L true _ H0_45.out.toIn W0_45.out.toIn (by have y0 := ZZ4.out; have y1 := ZZ8.out; have y2 := ZZ9.out; have y3 := ZZ13.out; have y4 := ZZ17.out; have y5 := ZZ18.out; have y6 := ZZ25.out; have y7 := ZZ30.out; have y8 := ZZ36.out; have y9 := ZZ40.out; have y10 := ZZ44.out; have y11 := ZZ45.out; omega) (by have y0 := ZZ4.out; have y1 := ZZ8.out; have y2 := ZZ9.out; have y3 := ZZ13.out; have y4 := ZZ17.out; have y5 := ZZ18.out; have y6 := ZZ25.out; have y7 := ZZ30.out; have y8 := ZZ36.out; have y9 := ZZ40.out; have y10 := ZZ44.out; have y11 := ZZ45.out; omega) HL.out HL.out HM.out (by simp)).mono ?_
    rintro e w7 ⟨rfl, B_50⟩
    clear q_46 q_47 q_48 q_49
    have HD_51 : Hid (Hold w w7 [(w6.heap.size, [.int .i64 z, .slice a6 n cap6]), (w2.heap.size, [.int .i64 z, .slice a2 n cap2]), (w1.heap.size, [.int .i64 z, .slice a1 n cap1])]) := HD_43.out.below B_50.out
    clear HD_43
    have ZZ52 : Hid ((w6.alloc (.cells #[.int .i64 z, .slice a6 n cap6] 37)).heap.size ≤ w7.heap.size) := B_50.out.size
    have W0_52 : Hid (EdgesOwn w.heap.size w1.heap.size w7 a1 L) := W0_45.out.below B_50.out (by have y0 := ZZ4.out; have y1 := ZZ8.out; have y2 := ZZ9.out; have y3 := ZZ13.out; have y4 := ZZ17.out; have y5 := ZZ18.out; have y6 := ZZ25.out; have y7 := ZZ30.out; have y8 := ZZ36.out; have y9 := ZZ40.out; have y10 := ZZ44.out; have y11 := ZZ45.out; have y12 := ZZ52.out; omega)
    have G0_52 : Hid (EdgesOwn (w1.alloc (.cells #[.int .i64 z, .slice a1 n cap1] 37)).heap.size w2.heap.size w7 a2 (marksE 1 n)) := G0_45.out.below B_50.out (by have y0 := ZZ4.out; have y1 := ZZ8.out; have y2 := ZZ9.out; have y3 := ZZ13.out; have y4 := ZZ17.out; have y5 := ZZ18.out; have y6 := ZZ25.out; have y7 := ZZ30.out; have y8 := ZZ36.out; have y9 := ZZ40.out; have y10 := ZZ44.out; have y11 := ZZ45.out; have y12 := ZZ52.out; omega)
    have H0_52 : Hid (EdgesOwn w5.heap.size w6.heap.size w7 a6 L) := H0_45.out.below B_50.out (by have y0 := ZZ4.out; have y1 := ZZ8.out; have y2 := ZZ9.out; have y3 := ZZ13.out; have y4 := ZZ17.out; have y5 := ZZ18.out; have y6 := ZZ25.out; have y7 := ZZ30.out; have y8 := ZZ36.out; have y9 := ZZ40.out; have y10 := ZZ44.out; have y11 := ZZ45.out; have y12 := ZZ52.out; omega)
    clear W0_45 G0_45 H0_45
    clear B_50
    have q_53 : w7.cell? ⟨w2.heap.size, 0, none⟩ = some (.int .i64 z) := HD_51.out.cell (b := w2.heap.size) (vs := [.int .i64 z, .slice a2 n cap2]) (i := 0) (by simp) (by simp)
    have q_54 : w7.cell? ⟨w2.heap.size, 1, none⟩ = some (.slice a2 n cap2) := HD_51.out.cell (b := w2.heap.size) (vs := [.int .i64 z, .slice a2 n cap2]) (i := 1) (by simp) (by simp)
    go_wp2_with fail
    refine (heldGraph_any (w1.alloc (.cells #[.int .i64 z, .slice a1 n cap1] 37)).heap.size w2.heap.size z a2 n cap2 1 _ G0_52.out.toIn (by have y0 := ZZ4.out; have y1 := ZZ8.out; have y2 := ZZ9.out; have y3 := ZZ13.out; have y4 := ZZ17.out; have y5 := ZZ18.out; have y6 := ZZ25.out; have y7 := ZZ30.out; have y8 := ZZ36.out; have y9 := ZZ40.out; have y10 := ZZ44.out; have y11 := ZZ45.out; have y12 := ZZ52.out; omega) HM.out (by omega)).mono ?_
    rintro e w8 ⟨m8, rfl, HM_m8, B_55⟩
    clear q_53 q_54
    have HD_56 : Hid (Hold w w8 [(w6.heap.size, [.int .i64 z, .slice a6 n cap6]), (w2.heap.size, [.int .i64 z, .slice a2 n cap2]), (w1.heap.size, [.int .i64 z, .slice a1 n cap1])]) := HD_51.out.below B_55.out
    clear HD_51
    have ZZ57 : Hid (w7.heap.size ≤ w8.heap.size) := B_55.out.size
    have W0_57 : Hid (EdgesOwn w.heap.size w1.heap.size w8 a1 L) := W0_52.out.below B_55.out (by have y0 := ZZ4.out; have y1 := ZZ8.out; have y2 := ZZ9.out; have y3 := ZZ13.out; have y4 := ZZ17.out; have y5 := ZZ18.out; have y6 := ZZ25.out; have y7 := ZZ30.out; have y8 := ZZ36.out; have y9 := ZZ40.out; have y10 := ZZ44.out; have y11 := ZZ45.out; have y12 := ZZ52.out; have y13 := ZZ57.out; omega)
    have G0_57 : Hid (EdgesOwn (w1.alloc (.cells #[.int .i64 z, .slice a1 n cap1] 37)).heap.size w2.heap.size w8 a2 (marksE 1 n)) := G0_52.out.below B_55.out (by have y0 := ZZ4.out; have y1 := ZZ8.out; have y2 := ZZ9.out; have y3 := ZZ13.out; have y4 := ZZ17.out; have y5 := ZZ18.out; have y6 := ZZ25.out; have y7 := ZZ30.out; have y8 := ZZ36.out; have y9 := ZZ40.out; have y10 := ZZ44.out; have y11 := ZZ45.out; have y12 := ZZ52.out; have y13 := ZZ57.out; omega)
    have H0_57 : Hid (EdgesOwn w5.heap.size w6.heap.size w8 a6 L) := H0_52.out.below B_55.out (by have y0 := ZZ4.out; have y1 := ZZ8.out; have y2 := ZZ9.out; have y3 := ZZ13.out; have y4 := ZZ17.out; have y5 := ZZ18.out; have y6 := ZZ25.out; have y7 := ZZ30.out; have y8 := ZZ36.out; have y9 := ZZ40.out; have y10 := ZZ44.out; have y11 := ZZ45.out; have y12 := ZZ52.out; have y13 := ZZ57.out; omega)
    clear W0_52 G0_52 H0_52
    clear B_55
    obtain rfl : m4 = m8 := by rw [HM_m8.out, HM_m4.out]
    clear HM_m8
    have hn_m8 : ¬ ((m4 : Nat) : Int) < 0 := by omega
    go_wp2
    go_ret
    exact ⟨rfl, HD_56.out.bel⟩
  · have hs1 : (1048576 : Int) < (s0.size : Int) := by omega
    go_enter Try.func13, Try.ntmps13
    go_wp2
    go_ret
    exact ⟨rfl, Below.refl _ _⟩
end Go.Proofs.Ytelikebpddhncaa

/-
  The walk of FnGraphTexts.
-/
namespace Go.Proofs.Ytelikebpddhncaa
open Go.RowKit

theorem gtxt_back {z : Int} {M : List Ed} {U : ByteArray} (h : okG z M = true) (hU : U.data.toList = gtxtTo z M M.length) : gtxtOf z M = U := by
  unfold gtxtOf
  rw [if_pos h, ← hU]
theorem readBack {s : Int} {L : List Ed} {t : ByteArray} {n : Nat} (ht : t = gtxtOf s L) (h : okG s L = true) (hn : L.length = n) (w : World) :
    Calls Try.prog 37 #[.string t] w fun e w' => ∃ a cap, e = .returned (.tuple #[gv s a n cap, .bool true]) ∧ Hid (EdgesOwn w.heap.size w'.heap.size w' a L) ∧ Hid (Below w.heap.size w w') := by
  have hs : t.size ≤ 1048576 := by rw [ht]; have := gtxt_size s L (by have := (okG_size h).2.2; omega); omega
  have hd : t.data.toList = gtxtTo s L L.length := by rw [ht]; unfold gtxtOf; rw [if_pos h]
  have hb : implReadG t.data.toList = ((s, L), true) := by rw [hd]; exact implG_back h
  refine (readGraph_any t w hs).mono ?_
  rintro e w' ⟨z, v, ok, rfl, h1, h2, h3, h4⟩
  have k1 := h1.out; have k2 := h2.out; have k3 := h3.out
  rw [hb] at k1 k2 k3
  dsimp only at k1 k2 k3
  subst k1
  simp only [if_true] at k2 k3
  subst k2
  obtain ⟨a, cap, rfl, ho⟩ := k3
  exact ⟨a, cap, by rw [hn], ho, h4⟩
theorem readSome (t : ByteArray) (hs : t.size ≤ 1048576) (w : World) :
    Calls Try.prog 37 #[.string t] w fun e w' => ∃ (z : Int) (a : Option Addr) (n cap : Nat) (ok : Bool), e = .returned (.tuple #[gv z a n cap, .bool ok]) ∧ Hid (Below w.heap.size w w') := by
  obtain ⟨ok, z, L, n, _, _, _, _, h⟩ := readBothG t hs
  exact (h w).mono fun _ _ ⟨a, cap, h1, _, h3⟩ => ⟨z, a, n, cap, ok, h1, h3⟩

set_option maxHeartbeats 8000000 in
set_option maxRecDepth 100000 in
theorem law_6 (a0 : Option Addr) (n0 cap0 : Nat) (w : World) (hc0 : CodeIn w a0 n0) :
    Calls Try.prog 6 #[.slice a0 n0 cap0] w fun e w' => e = .returned (.bool true) ∧ Below w.heap.size w w' := by
  by_cases hbig : (1048576 : Int) < (n0 : Int)
  · clear hc0
    go_enter Try.func6, Try.ntmps6
    go_wp2_with fail
    refine (big_yes a0 n0 cap0 w hbig).mono ?_
    rintro e w1 ⟨rfl, rfl⟩
    go_wp2
    go_ret
    exact ⟨rfl, Below.refl _ _⟩
  have hn : n0 ≤ 1048576 := by omega
  have HC : Hid (CodeIn w a0 n0) := hc0
  clear hc0 hbig
  go_enter Try.func6, Try.ntmps6
  go_wp2_with fail
  refine (big_no a0 n0 cap0 w hn).mono ?_
  rintro e w0 ⟨rfl, rfl⟩
  have HD_0 : Hid (Hold w w []) := Hold.none w
  go_wp2_with fail
  refine (drawGText_any _ n0 cap0 a0 hn HC.out).mono ?_
  rintro e w1 ⟨s, a, n, c, L, rfl, HLN, X_1, HN11, B_1⟩
  have HD_2 : Hid (Hold w w1 []) := HD_0.out.below B_1.out
  clear HD_0
  have ZZ3 : Hid (w.heap.size ≤ w1.heap.size) := B_1.out.size
  clear B_1
  have G_4 : Hid (EdgesIn w.heap.size w1.heap.size w1 a L) := X_1.out
  clear X_1
  have BA_5 : Hid (Below w1.heap.size w1 (w1.alloc (.cells #[.int .i64 s, .slice a n c] 37))) := below1' w1 _
  have HD_6 : Hid (Hold w (w1.alloc (.cells #[.int .i64 s, .slice a n c] 37)) [(w1.heap.size, [.int .i64 s, .slice a n c])]) := HD_2.out.more [.int .i64 s, .slice a n c] 37
  clear HD_2
  have ZZ7 : Hid ((w1.alloc (.cells #[.int .i64 s, .slice a n c] 37)).heap.size = w1.heap.size + 1) := by show _ = _; simp
  have ZZ8 : Hid (w1.heap.size ≤ (w1.alloc (.cells #[.int .i64 s, .slice a n c] 37)).heap.size) := BA_5.out.size
  have G_8 : Hid (EdgesIn w.heap.size w1.heap.size (w1.alloc (.cells #[.int .i64 s, .slice a n c] 37)) a L) := G_4.out.below BA_5.out (by have y0 := ZZ3.out; have y1 := ZZ7.out; have y2 := ZZ8.out; omega)
  clear G_4
  clear BA_5
  by_cases hok : okG s L = true
  · have HOKK : Hid (okG s L = true) := hok
    clear hok
    have q_9 : (w1.alloc (.cells #[.int .i64 s, .slice a n c] 37)).cell? ⟨w1.heap.size, 0, none⟩ = some (.int .i64 s) := HD_6.out.cell (b := w1.heap.size) (vs := [.int .i64 s, .slice a n c]) (i := 0) (by simp) (by simp)
    have q_10 : (w1.alloc (.cells #[.int .i64 s, .slice a n c] 37)).cell? ⟨w1.heap.size, 1, none⟩ = some (.slice a n c) := HD_6.out.cell (b := w1.heap.size) (vs := [.int .i64 s, .slice a n c]) (i := 1) (by simp) (by simp)
    go_wp2_with fail
    refine (graphText_any w.heap.size w1.heap.size s a n c L _ G_8.out (by have y0 := ZZ3.out; have y1 := ZZ7.out; have y2 := ZZ8.out; omega) HLN.out (by have := HN11.out; omega)).mono ?_
    rintro e w2 ⟨t, ok, rfl, HT, B_11⟩
    clear q_9 q_10
    have HD_12 : Hid (Hold w w2 [(w1.heap.size, [.int .i64 s, .slice a n c])]) := HD_6.out.below B_11.out
    clear HD_6
    have ZZ13 : Hid ((w1.alloc (.cells #[.int .i64 s, .slice a n c] 37)).heap.size ≤ w2.heap.size) := B_11.out.size
    have G_13 : Hid (EdgesIn w.heap.size w1.heap.size w2 a L) := G_8.out.below B_11.out (by have y0 := ZZ3.out; have y1 := ZZ7.out; have y2 := ZZ8.out; have y3 := ZZ13.out; omega)
    clear G_8
    clear B_11
    obtain rfl : ok = true := HT.out.1.trans HOKK.out
    go_wp2_with fail
    refine (readBack HT.out.2 HOKK.out HLN.out _).mono ?_
    rintro e w3 ⟨a6, c6, rfl, X_6, B_14⟩
    have HD_15 : Hid (Hold w w3 [(w1.heap.size, [.int .i64 s, .slice a n c])]) := HD_12.out.below B_14.out
    clear HD_12
    have ZZ16 : Hid (w2.heap.size ≤ w3.heap.size) := B_14.out.size
    have G_16 : Hid (EdgesIn w.heap.size w1.heap.size w3 a L) := G_13.out.below B_14.out (by have y0 := ZZ3.out; have y1 := ZZ7.out; have y2 := ZZ8.out; have y3 := ZZ13.out; have y4 := ZZ16.out; omega)
    clear G_13
    clear B_14
    have X_17 : Hid (EdgesOwn w2.heap.size w3.heap.size w3 a6 L) := X_6.out
    clear X_6
    have BA_18 : Hid (Below w3.heap.size w3 (w3.alloc (.cells #[.int .i64 s, .slice a6 n c6] 37))) := below1' w3 _
    have HD_19 : Hid (Hold w (w3.alloc (.cells #[.int .i64 s, .slice a6 n c6] 37)) [(w3.heap.size, [.int .i64 s, .slice a6 n c6]), (w1.heap.size, [.int .i64 s, .slice a n c])]) := HD_15.out.more [.int .i64 s, .slice a6 n c6] 37
    clear HD_15
    have ZZ20 : Hid ((w3.alloc (.cells #[.int .i64 s, .slice a6 n c6] 37)).heap.size = w3.heap.size + 1) := by show _ = _; simp
    have ZZ21 : Hid (w3.heap.size ≤ (w3.alloc (.cells #[.int .i64 s, .slice a6 n c6] 37)).heap.size) := BA_18.out.size
    have G_21 : Hid (EdgesIn w.heap.size w1.heap.size (w3.alloc (.cells #[.int .i64 s, .slice a6 n c6] 37)) a L) := G_16.out.below BA_18.out (by have y0 := ZZ3.out; have y1 := ZZ7.out; have y2 := ZZ8.out; have y3 := ZZ13.out; have y4 := ZZ16.out; have y5 := ZZ20.out; have y6 := ZZ21.out; omega)
    have X_21 : Hid (EdgesOwn w2.heap.size w3.heap.size (w3.alloc (.cells #[.int .i64 s, .slice a6 n c6] 37)) a6 L) := X_17.out.below BA_18.out (by have y0 := ZZ3.out; have y1 := ZZ7.out; have y2 := ZZ8.out; have y3 := ZZ13.out; have y4 := ZZ16.out; have y5 := ZZ20.out; have y6 := ZZ21.out; omega)
    clear G_16 X_17
    clear BA_18
    go_wp2_with fail
    refine (drawReadG_any _ n0 cap0 a0 hn (HC.out.below HD_19.out.bel)).mono ?_
    rintro e w4 ⟨U, rfl, HU, B_22⟩
    have HD_23 : Hid (Hold w w4 [(w3.heap.size, [.int .i64 s, .slice a6 n c6]), (w1.heap.size, [.int .i64 s, .slice a n c])]) := HD_19.out.below B_22.out
    clear HD_19
    have ZZ24 : Hid ((w3.alloc (.cells #[.int .i64 s, .slice a6 n c6] 37)).heap.size ≤ w4.heap.size) := B_22.out.size
    have G_24 : Hid (EdgesIn w.heap.size w1.heap.size w4 a L) := G_21.out.below B_22.out (by have y0 := ZZ3.out; have y1 := ZZ7.out; have y2 := ZZ8.out; have y3 := ZZ13.out; have y4 := ZZ16.out; have y5 := ZZ20.out; have y6 := ZZ21.out; have y7 := ZZ24.out; omega)
    have X_24 : Hid (EdgesOwn w2.heap.size w3.heap.size w4 a6 L) := X_21.out.below B_22.out (by have y0 := ZZ3.out; have y1 := ZZ7.out; have y2 := ZZ8.out; have y3 := ZZ13.out; have y4 := ZZ16.out; have y5 := ZZ20.out; have y6 := ZZ21.out; have y7 := ZZ24.out; omega)
    clear G_21 X_21
    clear B_22
    obtain ⟨may, z, M, m, hML, hM40, hMY, hSP, hIM⟩ := readBothG U (by have := HU.out; omega)
    have HML : Hid (M.length = m) := hML
    have HM40 : Hid (m ≤ 40) := hM40
    have HMY : Hid (may = true → okG z M = true ∧ U.data.toList = gtxtTo z M M.length) := hMY
    have HSP : Hid (∀ w : World, Calls Try.prog 39 #[.string U] w fun e w' => ∃ a cap, e = .returned (.tuple #[gv z a m cap, .bool may]) ∧ Hid (EdgesOwn w.heap.size w'.heap.size w' a M) ∧ Hid (Below w.heap.size w w')) := hSP
    have HIM : Hid (∀ w : World, Calls Try.prog 37 #[.string U] w fun e w' => ∃ a cap, e = .returned (.tuple #[gv z a m cap, .bool may]) ∧ Hid (EdgesOwn w.heap.size w'.heap.size w' a M) ∧ Hid (Below w.heap.size w w')) := hIM
    clear hML hM40 hMY hSP hIM
    rcases Bool.eq_false_or_eq_true may with hmay | hmay
    · subst hmay
      go_wp2_with fail
      refine (HIM.out _).mono ?_
      rintro e w5 ⟨a9, c9, rfl, X_9, B_25⟩
      have HD_26 : Hid (Hold w w5 [(w3.heap.size, [.int .i64 s, .slice a6 n c6]), (w1.heap.size, [.int .i64 s, .slice a n c])]) := HD_23.out.below B_25.out
      clear HD_23
      have ZZ27 : Hid (w4.heap.size ≤ w5.heap.size) := B_25.out.size
      have G_27 : Hid (EdgesIn w.heap.size w1.heap.size w5 a L) := G_24.out.below B_25.out (by have y0 := ZZ3.out; have y1 := ZZ7.out; have y2 := ZZ8.out; have y3 := ZZ13.out; have y4 := ZZ16.out; have y5 := ZZ20.out; have y6 := ZZ21.out; have y7 := ZZ24.out; have y8 := ZZ27.out; omega)
      have X_27 : Hid (EdgesOwn w2.heap.size w3.heap.size w5 a6 L) := X_24.out.below B_25.out (by have y0 := ZZ3.out; have y1 := ZZ7.out; have y2 := ZZ8.out; have y3 := ZZ13.out; have y4 := ZZ16.out; have y5 := ZZ20.out; have y6 := ZZ21.out; have y7 := ZZ24.out; have y8 := ZZ27.out; omega)
      clear G_24 X_24
      clear B_25
      have Y_28 : Hid (EdgesOwn w4.heap.size w5.heap.size w5 a9 M) := X_9.out
      clear X_9 HIM
      have BA_29 : Hid (Below w5.heap.size w5 (w5.alloc (.cells #[.int .i64 z, .slice a9 m c9] 37))) := below1' w5 _
      have HD_30 : Hid (Hold w (w5.alloc (.cells #[.int .i64 z, .slice a9 m c9] 37)) [(w5.heap.size, [.int .i64 z, .slice a9 m c9]), (w3.heap.size, [.int .i64 s, .slice a6 n c6]), (w1.heap.size, [.int .i64 s, .slice a n c])]) := HD_26.out.more [.int .i64 z, .slice a9 m c9] 37
      clear HD_26
      have ZZ31 : Hid ((w5.alloc (.cells #[.int .i64 z, .slice a9 m c9] 37)).heap.size = w5.heap.size + 1) := by show _ = _; simp
      have ZZ32 : Hid (w5.heap.size ≤ (w5.alloc (.cells #[.int .i64 z, .slice a9 m c9] 37)).heap.size) := BA_29.out.size
      have G_32 : Hid (EdgesIn w.heap.size w1.heap.size (w5.alloc (.cells #[.int .i64 z, .slice a9 m c9] 37)) a L) := G_27.out.below BA_29.out (by have y0 := ZZ3.out; have y1 := ZZ7.out; have y2 := ZZ8.out; have y3 := ZZ13.out; have y4 := ZZ16.out; have y5 := ZZ20.out; have y6 := ZZ21.out; have y7 := ZZ24.out; have y8 := ZZ27.out; have y9 := ZZ31.out; have y10 := ZZ32.out; omega)
      have X_32 : Hid (EdgesOwn w2.heap.size w3.heap.size (w5.alloc (.cells #[.int .i64 z, .slice a9 m c9] 37)) a6 L) := X_27.out.below BA_29.out (by have y0 := ZZ3.out; have y1 := ZZ7.out; have y2 := ZZ8.out; have y3 := ZZ13.out; have y4 := ZZ16.out; have y5 := ZZ20.out; have y6 := ZZ21.out; have y7 := ZZ24.out; have y8 := ZZ27.out; have y9 := ZZ31.out; have y10 := ZZ32.out; omega)
      have Y_32 : Hid (EdgesOwn w4.heap.size w5.heap.size (w5.alloc (.cells #[.int .i64 z, .slice a9 m c9] 37)) a9 M) := Y_28.out.below BA_29.out (by have y0 := ZZ3.out; have y1 := ZZ7.out; have y2 := ZZ8.out; have y3 := ZZ13.out; have y4 := ZZ16.out; have y5 := ZZ20.out; have y6 := ZZ21.out; have y7 := ZZ24.out; have y8 := ZZ27.out; have y9 := ZZ31.out; have y10 := ZZ32.out; omega)
      clear G_27 X_27 Y_28
      clear BA_29
      go_wp2_with fail
      refine (HSP.out _).mono ?_
      rintro e w6 ⟨a11, c11, rfl, X_11, B_33⟩
      have HD_34 : Hid (Hold w w6 [(w5.heap.size, [.int .i64 z, .slice a9 m c9]), (w3.heap.size, [.int .i64 s, .slice a6 n c6]), (w1.heap.size, [.int .i64 s, .slice a n c])]) := HD_30.out.below B_33.out
      clear HD_30
      have ZZ35 : Hid ((w5.alloc (.cells #[.int .i64 z, .slice a9 m c9] 37)).heap.size ≤ w6.heap.size) := B_33.out.size
      have G_35 : Hid (EdgesIn w.heap.size w1.heap.size w6 a L) := G_32.out.below B_33.out (by have y0 := ZZ3.out; have y1 := ZZ7.out; have y2 := ZZ8.out; have y3 := ZZ13.out; have y4 := ZZ16.out; have y5 := ZZ20.out; have y6 := ZZ21.out; have y7 := ZZ24.out; have y8 := ZZ27.out; have y9 := ZZ31.out; have y10 := ZZ32.out; have y11 := ZZ35.out; omega)
      have X_35 : Hid (EdgesOwn w2.heap.size w3.heap.size w6 a6 L) := X_32.out.below B_33.out (by have y0 := ZZ3.out; have y1 := ZZ7.out; have y2 := ZZ8.out; have y3 := ZZ13.out; have y4 := ZZ16.out; have y5 := ZZ20.out; have y6 := ZZ21.out; have y7 := ZZ24.out; have y8 := ZZ27.out; have y9 := ZZ31.out; have y10 := ZZ32.out; have y11 := ZZ35.out; omega)
      have Y_35 : Hid (EdgesOwn w4.heap.size w5.heap.size w6 a9 M) := Y_32.out.below B_33.out (by have y0 := ZZ3.out; have y1 := ZZ7.out; have y2 := ZZ8.out; have y3 := ZZ13.out; have y4 := ZZ16.out; have y5 := ZZ20.out; have y6 := ZZ21.out; have y7 := ZZ24.out; have y8 := ZZ27.out; have y9 := ZZ31.out; have y10 := ZZ32.out; have y11 := ZZ35.out; omega)
      clear G_32 X_32 Y_32
      clear B_33
      clear X_11 HSP
      have BA_36 : Hid (Below w6.heap.size w6 (w6.alloc (.cells #[.int .i64 z, .slice a11 m c11] 37))) := below1' w6 _
      have HD_37 : Hid (Hold w (w6.alloc (.cells #[.int .i64 z, .slice a11 m c11] 37)) [(w6.heap.size, [.int .i64 z, .slice a11 m c11]), (w5.heap.size, [.int .i64 z, .slice a9 m c9]), (w3.heap.size, [.int .i64 s, .slice a6 n c6]), (w1.heap.size, [.int .i64 s, .slice a n c])]) := HD_34.out.more [.int .i64 z, .slice a11 m c11] 37
      clear HD_34
      have ZZ38 : Hid ((w6.alloc (.cells #[.int .i64 z, .slice a11 m c11] 37)).heap.size = w6.heap.size + 1) := by show _ = _; simp
      have ZZ39 : Hid (w6.heap.size ≤ (w6.alloc (.cells #[.int .i64 z, .slice a11 m c11] 37)).heap.size) := BA_36.out.size
      have G_39 : Hid (EdgesIn w.heap.size w1.heap.size (w6.alloc (.cells #[.int .i64 z, .slice a11 m c11] 37)) a L) := G_35.out.below BA_36.out (by have y0 := ZZ3.out; have y1 := ZZ7.out; have y2 := ZZ8.out; have y3 := ZZ13.out; have y4 := ZZ16.out; have y5 := ZZ20.out; have y6 := ZZ21.out; have y7 := ZZ24.out; have y8 := ZZ27.out; have y9 := ZZ31.out; have y10 := ZZ32.out; have y11 := ZZ35.out; have y12 := ZZ38.out; have y13 := ZZ39.out; omega)
      have X_39 : Hid (EdgesOwn w2.heap.size w3.heap.size (w6.alloc (.cells #[.int .i64 z, .slice a11 m c11] 37)) a6 L) := X_35.out.below BA_36.out (by have y0 := ZZ3.out; have y1 := ZZ7.out; have y2 := ZZ8.out; have y3 := ZZ13.out; have y4 := ZZ16.out; have y5 := ZZ20.out; have y6 := ZZ21.out; have y7 := ZZ24.out; have y8 := ZZ27.out; have y9 := ZZ31.out; have y10 := ZZ32.out; have y11 := ZZ35.out; have y12 := ZZ38.out; have y13 := ZZ39.out; omega)
      have Y_39 : Hid (EdgesOwn w4.heap.size w5.heap.size (w6.alloc (.cells #[.int .i64 z, .slice a11 m c11] 37)) a9 M) := Y_35.out.below BA_36.out (by have y0 := ZZ3.out; have y1 := ZZ7.out; have y2 := ZZ8.out; have y3 := ZZ13.out; have y4 := ZZ16.out; have y5 := ZZ20.out; have y6 := ZZ21.out; have y7 := ZZ24.out; have y8 := ZZ27.out; have y9 := ZZ31.out; have y10 := ZZ32.out; have y11 := ZZ35.out; have y12 := ZZ38.out; have y13 := ZZ39.out; omega)
      clear G_35 X_35 Y_35
      clear BA_36
      have q_40 : (w6.alloc (.cells #[.int .i64 z, .slice a11 m c11] 37)).cell? ⟨w5.heap.size, 0, none⟩ = some (.int .i64 z) := HD_37.out.cell (b := w5.heap.size) (vs := [.int .i64 z, .slice a9 m c9]) (i := 0) (by simp) (by simp)
      have q_41 : (w6.alloc (.cells #[.int .i64 z, .slice a11 m c11] 37)).cell? ⟨w5.heap.size, 1, none⟩ = some (.slice a9 m c9) := HD_37.out.cell (b := w5.heap.size) (vs := [.int .i64 z, .slice a9 m c9]) (i := 1) (by simp) (by simp)
      go_wp2_with fail
      refine (graphText_any w4.heap.size w5.heap.size z a9 m c9 M _ Y_39.out.toIn (by have y0 := ZZ3.out; have y1 := ZZ7.out; have y2 := ZZ8.out; have y3 := ZZ13.out; have y4 := ZZ16.out; have y5 := ZZ20.out; have y6 := ZZ21.out; have y7 := ZZ24.out; have y8 := ZZ27.out; have y9 := ZZ31.out; have y10 := ZZ32.out; have y11 := ZZ35.out; have y12 := ZZ38.out; have y13 := ZZ39.out; omega) HML.out (by have := HM40.out; omega)).mono ?_
      rintro e w7 ⟨t13, ok13, rfl, HT13, B_42⟩
      clear q_40 q_41
      have HD_43 : Hid (Hold w w7 [(w6.heap.size, [.int .i64 z, .slice a11 m c11]), (w5.heap.size, [.int .i64 z, .slice a9 m c9]), (w3.heap.size, [.int .i64 s, .slice a6 n c6]), (w1.heap.size, [.int .i64 s, .slice a n c])]) := HD_37.out.below B_42.out
      clear HD_37
      have ZZ44 : Hid ((w6.alloc (.cells #[.int .i64 z, .slice a11 m c11] 37)).heap.size ≤ w7.heap.size) := B_42.out.size
      have G_44 : Hid (EdgesIn w.heap.size w1.heap.size w7 a L) := G_39.out.below B_42.out (by have y0 := ZZ3.out; have y1 := ZZ7.out; have y2 := ZZ8.out; have y3 := ZZ13.out; have y4 := ZZ16.out; have y5 := ZZ20.out; have y6 := ZZ21.out; have y7 := ZZ24.out; have y8 := ZZ27.out; have y9 := ZZ31.out; have y10 := ZZ32.out; have y11 := ZZ35.out; have y12 := ZZ38.out; have y13 := ZZ39.out; have y14 := ZZ44.out; omega)
      have X_44 : Hid (EdgesOwn w2.heap.size w3.heap.size w7 a6 L) := X_39.out.below B_42.out (by have y0 := ZZ3.out; have y1 := ZZ7.out; have y2 := ZZ8.out; have y3 := ZZ13.out; have y4 := ZZ16.out; have y5 := ZZ20.out; have y6 := ZZ21.out; have y7 := ZZ24.out; have y8 := ZZ27.out; have y9 := ZZ31.out; have y10 := ZZ32.out; have y11 := ZZ35.out; have y12 := ZZ38.out; have y13 := ZZ39.out; have y14 := ZZ44.out; omega)
      have Y_44 : Hid (EdgesOwn w4.heap.size w5.heap.size w7 a9 M) := Y_39.out.below B_42.out (by have y0 := ZZ3.out; have y1 := ZZ7.out; have y2 := ZZ8.out; have y3 := ZZ13.out; have y4 := ZZ16.out; have y5 := ZZ20.out; have y6 := ZZ21.out; have y7 := ZZ24.out; have y8 := ZZ27.out; have y9 := ZZ31.out; have y10 := ZZ32.out; have y11 := ZZ35.out; have y12 := ZZ38.out; have y13 := ZZ39.out; have y14 := ZZ44.out; omega)
      clear G_39 X_39 Y_39
      clear B_42
      clear Y_44
      obtain rfl : t13 = U := HT13.out.2.trans (gtxt_back (HMY.out (by simp)).1 (HMY.out (by simp)).2)
      have q_45 : w7.cell? ⟨w1.heap.size, 0, none⟩ = some (.int .i64 s) := HD_43.out.cell (b := w1.heap.size) (vs := [.int .i64 s, .slice a n c]) (i := 0) (by simp) (by simp)
      have q_46 : w7.cell? ⟨w1.heap.size, 1, none⟩ = some (.slice a n c) := HD_43.out.cell (b := w1.heap.size) (vs := [.int .i64 s, .slice a n c]) (i := 1) (by simp) (by simp)
      go_wp2_with fail
      refine (specGOk_any w.heap.size w1.heap.size s a n c L true _ G_44.out (by have y0 := ZZ3.out; have y1 := ZZ7.out; have y2 := ZZ8.out; have y3 := ZZ13.out; have y4 := ZZ16.out; have y5 := ZZ20.out; have y6 := ZZ21.out; have y7 := ZZ24.out; have y8 := ZZ27.out; have y9 := ZZ31.out; have y10 := ZZ32.out; have y11 := ZZ35.out; have y12 := ZZ38.out; have y13 := ZZ39.out; have y14 := ZZ44.out; omega) HLN.out (by have := HN11.out; omega) HOKK.out.symm).mono ?_
      rintro e w8 ⟨rfl, B_47⟩
      clear q_45 q_46
      have HD_48 : Hid (Hold w w8 [(w6.heap.size, [.int .i64 z, .slice a11 m c11]), (w5.heap.size, [.int .i64 z, .slice a9 m c9]), (w3.heap.size, [.int .i64 s, .slice a6 n c6]), (w1.heap.size, [.int .i64 s, .slice a n c])]) := HD_43.out.below B_47.out
      clear HD_43
      have ZZ49 : Hid (w7.heap.size ≤ w8.heap.size) := B_47.out.size
      have G_49 : Hid (EdgesIn w.heap.size w1.heap.size w8 a L) := G_44.out.below B_47.out (by have y0 := ZZ3.out; have y1 := ZZ7.out; have y2 := ZZ8.out; have y3 := ZZ13.out; have y4 := ZZ16.out; have y5 := ZZ20.out; have y6 := ZZ21.out; have y7 := ZZ24.out; have y8 := ZZ27.out; have y9 := ZZ31.out; have y10 := ZZ32.out; have y11 := ZZ35.out; have y12 := ZZ38.out; have y13 := ZZ39.out; have y14 := ZZ44.out; have y15 := ZZ49.out; omega)
      have X_49 : Hid (EdgesOwn w2.heap.size w3.heap.size w8 a6 L) := X_44.out.below B_47.out (by have y0 := ZZ3.out; have y1 := ZZ7.out; have y2 := ZZ8.out; have y3 := ZZ13.out; have y4 := ZZ16.out; have y5 := ZZ20.out; have y6 := ZZ21.out; have y7 := ZZ24.out; have y8 := ZZ27.out; have y9 := ZZ31.out; have y10 := ZZ32.out; have y11 := ZZ35.out; have y12 := ZZ38.out; have y13 := ZZ39.out; have y14 := ZZ44.out; have y15 := ZZ49.out; omega)
      clear G_44 X_44
      clear B_47
      have q_50 : w8.cell? ⟨w1.heap.size, 0, none⟩ = some (.int .i64 s) := HD_48.out.cell (b := w1.heap.size) (vs := [.int .i64 s, .slice a n c]) (i := 0) (by simp) (by simp)
      have q_51 : w8.cell? ⟨w1.heap.size, 1, none⟩ = some (.slice a n c) := HD_48.out.cell (b := w1.heap.size) (vs := [.int .i64 s, .slice a n c]) (i := 1) (by simp) (by simp)
      go_wp2_with fail
      refine (graphOk_any w.heap.size w1.heap.size s a n c L true _ G_49.out (by have y0 := ZZ3.out; have y1 := ZZ7.out; have y2 := ZZ8.out; have y3 := ZZ13.out; have y4 := ZZ16.out; have y5 := ZZ20.out; have y6 := ZZ21.out; have y7 := ZZ24.out; have y8 := ZZ27.out; have y9 := ZZ31.out; have y10 := ZZ32.out; have y11 := ZZ35.out; have y12 := ZZ38.out; have y13 := ZZ39.out; have y14 := ZZ44.out; have y15 := ZZ49.out; omega) HLN.out (by have := HN11.out; omega) HOKK.out.symm).mono ?_
      rintro e w9 ⟨rfl, B_52⟩
      clear q_50 q_51
      have HD_53 : Hid (Hold w w9 [(w6.heap.size, [.int .i64 z, .slice a11 m c11]), (w5.heap.size, [.int .i64 z, .slice a9 m c9]), (w3.heap.size, [.int .i64 s, .slice a6 n c6]), (w1.heap.size, [.int .i64 s, .slice a n c])]) := HD_48.out.below B_52.out
      clear HD_48
      have ZZ54 : Hid (w8.heap.size ≤ w9.heap.size) := B_52.out.size
      have G_54 : Hid (EdgesIn w.heap.size w1.heap.size w9 a L) := G_49.out.below B_52.out (by have y0 := ZZ3.out; have y1 := ZZ7.out; have y2 := ZZ8.out; have y3 := ZZ13.out; have y4 := ZZ16.out; have y5 := ZZ20.out; have y6 := ZZ21.out; have y7 := ZZ24.out; have y8 := ZZ27.out; have y9 := ZZ31.out; have y10 := ZZ32.out; have y11 := ZZ35.out; have y12 := ZZ38.out; have y13 := ZZ39.out; have y14 := ZZ44.out; have y15 := ZZ49.out; have y16 := ZZ54.out; omega)
      have X_54 : Hid (EdgesOwn w2.heap.size w3.heap.size w9 a6 L) := X_49.out.below B_52.out (by have y0 := ZZ3.out; have y1 := ZZ7.out; have y2 := ZZ8.out; have y3 := ZZ13.out; have y4 := ZZ16.out; have y5 := ZZ20.out; have y6 := ZZ21.out; have y7 := ZZ24.out; have y8 := ZZ27.out; have y9 := ZZ31.out; have y10 := ZZ32.out; have y11 := ZZ35.out; have y12 := ZZ38.out; have y13 := ZZ39.out; have y14 := ZZ44.out; have y15 := ZZ49.out; have y16 := ZZ54.out; omega)
      clear G_49 X_49
      clear B_52
      have q_55 : w9.cell? ⟨w3.heap.size, 0, none⟩ = some (.int .i64 s) := HD_53.out.cell (b := w3.heap.size) (vs := [.int .i64 s, .slice a6 n c6]) (i := 0) (by simp) (by simp)
      have q_56 : w9.cell? ⟨w3.heap.size, 1, none⟩ = some (.slice a6 n c6) := HD_53.out.cell (b := w3.heap.size) (vs := [.int .i64 s, .slice a6 n c6]) (i := 1) (by simp) (by simp)
      have q_57 : w9.cell? ⟨w1.heap.size, 0, none⟩ = some (.int .i64 s) := HD_53.out.cell (b := w1.heap.size) (vs := [.int .i64 s, .slice a n c]) (i := 0) (by simp) (by simp)
      have q_58 : w9.cell? ⟨w1.heap.size, 1, none⟩ = some (.slice a n c) := HD_53.out.cell (b := w1.heap.size) (vs := [.int .i64 s, .slice a n c]) (i := 1) (by simp) (by simp)
      go_wp2_with fail
      refine (sameGraph_any w2.heap.size w3.heap.size w.heap.size w1.heap.size s a6 a n c6 c L _ X_54.out.toIn G_54.out (by have y0 := ZZ3.out; have y1 := ZZ7.out; have y2 := ZZ8.out; have y3 := ZZ13.out; have y4 := ZZ16.out; have y5 := ZZ20.out; have y6 := ZZ21.out; have y7 := ZZ24.out; have y8 := ZZ27.out; have y9 := ZZ31.out; have y10 := ZZ32.out; have y11 := ZZ35.out; have y12 := ZZ38.out; have y13 := ZZ39.out; have y14 := ZZ44.out; have y15 := ZZ49.out; have y16 := ZZ54.out; omega) (by have y0 := ZZ3.out; have y1 := ZZ7.out; have y2 := ZZ8.out; have y3 := ZZ13.out; have y4 := ZZ16.out; have y5 := ZZ20.out; have y6 := ZZ21.out; have y7 := ZZ24.out; have y8 := ZZ27.out; have y9 := ZZ31.out; have y10 := ZZ32.out; have y11 := ZZ35.out; have y12 := ZZ38.out; have y13 := ZZ39.out; have y14 := ZZ44.out; have y15 := ZZ49.out; have y16 := ZZ54.out; omega) HLN.out (by have := HN11.out; omega)).mono ?_
      rintro e w10 ⟨rfl, B_59⟩
      clear q_55 q_56 q_57 q_58
      have HD_60 : Hid (Hold w w10 [(w6.heap.size, [.int .i64 z, .slice a11 m c11]), (w5.heap.size, [.int .i64 z, .slice a9 m c9]), (w3.heap.size, [.int .i64 s, .slice a6 n c6]), (w1.heap.size, [.int .i64 s, .slice a n c])]) := HD_53.out.below B_59.out
      clear HD_53
      have ZZ61 : Hid (w9.heap.size ≤ w10.heap.size) := B_59.out.size
      have G_61 : Hid (EdgesIn w.heap.size w1.heap.size w10 a L) := G_54.out.below B_59.out (by have y0 := ZZ3.out; have y1 := ZZ7.out; have y2 := ZZ8.out; have y3 := ZZ13.out; have y4 := ZZ16.out; have y5 := ZZ20.out; have y6 := ZZ21.out; have y7 := ZZ24.out; have y8 := ZZ27.out; have y9 := ZZ31.out; have y10 := ZZ32.out; have y11 := ZZ35.out; have y12 := ZZ38.out; have y13 := ZZ39.out; have y14 := ZZ44.out; have y15 := ZZ49.out; have y16 := ZZ54.out; have y17 := ZZ61.out; omega)
      have X_61 : Hid (EdgesOwn w2.heap.size w3.heap.size w10 a6 L) := X_54.out.below B_59.out (by have y0 := ZZ3.out; have y1 := ZZ7.out; have y2 := ZZ8.out; have y3 := ZZ13.out; have y4 := ZZ16.out; have y5 := ZZ20.out; have y6 := ZZ21.out; have y7 := ZZ24.out; have y8 := ZZ27.out; have y9 := ZZ31.out; have y10 := ZZ32.out; have y11 := ZZ35.out; have y12 := ZZ38.out; have y13 := ZZ39.out; have y14 := ZZ44.out; have y15 := ZZ49.out; have y16 := ZZ54.out; have y17 := ZZ61.out; omega)
      clear G_54 X_54
      clear B_59
      go_wp2
      go_ret
      exact ⟨rfl, HD_60.out.bel⟩
    · subst hmay
      go_wp2_with fail
      refine (HIM.out _).mono ?_
      rintro e w5 ⟨a9, c9, rfl, X_9, B_25⟩
      have HD_26 : Hid (Hold w w5 [(w3.heap.size, [.int .i64 s, .slice a6 n c6]), (w1.heap.size, [.int .i64 s, .slice a n c])]) := HD_23.out.below B_25.out
      clear HD_23
      have ZZ27 : Hid (w4.heap.size ≤ w5.heap.size) := B_25.out.size
      have G_27 : Hid (EdgesIn w.heap.size w1.heap.size w5 a L) := G_24.out.below B_25.out (by have y0 := ZZ3.out; have y1 := ZZ7.out; have y2 := ZZ8.out; have y3 := ZZ13.out; have y4 := ZZ16.out; have y5 := ZZ20.out; have y6 := ZZ21.out; have y7 := ZZ24.out; have y8 := ZZ27.out; omega)
      have X_27 : Hid (EdgesOwn w2.heap.size w3.heap.size w5 a6 L) := X_24.out.below B_25.out (by have y0 := ZZ3.out; have y1 := ZZ7.out; have y2 := ZZ8.out; have y3 := ZZ13.out; have y4 := ZZ16.out; have y5 := ZZ20.out; have y6 := ZZ21.out; have y7 := ZZ24.out; have y8 := ZZ27.out; omega)
      clear G_24 X_24
      clear B_25
      have Y_28 : Hid (EdgesOwn w4.heap.size w5.heap.size w5 a9 M) := X_9.out
      clear X_9 HIM
      have BA_29 : Hid (Below w5.heap.size w5 (w5.alloc (.cells #[.int .i64 z, .slice a9 m c9] 37))) := below1' w5 _
      have HD_30 : Hid (Hold w (w5.alloc (.cells #[.int .i64 z, .slice a9 m c9] 37)) [(w5.heap.size, [.int .i64 z, .slice a9 m c9]), (w3.heap.size, [.int .i64 s, .slice a6 n c6]), (w1.heap.size, [.int .i64 s, .slice a n c])]) := HD_26.out.more [.int .i64 z, .slice a9 m c9] 37
      clear HD_26
      have ZZ31 : Hid ((w5.alloc (.cells #[.int .i64 z, .slice a9 m c9] 37)).heap.size = w5.heap.size + 1) := by show _ = _; simp
      have ZZ32 : Hid (w5.heap.size ≤ (w5.alloc (.cells #[.int .i64 z, .slice a9 m c9] 37)).heap.size) := BA_29.out.size
      have G_32 : Hid (EdgesIn w.heap.size w1.heap.size (w5.alloc (.cells #[.int .i64 z, .slice a9 m c9] 37)) a L) := G_27.out.below BA_29.out (by have y0 := ZZ3.out; have y1 := ZZ7.out; have y2 := ZZ8.out; have y3 := ZZ13.out; have y4 := ZZ16.out; have y5 := ZZ20.out; have y6 := ZZ21.out; have y7 := ZZ24.out; have y8 := ZZ27.out; have y9 := ZZ31.out; have y10 := ZZ32.out; omega)
      have X_32 : Hid (EdgesOwn w2.heap.size w3.heap.size (w5.alloc (.cells #[.int .i64 z, .slice a9 m c9] 37)) a6 L) := X_27.out.below BA_29.out (by have y0 := ZZ3.out; have y1 := ZZ7.out; have y2 := ZZ8.out; have y3 := ZZ13.out; have y4 := ZZ16.out; have y5 := ZZ20.out; have y6 := ZZ21.out; have y7 := ZZ24.out; have y8 := ZZ27.out; have y9 := ZZ31.out; have y10 := ZZ32.out; omega)
      have Y_32 : Hid (EdgesOwn w4.heap.size w5.heap.size (w5.alloc (.cells #[.int .i64 z, .slice a9 m c9] 37)) a9 M) := Y_28.out.below BA_29.out (by have y0 := ZZ3.out; have y1 := ZZ7.out; have y2 := ZZ8.out; have y3 := ZZ13.out; have y4 := ZZ16.out; have y5 := ZZ20.out; have y6 := ZZ21.out; have y7 := ZZ24.out; have y8 := ZZ27.out; have y9 := ZZ31.out; have y10 := ZZ32.out; omega)
      clear G_27 X_27 Y_28
      clear BA_29
      go_wp2_with fail
      refine (HSP.out _).mono ?_
      rintro e w6 ⟨a11, c11, rfl, X_11, B_33⟩
      have HD_34 : Hid (Hold w w6 [(w5.heap.size, [.int .i64 z, .slice a9 m c9]), (w3.heap.size, [.int .i64 s, .slice a6 n c6]), (w1.heap.size, [.int .i64 s, .slice a n c])]) := HD_30.out.below B_33.out
      clear HD_30
      have ZZ35 : Hid ((w5.alloc (.cells #[.int .i64 z, .slice a9 m c9] 37)).heap.size ≤ w6.heap.size) := B_33.out.size
      have G_35 : Hid (EdgesIn w.heap.size w1.heap.size w6 a L) := G_32.out.below B_33.out (by have y0 := ZZ3.out; have y1 := ZZ7.out; have y2 := ZZ8.out; have y3 := ZZ13.out; have y4 := ZZ16.out; have y5 := ZZ20.out; have y6 := ZZ21.out; have y7 := ZZ24.out; have y8 := ZZ27.out; have y9 := ZZ31.out; have y10 := ZZ32.out; have y11 := ZZ35.out; omega)
      have X_35 : Hid (EdgesOwn w2.heap.size w3.heap.size w6 a6 L) := X_32.out.below B_33.out (by have y0 := ZZ3.out; have y1 := ZZ7.out; have y2 := ZZ8.out; have y3 := ZZ13.out; have y4 := ZZ16.out; have y5 := ZZ20.out; have y6 := ZZ21.out; have y7 := ZZ24.out; have y8 := ZZ27.out; have y9 := ZZ31.out; have y10 := ZZ32.out; have y11 := ZZ35.out; omega)
      have Y_35 : Hid (EdgesOwn w4.heap.size w5.heap.size w6 a9 M) := Y_32.out.below B_33.out (by have y0 := ZZ3.out; have y1 := ZZ7.out; have y2 := ZZ8.out; have y3 := ZZ13.out; have y4 := ZZ16.out; have y5 := ZZ20.out; have y6 := ZZ21.out; have y7 := ZZ24.out; have y8 := ZZ27.out; have y9 := ZZ31.out; have y10 := ZZ32.out; have y11 := ZZ35.out; omega)
      clear G_32 X_32 Y_32
      clear B_33
      clear X_11 HSP
      have BA_36 : Hid (Below w6.heap.size w6 (w6.alloc (.cells #[.int .i64 z, .slice a11 m c11] 37))) := below1' w6 _
      have HD_37 : Hid (Hold w (w6.alloc (.cells #[.int .i64 z, .slice a11 m c11] 37)) [(w6.heap.size, [.int .i64 z, .slice a11 m c11]), (w5.heap.size, [.int .i64 z, .slice a9 m c9]), (w3.heap.size, [.int .i64 s, .slice a6 n c6]), (w1.heap.size, [.int .i64 s, .slice a n c])]) := HD_34.out.more [.int .i64 z, .slice a11 m c11] 37
      clear HD_34
      have ZZ38 : Hid ((w6.alloc (.cells #[.int .i64 z, .slice a11 m c11] 37)).heap.size = w6.heap.size + 1) := by show _ = _; simp
      have ZZ39 : Hid (w6.heap.size ≤ (w6.alloc (.cells #[.int .i64 z, .slice a11 m c11] 37)).heap.size) := BA_36.out.size
      have G_39 : Hid (EdgesIn w.heap.size w1.heap.size (w6.alloc (.cells #[.int .i64 z, .slice a11 m c11] 37)) a L) := G_35.out.below BA_36.out (by have y0 := ZZ3.out; have y1 := ZZ7.out; have y2 := ZZ8.out; have y3 := ZZ13.out; have y4 := ZZ16.out; have y5 := ZZ20.out; have y6 := ZZ21.out; have y7 := ZZ24.out; have y8 := ZZ27.out; have y9 := ZZ31.out; have y10 := ZZ32.out; have y11 := ZZ35.out; have y12 := ZZ38.out; have y13 := ZZ39.out; omega)
      have X_39 : Hid (EdgesOwn w2.heap.size w3.heap.size (w6.alloc (.cells #[.int .i64 z, .slice a11 m c11] 37)) a6 L) := X_35.out.below BA_36.out (by have y0 := ZZ3.out; have y1 := ZZ7.out; have y2 := ZZ8.out; have y3 := ZZ13.out; have y4 := ZZ16.out; have y5 := ZZ20.out; have y6 := ZZ21.out; have y7 := ZZ24.out; have y8 := ZZ27.out; have y9 := ZZ31.out; have y10 := ZZ32.out; have y11 := ZZ35.out; have y12 := ZZ38.out; have y13 := ZZ39.out; omega)
      have Y_39 : Hid (EdgesOwn w4.heap.size w5.heap.size (w6.alloc (.cells #[.int .i64 z, .slice a11 m c11] 37)) a9 M) := Y_35.out.below BA_36.out (by have y0 := ZZ3.out; have y1 := ZZ7.out; have y2 := ZZ8.out; have y3 := ZZ13.out; have y4 := ZZ16.out; have y5 := ZZ20.out; have y6 := ZZ21.out; have y7 := ZZ24.out; have y8 := ZZ27.out; have y9 := ZZ31.out; have y10 := ZZ32.out; have y11 := ZZ35.out; have y12 := ZZ38.out; have y13 := ZZ39.out; omega)
      clear G_35 X_35 Y_35
      clear BA_36
      have q_40 : (w6.alloc (.cells #[.int .i64 z, .slice a11 m c11] 37)).cell? ⟨w5.heap.size, 0, none⟩ = some (.int .i64 z) := HD_37.out.cell (b := w5.heap.size) (vs := [.int .i64 z, .slice a9 m c9]) (i := 0) (by simp) (by simp)
      have q_41 : (w6.alloc (.cells #[.int .i64 z, .slice a11 m c11] 37)).cell? ⟨w5.heap.size, 1, none⟩ = some (.slice a9 m c9) := HD_37.out.cell (b := w5.heap.size) (vs := [.int .i64 z, .slice a9 m c9]) (i := 1) (by simp) (by simp)
      go_wp2_with fail
      refine (graphText_any w4.heap.size w5.heap.size z a9 m c9 M _ Y_39.out.toIn (by have y0 := ZZ3.out; have y1 := ZZ7.out; have y2 := ZZ8.out; have y3 := ZZ13.out; have y4 := ZZ16.out; have y5 := ZZ20.out; have y6 := ZZ21.out; have y7 := ZZ24.out; have y8 := ZZ27.out; have y9 := ZZ31.out; have y10 := ZZ32.out; have y11 := ZZ35.out; have y12 := ZZ38.out; have y13 := ZZ39.out; omega) HML.out (by have := HM40.out; omega)).mono ?_
      rintro e w7 ⟨t13, ok13, rfl, HT13, B_42⟩
      clear q_40 q_41
      have HD_43 : Hid (Hold w w7 [(w6.heap.size, [.int .i64 z, .slice a11 m c11]), (w5.heap.size, [.int .i64 z, .slice a9 m c9]), (w3.heap.size, [.int .i64 s, .slice a6 n c6]), (w1.heap.size, [.int .i64 s, .slice a n c])]) := HD_37.out.below B_42.out
      clear HD_37
      have ZZ44 : Hid ((w6.alloc (.cells #[.int .i64 z, .slice a11 m c11] 37)).heap.size ≤ w7.heap.size) := B_42.out.size
      have G_44 : Hid (EdgesIn w.heap.size w1.heap.size w7 a L) := G_39.out.below B_42.out (by have y0 := ZZ3.out; have y1 := ZZ7.out; have y2 := ZZ8.out; have y3 := ZZ13.out; have y4 := ZZ16.out; have y5 := ZZ20.out; have y6 := ZZ21.out; have y7 := ZZ24.out; have y8 := ZZ27.out; have y9 := ZZ31.out; have y10 := ZZ32.out; have y11 := ZZ35.out; have y12 := ZZ38.out; have y13 := ZZ39.out; have y14 := ZZ44.out; omega)
      have X_44 : Hid (EdgesOwn w2.heap.size w3.heap.size w7 a6 L) := X_39.out.below B_42.out (by have y0 := ZZ3.out; have y1 := ZZ7.out; have y2 := ZZ8.out; have y3 := ZZ13.out; have y4 := ZZ16.out; have y5 := ZZ20.out; have y6 := ZZ21.out; have y7 := ZZ24.out; have y8 := ZZ27.out; have y9 := ZZ31.out; have y10 := ZZ32.out; have y11 := ZZ35.out; have y12 := ZZ38.out; have y13 := ZZ39.out; have y14 := ZZ44.out; omega)
      have Y_44 : Hid (EdgesOwn w4.heap.size w5.heap.size w7 a9 M) := Y_39.out.below B_42.out (by have y0 := ZZ3.out; have y1 := ZZ7.out; have y2 := ZZ8.out; have y3 := ZZ13.out; have y4 := ZZ16.out; have y5 := ZZ20.out; have y6 := ZZ21.out; have y7 := ZZ24.out; have y8 := ZZ27.out; have y9 := ZZ31.out; have y10 := ZZ32.out; have y11 := ZZ35.out; have y12 := ZZ38.out; have y13 := ZZ39.out; have y14 := ZZ44.out; omega)
      clear G_39 X_39 Y_39
      clear B_42
      clear Y_44
      have q_45 : w7.cell? ⟨w1.heap.size, 0, none⟩ = some (.int .i64 s) := HD_43.out.cell (b := w1.heap.size) (vs := [.int .i64 s, .slice a n c]) (i := 0) (by simp) (by simp)
      have q_46 : w7.cell? ⟨w1.heap.size, 1, none⟩ = some (.slice a n c) := HD_43.out.cell (b := w1.heap.size) (vs := [.int .i64 s, .slice a n c]) (i := 1) (by simp) (by simp)
      go_wp2_with fail
      refine (specGOk_any w.heap.size w1.heap.size s a n c L true _ G_44.out (by have y0 := ZZ3.out; have y1 := ZZ7.out; have y2 := ZZ8.out; have y3 := ZZ13.out; have y4 := ZZ16.out; have y5 := ZZ20.out; have y6 := ZZ21.out; have y7 := ZZ24.out; have y8 := ZZ27.out; have y9 := ZZ31.out; have y10 := ZZ32.out; have y11 := ZZ35.out; have y12 := ZZ38.out; have y13 := ZZ39.out; have y14 := ZZ44.out; omega) HLN.out (by have := HN11.out; omega) HOKK.out.symm).mono ?_
      rintro e w8 ⟨rfl, B_47⟩
      clear q_45 q_46
      have HD_48 : Hid (Hold w w8 [(w6.heap.size, [.int .i64 z, .slice a11 m c11]), (w5.heap.size, [.int .i64 z, .slice a9 m c9]), (w3.heap.size, [.int .i64 s, .slice a6 n c6]), (w1.heap.size, [.int .i64 s, .slice a n c])]) := HD_43.out.below B_47.out
      clear HD_43
      have ZZ49 : Hid (w7.heap.size ≤ w8.heap.size) := B_47.out.size
      have G_49 : Hid (EdgesIn w.heap.size w1.heap.size w8 a L) := G_44.out.below B_47.out (by have y0 := ZZ3.out; have y1 := ZZ7.out; have y2 := ZZ8.out; have y3 := ZZ13.out; have y4 := ZZ16.out; have y5 := ZZ20.out; have y6 := ZZ21.out; have y7 := ZZ24.out; have y8 := ZZ27.out; have y9 := ZZ31.out; have y10 := ZZ32.out; have y11 := ZZ35.out; have y12 := ZZ38.out; have y13 := ZZ39.out; have y14 := ZZ44.out; have y15 := ZZ49.out; omega)
      have X_49 : Hid (EdgesOwn w2.heap.size w3.heap.size w8 a6 L) := X_44.out.below B_47.out (by have y0 := ZZ3.out; have y1 := ZZ7.out; have y2 := ZZ8.out; have y3 := ZZ13.out; have y4 := ZZ16.out; have y5 := ZZ20.out; have y6 := ZZ21.out; have y7 := ZZ24.out; have y8 := ZZ27.out; have y9 := ZZ31.out; have y10 := ZZ32.out; have y11 := ZZ35.out; have y12 := ZZ38.out; have y13 := ZZ39.out; have y14 := ZZ44.out; have y15 := ZZ49.out; omega)
      clear G_44 X_44
      clear B_47
      have q_50 : w8.cell? ⟨w1.heap.size, 0, none⟩ = some (.int .i64 s) := HD_48.out.cell (b := w1.heap.size) (vs := [.int .i64 s, .slice a n c]) (i := 0) (by simp) (by simp)
      have q_51 : w8.cell? ⟨w1.heap.size, 1, none⟩ = some (.slice a n c) := HD_48.out.cell (b := w1.heap.size) (vs := [.int .i64 s, .slice a n c]) (i := 1) (by simp) (by simp)
      go_wp2_with fail
      refine (graphOk_any w.heap.size w1.heap.size s a n c L true _ G_49.out (by have y0 := ZZ3.out; have y1 := ZZ7.out; have y2 := ZZ8.out; have y3 := ZZ13.out; have y4 := ZZ16.out; have y5 := ZZ20.out; have y6 := ZZ21.out; have y7 := ZZ24.out; have y8 := ZZ27.out; have y9 := ZZ31.out; have y10 := ZZ32.out; have y11 := ZZ35.out; have y12 := ZZ38.out; have y13 := ZZ39.out; have y14 := ZZ44.out; have y15 := ZZ49.out; omega) HLN.out (by have := HN11.out; omega) HOKK.out.symm).mono ?_
      rintro e w9 ⟨rfl, B_52⟩
      clear q_50 q_51
      have HD_53 : Hid (Hold w w9 [(w6.heap.size, [.int .i64 z, .slice a11 m c11]), (w5.heap.size, [.int .i64 z, .slice a9 m c9]), (w3.heap.size, [.int .i64 s, .slice a6 n c6]), (w1.heap.size, [.int .i64 s, .slice a n c])]) := HD_48.out.below B_52.out
      clear HD_48
      have ZZ54 : Hid (w8.heap.size ≤ w9.heap.size) := B_52.out.size
      have G_54 : Hid (EdgesIn w.heap.size w1.heap.size w9 a L) := G_49.out.below B_52.out (by have y0 := ZZ3.out; have y1 := ZZ7.out; have y2 := ZZ8.out; have y3 := ZZ13.out; have y4 := ZZ16.out; have y5 := ZZ20.out; have y6 := ZZ21.out; have y7 := ZZ24.out; have y8 := ZZ27.out; have y9 := ZZ31.out; have y10 := ZZ32.out; have y11 := ZZ35.out; have y12 := ZZ38.out; have y13 := ZZ39.out; have y14 := ZZ44.out; have y15 := ZZ49.out; have y16 := ZZ54.out; omega)
      have X_54 : Hid (EdgesOwn w2.heap.size w3.heap.size w9 a6 L) := X_49.out.below B_52.out (by have y0 := ZZ3.out; have y1 := ZZ7.out; have y2 := ZZ8.out; have y3 := ZZ13.out; have y4 := ZZ16.out; have y5 := ZZ20.out; have y6 := ZZ21.out; have y7 := ZZ24.out; have y8 := ZZ27.out; have y9 := ZZ31.out; have y10 := ZZ32.out; have y11 := ZZ35.out; have y12 := ZZ38.out; have y13 := ZZ39.out; have y14 := ZZ44.out; have y15 := ZZ49.out; have y16 := ZZ54.out; omega)
      clear G_49 X_49
      clear B_52
      have q_55 : w9.cell? ⟨w3.heap.size, 0, none⟩ = some (.int .i64 s) := HD_53.out.cell (b := w3.heap.size) (vs := [.int .i64 s, .slice a6 n c6]) (i := 0) (by simp) (by simp)
      have q_56 : w9.cell? ⟨w3.heap.size, 1, none⟩ = some (.slice a6 n c6) := HD_53.out.cell (b := w3.heap.size) (vs := [.int .i64 s, .slice a6 n c6]) (i := 1) (by simp) (by simp)
      have q_57 : w9.cell? ⟨w1.heap.size, 0, none⟩ = some (.int .i64 s) := HD_53.out.cell (b := w1.heap.size) (vs := [.int .i64 s, .slice a n c]) (i := 0) (by simp) (by simp)
      have q_58 : w9.cell? ⟨w1.heap.size, 1, none⟩ = some (.slice a n c) := HD_53.out.cell (b := w1.heap.size) (vs := [.int .i64 s, .slice a n c]) (i := 1) (by simp) (by simp)
      go_wp2_with fail
      refine (sameGraph_any w2.heap.size w3.heap.size w.heap.size w1.heap.size s a6 a n c6 c L _ X_54.out.toIn G_54.out (by have y0 := ZZ3.out; have y1 := ZZ7.out; have y2 := ZZ8.out; have y3 := ZZ13.out; have y4 := ZZ16.out; have y5 := ZZ20.out; have y6 := ZZ21.out; have y7 := ZZ24.out; have y8 := ZZ27.out; have y9 := ZZ31.out; have y10 := ZZ32.out; have y11 := ZZ35.out; have y12 := ZZ38.out; have y13 := ZZ39.out; have y14 := ZZ44.out; have y15 := ZZ49.out; have y16 := ZZ54.out; omega) (by have y0 := ZZ3.out; have y1 := ZZ7.out; have y2 := ZZ8.out; have y3 := ZZ13.out; have y4 := ZZ16.out; have y5 := ZZ20.out; have y6 := ZZ21.out; have y7 := ZZ24.out; have y8 := ZZ27.out; have y9 := ZZ31.out; have y10 := ZZ32.out; have y11 := ZZ35.out; have y12 := ZZ38.out; have y13 := ZZ39.out; have y14 := ZZ44.out; have y15 := ZZ49.out; have y16 := ZZ54.out; omega) HLN.out (by have := HN11.out; omega)).mono ?_
      rintro e w10 ⟨rfl, B_59⟩
      clear q_55 q_56 q_57 q_58
      have HD_60 : Hid (Hold w w10 [(w6.heap.size, [.int .i64 z, .slice a11 m c11]), (w5.heap.size, [.int .i64 z, .slice a9 m c9]), (w3.heap.size, [.int .i64 s, .slice a6 n c6]), (w1.heap.size, [.int .i64 s, .slice a n c])]) := HD_53.out.below B_59.out
      clear HD_53
      have ZZ61 : Hid (w9.heap.size ≤ w10.heap.size) := B_59.out.size
      have G_61 : Hid (EdgesIn w.heap.size w1.heap.size w10 a L) := G_54.out.below B_59.out (by have y0 := ZZ3.out; have y1 := ZZ7.out; have y2 := ZZ8.out; have y3 := ZZ13.out; have y4 := ZZ16.out; have y5 := ZZ20.out; have y6 := ZZ21.out; have y7 := ZZ24.out; have y8 := ZZ27.out; have y9 := ZZ31.out; have y10 := ZZ32.out; have y11 := ZZ35.out; have y12 := ZZ38.out; have y13 := ZZ39.out; have y14 := ZZ44.out; have y15 := ZZ49.out; have y16 := ZZ54.out; have y17 := ZZ61.out; omega)
      have X_61 : Hid (EdgesOwn w2.heap.size w3.heap.size w10 a6 L) := X_54.out.below B_59.out (by have y0 := ZZ3.out; have y1 := ZZ7.out; have y2 := ZZ8.out; have y3 := ZZ13.out; have y4 := ZZ16.out; have y5 := ZZ20.out; have y6 := ZZ21.out; have y7 := ZZ24.out; have y8 := ZZ27.out; have y9 := ZZ31.out; have y10 := ZZ32.out; have y11 := ZZ35.out; have y12 := ZZ38.out; have y13 := ZZ39.out; have y14 := ZZ44.out; have y15 := ZZ49.out; have y16 := ZZ54.out; have y17 := ZZ61.out; omega)
      clear G_54 X_54
      clear B_59
      go_wp2
      go_ret
      exact ⟨rfl, HD_60.out.bel⟩
  · have HOKK : Hid (okG s L = false) := by show _ = _; simpa using hok
    clear hok
    have q_9 : (w1.alloc (.cells #[.int .i64 s, .slice a n c] 37)).cell? ⟨w1.heap.size, 0, none⟩ = some (.int .i64 s) := HD_6.out.cell (b := w1.heap.size) (vs := [.int .i64 s, .slice a n c]) (i := 0) (by simp) (by simp)
    have q_10 : (w1.alloc (.cells #[.int .i64 s, .slice a n c] 37)).cell? ⟨w1.heap.size, 1, none⟩ = some (.slice a n c) := HD_6.out.cell (b := w1.heap.size) (vs := [.int .i64 s, .slice a n c]) (i := 1) (by simp) (by simp)
    go_wp2_with fail
    refine (graphText_any w.heap.size w1.heap.size s a n c L _ G_8.out (by have y0 := ZZ3.out; have y1 := ZZ7.out; have y2 := ZZ8.out; omega) HLN.out (by have := HN11.out; omega)).mono ?_
    rintro e w2 ⟨t, ok, rfl, HT, B_11⟩
    clear q_9 q_10
    have HD_12 : Hid (Hold w w2 [(w1.heap.size, [.int .i64 s, .slice a n c])]) := HD_6.out.below B_11.out
    clear HD_6
    have ZZ13 : Hid ((w1.alloc (.cells #[.int .i64 s, .slice a n c] 37)).heap.size ≤ w2.heap.size) := B_11.out.size
    have G_13 : Hid (EdgesIn w.heap.size w1.heap.size w2 a L) := G_8.out.below B_11.out (by have y0 := ZZ3.out; have y1 := ZZ7.out; have y2 := ZZ8.out; have y3 := ZZ13.out; omega)
    clear G_8
    clear B_11
    obtain rfl : ok = false := HT.out.1.trans HOKK.out
    go_wp2_with fail
    refine (readSome t (by rw [HT.out.2]; have := gtxt_size s L (by have := HN11.out; have := HLN.out; omega); omega) _).mono ?_
    rintro e w3 ⟨z6, a6, n6, c6, ok6, rfl, B_14⟩
    have HD_15 : Hid (Hold w w3 [(w1.heap.size, [.int .i64 s, .slice a n c])]) := HD_12.out.below B_14.out
    clear HD_12
    have ZZ16 : Hid (w2.heap.size ≤ w3.heap.size) := B_14.out.size
    have G_16 : Hid (EdgesIn w.heap.size w1.heap.size w3 a L) := G_13.out.below B_14.out (by have y0 := ZZ3.out; have y1 := ZZ7.out; have y2 := ZZ8.out; have y3 := ZZ13.out; have y4 := ZZ16.out; omega)
    clear G_13
    clear B_14
    have BA_17 : Hid (Below w3.heap.size w3 (w3.alloc (.cells #[.int .i64 z6, .slice a6 n6 c6] 37))) := below1' w3 _
    have HD_18 : Hid (Hold w (w3.alloc (.cells #[.int .i64 z6, .slice a6 n6 c6] 37)) [(w3.heap.size, [.int .i64 z6, .slice a6 n6 c6]), (w1.heap.size, [.int .i64 s, .slice a n c])]) := HD_15.out.more [.int .i64 z6, .slice a6 n6 c6] 37
    clear HD_15
    have ZZ19 : Hid ((w3.alloc (.cells #[.int .i64 z6, .slice a6 n6 c6] 37)).heap.size = w3.heap.size + 1) := by show _ = _; simp
    have ZZ20 : Hid (w3.heap.size ≤ (w3.alloc (.cells #[.int .i64 z6, .slice a6 n6 c6] 37)).heap.size) := BA_17.out.size
    have G_20 : Hid (EdgesIn w.heap.size w1.heap.size (w3.alloc (.cells #[.int .i64 z6, .slice a6 n6 c6] 37)) a L) := G_16.out.below BA_17.out (by have y0 := ZZ3.out; have y1 := ZZ7.out; have y2 := ZZ8.out; have y3 := ZZ13.out; have y4 := ZZ16.out; have y5 := ZZ19.out; have y6 := ZZ20.out; omega)
    clear G_16
    clear BA_17
    go_wp2_with fail
    refine (drawReadG_any _ n0 cap0 a0 hn (HC.out.below HD_18.out.bel)).mono ?_
    rintro e w4 ⟨U, rfl, HU, B_21⟩
    have HD_22 : Hid (Hold w w4 [(w3.heap.size, [.int .i64 z6, .slice a6 n6 c6]), (w1.heap.size, [.int .i64 s, .slice a n c])]) := HD_18.out.below B_21.out
    clear HD_18
    have ZZ23 : Hid ((w3.alloc (.cells #[.int .i64 z6, .slice a6 n6 c6] 37)).heap.size ≤ w4.heap.size) := B_21.out.size
    have G_23 : Hid (EdgesIn w.heap.size w1.heap.size w4 a L) := G_20.out.below B_21.out (by have y0 := ZZ3.out; have y1 := ZZ7.out; have y2 := ZZ8.out; have y3 := ZZ13.out; have y4 := ZZ16.out; have y5 := ZZ19.out; have y6 := ZZ20.out; have y7 := ZZ23.out; omega)
    clear G_20
    clear B_21
    obtain ⟨may, z, M, m, hML, hM40, hMY, hSP, hIM⟩ := readBothG U (by have := HU.out; omega)
    have HML : Hid (M.length = m) := hML
    have HM40 : Hid (m ≤ 40) := hM40
    have HMY : Hid (may = true → okG z M = true ∧ U.data.toList = gtxtTo z M M.length) := hMY
    have HSP : Hid (∀ w : World, Calls Try.prog 39 #[.string U] w fun e w' => ∃ a cap, e = .returned (.tuple #[gv z a m cap, .bool may]) ∧ Hid (EdgesOwn w.heap.size w'.heap.size w' a M) ∧ Hid (Below w.heap.size w w')) := hSP
    have HIM : Hid (∀ w : World, Calls Try.prog 37 #[.string U] w fun e w' => ∃ a cap, e = .returned (.tuple #[gv z a m cap, .bool may]) ∧ Hid (EdgesOwn w.heap.size w'.heap.size w' a M) ∧ Hid (Below w.heap.size w w')) := hIM
    clear hML hM40 hMY hSP hIM
    rcases Bool.eq_false_or_eq_true may with hmay | hmay
    · subst hmay
      go_wp2_with fail
      refine (HIM.out _).mono ?_
      rintro e w5 ⟨a9, c9, rfl, X_9, B_24⟩
      have HD_25 : Hid (Hold w w5 [(w3.heap.size, [.int .i64 z6, .slice a6 n6 c6]), (w1.heap.size, [.int .i64 s, .slice a n c])]) := HD_22.out.below B_24.out
      clear HD_22
      have ZZ26 : Hid (w4.heap.size ≤ w5.heap.size) := B_24.out.size
      have G_26 : Hid (EdgesIn w.heap.size w1.heap.size w5 a L) := G_23.out.below B_24.out (by have y0 := ZZ3.out; have y1 := ZZ7.out; have y2 := ZZ8.out; have y3 := ZZ13.out; have y4 := ZZ16.out; have y5 := ZZ19.out; have y6 := ZZ20.out; have y7 := ZZ23.out; have y8 := ZZ26.out; omega)
      clear G_23
      clear B_24
      have Y_27 : Hid (EdgesOwn w4.heap.size w5.heap.size w5 a9 M) := X_9.out
      clear X_9 HIM
      have BA_28 : Hid (Below w5.heap.size w5 (w5.alloc (.cells #[.int .i64 z, .slice a9 m c9] 37))) := below1' w5 _
      have HD_29 : Hid (Hold w (w5.alloc (.cells #[.int .i64 z, .slice a9 m c9] 37)) [(w5.heap.size, [.int .i64 z, .slice a9 m c9]), (w3.heap.size, [.int .i64 z6, .slice a6 n6 c6]), (w1.heap.size, [.int .i64 s, .slice a n c])]) := HD_25.out.more [.int .i64 z, .slice a9 m c9] 37
      clear HD_25
      have ZZ30 : Hid ((w5.alloc (.cells #[.int .i64 z, .slice a9 m c9] 37)).heap.size = w5.heap.size + 1) := by show _ = _; simp
      have ZZ31 : Hid (w5.heap.size ≤ (w5.alloc (.cells #[.int .i64 z, .slice a9 m c9] 37)).heap.size) := BA_28.out.size
      have G_31 : Hid (EdgesIn w.heap.size w1.heap.size (w5.alloc (.cells #[.int .i64 z, .slice a9 m c9] 37)) a L) := G_26.out.below BA_28.out (by have y0 := ZZ3.out; have y1 := ZZ7.out; have y2 := ZZ8.out; have y3 := ZZ13.out; have y4 := ZZ16.out; have y5 := ZZ19.out; have y6 := ZZ20.out; have y7 := ZZ23.out; have y8 := ZZ26.out; have y9 := ZZ30.out; have y10 := ZZ31.out; omega)
      have Y_31 : Hid (EdgesOwn w4.heap.size w5.heap.size (w5.alloc (.cells #[.int .i64 z, .slice a9 m c9] 37)) a9 M) := Y_27.out.below BA_28.out (by have y0 := ZZ3.out; have y1 := ZZ7.out; have y2 := ZZ8.out; have y3 := ZZ13.out; have y4 := ZZ16.out; have y5 := ZZ19.out; have y6 := ZZ20.out; have y7 := ZZ23.out; have y8 := ZZ26.out; have y9 := ZZ30.out; have y10 := ZZ31.out; omega)
      clear G_26 Y_27
      clear BA_28
      go_wp2_with fail
      refine (HSP.out _).mono ?_
      rintro e w6 ⟨a11, c11, rfl, X_11, B_32⟩
      have HD_33 : Hid (Hold w w6 [(w5.heap.size, [.int .i64 z, .slice a9 m c9]), (w3.heap.size, [.int .i64 z6, .slice a6 n6 c6]), (w1.heap.size, [.int .i64 s, .slice a n c])]) := HD_29.out.below B_32.out
      clear HD_29
      have ZZ34 : Hid ((w5.alloc (.cells #[.int .i64 z, .slice a9 m c9] 37)).heap.size ≤ w6.heap.size) := B_32.out.size
      have G_34 : Hid (EdgesIn w.heap.size w1.heap.size w6 a L) := G_31.out.below B_32.out (by have y0 := ZZ3.out; have y1 := ZZ7.out; have y2 := ZZ8.out; have y3 := ZZ13.out; have y4 := ZZ16.out; have y5 := ZZ19.out; have y6 := ZZ20.out; have y7 := ZZ23.out; have y8 := ZZ26.out; have y9 := ZZ30.out; have y10 := ZZ31.out; have y11 := ZZ34.out; omega)
      have Y_34 : Hid (EdgesOwn w4.heap.size w5.heap.size w6 a9 M) := Y_31.out.below B_32.out (by have y0 := ZZ3.out; have y1 := ZZ7.out; have y2 := ZZ8.out; have y3 := ZZ13.out; have y4 := ZZ16.out; have y5 := ZZ19.out; have y6 := ZZ20.out; have y7 := ZZ23.out; have y8 := ZZ26.out; have y9 := ZZ30.out; have y10 := ZZ31.out; have y11 := ZZ34.out; omega)
      clear G_31 Y_31
      clear B_32
      clear X_11 HSP
      have BA_35 : Hid (Below w6.heap.size w6 (w6.alloc (.cells #[.int .i64 z, .slice a11 m c11] 37))) := below1' w6 _
      have HD_36 : Hid (Hold w (w6.alloc (.cells #[.int .i64 z, .slice a11 m c11] 37)) [(w6.heap.size, [.int .i64 z, .slice a11 m c11]), (w5.heap.size, [.int .i64 z, .slice a9 m c9]), (w3.heap.size, [.int .i64 z6, .slice a6 n6 c6]), (w1.heap.size, [.int .i64 s, .slice a n c])]) := HD_33.out.more [.int .i64 z, .slice a11 m c11] 37
      clear HD_33
      have ZZ37 : Hid ((w6.alloc (.cells #[.int .i64 z, .slice a11 m c11] 37)).heap.size = w6.heap.size + 1) := by show _ = _; simp
      have ZZ38 : Hid (w6.heap.size ≤ (w6.alloc (.cells #[.int .i64 z, .slice a11 m c11] 37)).heap.size) := BA_35.out.size
      have G_38 : Hid (EdgesIn w.heap.size w1.heap.size (w6.alloc (.cells #[.int .i64 z, .slice a11 m c11] 37)) a L) := G_34.out.below BA_35.out (by have y0 := ZZ3.out; have y1 := ZZ7.out; have y2 := ZZ8.out; have y3 := ZZ13.out; have y4 := ZZ16.out; have y5 := ZZ19.out; have y6 := ZZ20.out; have y7 := ZZ23.out; have y8 := ZZ26.out; have y9 := ZZ30.out; have y10 := ZZ31.out; have y11 := ZZ34.out; have y12 := ZZ37.out; have y13 := ZZ38.out; omega)
      have Y_38 : Hid (EdgesOwn w4.heap.size w5.heap.size (w6.alloc (.cells #[.int .i64 z, .slice a11 m c11] 37)) a9 M) := Y_34.out.below BA_35.out (by have y0 := ZZ3.out; have y1 := ZZ7.out; have y2 := ZZ8.out; have y3 := ZZ13.out; have y4 := ZZ16.out; have y5 := ZZ19.out; have y6 := ZZ20.out; have y7 := ZZ23.out; have y8 := ZZ26.out; have y9 := ZZ30.out; have y10 := ZZ31.out; have y11 := ZZ34.out; have y12 := ZZ37.out; have y13 := ZZ38.out; omega)
      clear G_34 Y_34
      clear BA_35
      have q_39 : (w6.alloc (.cells #[.int .i64 z, .slice a11 m c11] 37)).cell? ⟨w5.heap.size, 0, none⟩ = some (.int .i64 z) := HD_36.out.cell (b := w5.heap.size) (vs := [.int .i64 z, .slice a9 m c9]) (i := 0) (by simp) (by simp)
      have q_40 : (w6.alloc (.cells #[.int .i64 z, .slice a11 m c11] 37)).cell? ⟨w5.heap.size, 1, none⟩ = some (.slice a9 m c9) := HD_36.out.cell (b := w5.heap.size) (vs := [.int .i64 z, .slice a9 m c9]) (i := 1) (by simp) (by simp)
      go_wp2_with fail
      refine (graphText_any w4.heap.size w5.heap.size z a9 m c9 M _ Y_38.out.toIn (by have y0 := ZZ3.out; have y1 := ZZ7.out; have y2 := ZZ8.out; have y3 := ZZ13.out; have y4 := ZZ16.out; have y5 := ZZ19.out; have y6 := ZZ20.out; have y7 := ZZ23.out; have y8 := ZZ26.out; have y9 := ZZ30.out; have y10 := ZZ31.out; have y11 := ZZ34.out; have y12 := ZZ37.out; have y13 := ZZ38.out; omega) HML.out (by have := HM40.out; omega)).mono ?_
      rintro e w7 ⟨t13, ok13, rfl, HT13, B_41⟩
      clear q_39 q_40
      have HD_42 : Hid (Hold w w7 [(w6.heap.size, [.int .i64 z, .slice a11 m c11]), (w5.heap.size, [.int .i64 z, .slice a9 m c9]), (w3.heap.size, [.int .i64 z6, .slice a6 n6 c6]), (w1.heap.size, [.int .i64 s, .slice a n c])]) := HD_36.out.below B_41.out
      clear HD_36
      have ZZ43 : Hid ((w6.alloc (.cells #[.int .i64 z, .slice a11 m c11] 37)).heap.size ≤ w7.heap.size) := B_41.out.size
      have G_43 : Hid (EdgesIn w.heap.size w1.heap.size w7 a L) := G_38.out.below B_41.out (by have y0 := ZZ3.out; have y1 := ZZ7.out; have y2 := ZZ8.out; have y3 := ZZ13.out; have y4 := ZZ16.out; have y5 := ZZ19.out; have y6 := ZZ20.out; have y7 := ZZ23.out; have y8 := ZZ26.out; have y9 := ZZ30.out; have y10 := ZZ31.out; have y11 := ZZ34.out; have y12 := ZZ37.out; have y13 := ZZ38.out; have y14 := ZZ43.out; omega)
      have Y_43 : Hid (EdgesOwn w4.heap.size w5.heap.size w7 a9 M) := Y_38.out.below B_41.out (by have y0 := ZZ3.out; have y1 := ZZ7.out; have y2 := ZZ8.out; have y3 := ZZ13.out; have y4 := ZZ16.out; have y5 := ZZ19.out; have y6 := ZZ20.out; have y7 := ZZ23.out; have y8 := ZZ26.out; have y9 := ZZ30.out; have y10 := ZZ31.out; have y11 := ZZ34.out; have y12 := ZZ37.out; have y13 := ZZ38.out; have y14 := ZZ43.out; omega)
      clear G_38 Y_38
      clear B_41
      clear Y_43
      obtain rfl : t13 = U := HT13.out.2.trans (gtxt_back (HMY.out (by simp)).1 (HMY.out (by simp)).2)
      have q_44 : w7.cell? ⟨w1.heap.size, 0, none⟩ = some (.int .i64 s) := HD_42.out.cell (b := w1.heap.size) (vs := [.int .i64 s, .slice a n c]) (i := 0) (by simp) (by simp)
      have q_45 : w7.cell? ⟨w1.heap.size, 1, none⟩ = some (.slice a n c) := HD_42.out.cell (b := w1.heap.size) (vs := [.int .i64 s, .slice a n c]) (i := 1) (by simp) (by simp)
      go_wp2_with fail
      refine (specGOk_any w.heap.size w1.heap.size s a n c L false _ G_43.out (by have y0 := ZZ3.out; have y1 := ZZ7.out; have y2 := ZZ8.out; have y3 := ZZ13.out; have y4 := ZZ16.out; have y5 := ZZ19.out; have y6 := ZZ20.out; have y7 := ZZ23.out; have y8 := ZZ26.out; have y9 := ZZ30.out; have y10 := ZZ31.out; have y11 := ZZ34.out; have y12 := ZZ37.out; have y13 := ZZ38.out; have y14 := ZZ43.out; omega) HLN.out (by have := HN11.out; omega) HOKK.out.symm).mono ?_
      rintro e w8 ⟨rfl, B_46⟩
      clear q_44 q_45
      have HD_47 : Hid (Hold w w8 [(w6.heap.size, [.int .i64 z, .slice a11 m c11]), (w5.heap.size, [.int .i64 z, .slice a9 m c9]), (w3.heap.size, [.int .i64 z6, .slice a6 n6 c6]), (w1.heap.size, [.int .i64 s, .slice a n c])]) := HD_42.out.below B_46.out
      clear HD_42
      have ZZ48 : Hid (w7.heap.size ≤ w8.heap.size) := B_46.out.size
      have G_48 : Hid (EdgesIn w.heap.size w1.heap.size w8 a L) := G_43.out.below B_46.out (by have y0 := ZZ3.out; have y1 := ZZ7.out; have y2 := ZZ8.out; have y3 := ZZ13.out; have y4 := ZZ16.out; have y5 := ZZ19.out; have y6 := ZZ20.out; have y7 := ZZ23.out; have y8 := ZZ26.out; have y9 := ZZ30.out; have y10 := ZZ31.out; have y11 := ZZ34.out; have y12 := ZZ37.out; have y13 := ZZ38.out; have y14 := ZZ43.out; have y15 := ZZ48.out; omega)
      clear G_43
      clear B_46
      have q_49 : w8.cell? ⟨w1.heap.size, 0, none⟩ = some (.int .i64 s) := HD_47.out.cell (b := w1.heap.size) (vs := [.int .i64 s, .slice a n c]) (i := 0) (by simp) (by simp)
      have q_50 : w8.cell? ⟨w1.heap.size, 1, none⟩ = some (.slice a n c) := HD_47.out.cell (b := w1.heap.size) (vs := [.int .i64 s, .slice a n c]) (i := 1) (by simp) (by simp)
      go_wp2_with fail
      refine (graphOk_any w.heap.size w1.heap.size s a n c L false _ G_48.out (by have y0 := ZZ3.out; have y1 := ZZ7.out; have y2 := ZZ8.out; have y3 := ZZ13.out; have y4 := ZZ16.out; have y5 := ZZ19.out; have y6 := ZZ20.out; have y7 := ZZ23.out; have y8 := ZZ26.out; have y9 := ZZ30.out; have y10 := ZZ31.out; have y11 := ZZ34.out; have y12 := ZZ37.out; have y13 := ZZ38.out; have y14 := ZZ43.out; have y15 := ZZ48.out; omega) HLN.out (by have := HN11.out; omega) HOKK.out.symm).mono ?_
      rintro e w9 ⟨rfl, B_51⟩
      clear q_49 q_50
      have HD_52 : Hid (Hold w w9 [(w6.heap.size, [.int .i64 z, .slice a11 m c11]), (w5.heap.size, [.int .i64 z, .slice a9 m c9]), (w3.heap.size, [.int .i64 z6, .slice a6 n6 c6]), (w1.heap.size, [.int .i64 s, .slice a n c])]) := HD_47.out.below B_51.out
      clear HD_47
      have ZZ53 : Hid (w8.heap.size ≤ w9.heap.size) := B_51.out.size
      have G_53 : Hid (EdgesIn w.heap.size w1.heap.size w9 a L) := G_48.out.below B_51.out (by have y0 := ZZ3.out; have y1 := ZZ7.out; have y2 := ZZ8.out; have y3 := ZZ13.out; have y4 := ZZ16.out; have y5 := ZZ19.out; have y6 := ZZ20.out; have y7 := ZZ23.out; have y8 := ZZ26.out; have y9 := ZZ30.out; have y10 := ZZ31.out; have y11 := ZZ34.out; have y12 := ZZ37.out; have y13 := ZZ38.out; have y14 := ZZ43.out; have y15 := ZZ48.out; have y16 := ZZ53.out; omega)
      clear G_48
      clear B_51
      go_wp2
      go_ret
      exact ⟨rfl, HD_52.out.bel⟩
    · subst hmay
      go_wp2_with fail
      refine (HIM.out _).mono ?_
      rintro e w5 ⟨a9, c9, rfl, X_9, B_24⟩
      have HD_25 : Hid (Hold w w5 [(w3.heap.size, [.int .i64 z6, .slice a6 n6 c6]), (w1.heap.size, [.int .i64 s, .slice a n c])]) := HD_22.out.below B_24.out
      clear HD_22
      have ZZ26 : Hid (w4.heap.size ≤ w5.heap.size) := B_24.out.size
      have G_26 : Hid (EdgesIn w.heap.size w1.heap.size w5 a L) := G_23.out.below B_24.out (by have y0 := ZZ3.out; have y1 := ZZ7.out; have y2 := ZZ8.out; have y3 := ZZ13.out; have y4 := ZZ16.out; have y5 := ZZ19.out; have y6 := ZZ20.out; have y7 := ZZ23.out; have y8 := ZZ26.out; omega)
      clear G_23
      clear B_24
      have Y_27 : Hid (EdgesOwn w4.heap.size w5.heap.size w5 a9 M) := X_9.out
      clear X_9 HIM
      have BA_28 : Hid (Below w5.heap.size w5 (w5.alloc (.cells #[.int .i64 z, .slice a9 m c9] 37))) := below1' w5 _
      have HD_29 : Hid (Hold w (w5.alloc (.cells #[.int .i64 z, .slice a9 m c9] 37)) [(w5.heap.size, [.int .i64 z, .slice a9 m c9]), (w3.heap.size, [.int .i64 z6, .slice a6 n6 c6]), (w1.heap.size, [.int .i64 s, .slice a n c])]) := HD_25.out.more [.int .i64 z, .slice a9 m c9] 37
      clear HD_25
      have ZZ30 : Hid ((w5.alloc (.cells #[.int .i64 z, .slice a9 m c9] 37)).heap.size = w5.heap.size + 1) := by show _ = _; simp
      have ZZ31 : Hid (w5.heap.size ≤ (w5.alloc (.cells #[.int .i64 z, .slice a9 m c9] 37)).heap.size) := BA_28.out.size
      have G_31 : Hid (EdgesIn w.heap.size w1.heap.size (w5.alloc (.cells #[.int .i64 z, .slice a9 m c9] 37)) a L) := G_26.out.below BA_28.out (by have y0 := ZZ3.out; have y1 := ZZ7.out; have y2 := ZZ8.out; have y3 := ZZ13.out; have y4 := ZZ16.out; have y5 := ZZ19.out; have y6 := ZZ20.out; have y7 := ZZ23.out; have y8 := ZZ26.out; have y9 := ZZ30.out; have y10 := ZZ31.out; omega)
      have Y_31 : Hid (EdgesOwn w4.heap.size w5.heap.size (w5.alloc (.cells #[.int .i64 z, .slice a9 m c9] 37)) a9 M) := Y_27.out.below BA_28.out (by have y0 := ZZ3.out; have y1 := ZZ7.out; have y2 := ZZ8.out; have y3 := ZZ13.out; have y4 := ZZ16.out; have y5 := ZZ19.out; have y6 := ZZ20.out; have y7 := ZZ23.out; have y8 := ZZ26.out; have y9 := ZZ30.out; have y10 := ZZ31.out; omega)
      clear G_26 Y_27
      clear BA_28
      go_wp2_with fail
      refine (HSP.out _).mono ?_
      rintro e w6 ⟨a11, c11, rfl, X_11, B_32⟩
      have HD_33 : Hid (Hold w w6 [(w5.heap.size, [.int .i64 z, .slice a9 m c9]), (w3.heap.size, [.int .i64 z6, .slice a6 n6 c6]), (w1.heap.size, [.int .i64 s, .slice a n c])]) := HD_29.out.below B_32.out
      clear HD_29
      have ZZ34 : Hid ((w5.alloc (.cells #[.int .i64 z, .slice a9 m c9] 37)).heap.size ≤ w6.heap.size) := B_32.out.size
      have G_34 : Hid (EdgesIn w.heap.size w1.heap.size w6 a L) := G_31.out.below B_32.out (by have y0 := ZZ3.out; have y1 := ZZ7.out; have y2 := ZZ8.out; have y3 := ZZ13.out; have y4 := ZZ16.out; have y5 := ZZ19.out; have y6 := ZZ20.out; have y7 := ZZ23.out; have y8 := ZZ26.out; have y9 := ZZ30.out; have y10 := ZZ31.out; have y11 := ZZ34.out; omega)
      have Y_34 : Hid (EdgesOwn w4.heap.size w5.heap.size w6 a9 M) := Y_31.out.below B_32.out (by have y0 := ZZ3.out; have y1 := ZZ7.out; have y2 := ZZ8.out; have y3 := ZZ13.out; have y4 := ZZ16.out; have y5 := ZZ19.out; have y6 := ZZ20.out; have y7 := ZZ23.out; have y8 := ZZ26.out; have y9 := ZZ30.out; have y10 := ZZ31.out; have y11 := ZZ34.out; omega)
      clear G_31 Y_31
      clear B_32
      clear X_11 HSP
      have BA_35 : Hid (Below w6.heap.size w6 (w6.alloc (.cells #[.int .i64 z, .slice a11 m c11] 37))) := below1' w6 _
      have HD_36 : Hid (Hold w (w6.alloc (.cells #[.int .i64 z, .slice a11 m c11] 37)) [(w6.heap.size, [.int .i64 z, .slice a11 m c11]), (w5.heap.size, [.int .i64 z, .slice a9 m c9]), (w3.heap.size, [.int .i64 z6, .slice a6 n6 c6]), (w1.heap.size, [.int .i64 s, .slice a n c])]) := HD_33.out.more [.int .i64 z, .slice a11 m c11] 37
      clear HD_33
      have ZZ37 : Hid ((w6.alloc (.cells #[.int .i64 z, .slice a11 m c11] 37)).heap.size = w6.heap.size + 1) := by show _ = _; simp
      have ZZ38 : Hid (w6.heap.size ≤ (w6.alloc (.cells #[.int .i64 z, .slice a11 m c11] 37)).heap.size) := BA_35.out.size
      have G_38 : Hid (EdgesIn w.heap.size w1.heap.size (w6.alloc (.cells #[.int .i64 z, .slice a11 m c11] 37)) a L) := G_34.out.below BA_35.out (by have y0 := ZZ3.out; have y1 := ZZ7.out; have y2 := ZZ8.out; have y3 := ZZ13.out; have y4 := ZZ16.out; have y5 := ZZ19.out; have y6 := ZZ20.out; have y7 := ZZ23.out; have y8 := ZZ26.out; have y9 := ZZ30.out; have y10 := ZZ31.out; have y11 := ZZ34.out; have y12 := ZZ37.out; have y13 := ZZ38.out; omega)
      have Y_38 : Hid (EdgesOwn w4.heap.size w5.heap.size (w6.alloc (.cells #[.int .i64 z, .slice a11 m c11] 37)) a9 M) := Y_34.out.below BA_35.out (by have y0 := ZZ3.out; have y1 := ZZ7.out; have y2 := ZZ8.out; have y3 := ZZ13.out; have y4 := ZZ16.out; have y5 := ZZ19.out; have y6 := ZZ20.out; have y7 := ZZ23.out; have y8 := ZZ26.out; have y9 := ZZ30.out; have y10 := ZZ31.out; have y11 := ZZ34.out; have y12 := ZZ37.out; have y13 := ZZ38.out; omega)
      clear G_34 Y_34
      clear BA_35
      have q_39 : (w6.alloc (.cells #[.int .i64 z, .slice a11 m c11] 37)).cell? ⟨w5.heap.size, 0, none⟩ = some (.int .i64 z) := HD_36.out.cell (b := w5.heap.size) (vs := [.int .i64 z, .slice a9 m c9]) (i := 0) (by simp) (by simp)
      have q_40 : (w6.alloc (.cells #[.int .i64 z, .slice a11 m c11] 37)).cell? ⟨w5.heap.size, 1, none⟩ = some (.slice a9 m c9) := HD_36.out.cell (b := w5.heap.size) (vs := [.int .i64 z, .slice a9 m c9]) (i := 1) (by simp) (by simp)
      go_wp2_with fail
      refine (graphText_any w4.heap.size w5.heap.size z a9 m c9 M _ Y_38.out.toIn (by have y0 := ZZ3.out; have y1 := ZZ7.out; have y2 := ZZ8.out; have y3 := ZZ13.out; have y4 := ZZ16.out; have y5 := ZZ19.out; have y6 := ZZ20.out; have y7 := ZZ23.out; have y8 := ZZ26.out; have y9 := ZZ30.out; have y10 := ZZ31.out; have y11 := ZZ34.out; have y12 := ZZ37.out; have y13 := ZZ38.out; omega) HML.out (by have := HM40.out; omega)).mono ?_
      rintro e w7 ⟨t13, ok13, rfl, HT13, B_41⟩
      clear q_39 q_40
      have HD_42 : Hid (Hold w w7 [(w6.heap.size, [.int .i64 z, .slice a11 m c11]), (w5.heap.size, [.int .i64 z, .slice a9 m c9]), (w3.heap.size, [.int .i64 z6, .slice a6 n6 c6]), (w1.heap.size, [.int .i64 s, .slice a n c])]) := HD_36.out.below B_41.out
      clear HD_36
      have ZZ43 : Hid ((w6.alloc (.cells #[.int .i64 z, .slice a11 m c11] 37)).heap.size ≤ w7.heap.size) := B_41.out.size
      have G_43 : Hid (EdgesIn w.heap.size w1.heap.size w7 a L) := G_38.out.below B_41.out (by have y0 := ZZ3.out; have y1 := ZZ7.out; have y2 := ZZ8.out; have y3 := ZZ13.out; have y4 := ZZ16.out; have y5 := ZZ19.out; have y6 := ZZ20.out; have y7 := ZZ23.out; have y8 := ZZ26.out; have y9 := ZZ30.out; have y10 := ZZ31.out; have y11 := ZZ34.out; have y12 := ZZ37.out; have y13 := ZZ38.out; have y14 := ZZ43.out; omega)
      have Y_43 : Hid (EdgesOwn w4.heap.size w5.heap.size w7 a9 M) := Y_38.out.below B_41.out (by have y0 := ZZ3.out; have y1 := ZZ7.out; have y2 := ZZ8.out; have y3 := ZZ13.out; have y4 := ZZ16.out; have y5 := ZZ19.out; have y6 := ZZ20.out; have y7 := ZZ23.out; have y8 := ZZ26.out; have y9 := ZZ30.out; have y10 := ZZ31.out; have y11 := ZZ34.out; have y12 := ZZ37.out; have y13 := ZZ38.out; have y14 := ZZ43.out; omega)
      clear G_38 Y_38
      clear B_41
      clear Y_43
      have q_44 : w7.cell? ⟨w1.heap.size, 0, none⟩ = some (.int .i64 s) := HD_42.out.cell (b := w1.heap.size) (vs := [.int .i64 s, .slice a n c]) (i := 0) (by simp) (by simp)
      have q_45 : w7.cell? ⟨w1.heap.size, 1, none⟩ = some (.slice a n c) := HD_42.out.cell (b := w1.heap.size) (vs := [.int .i64 s, .slice a n c]) (i := 1) (by simp) (by simp)
      go_wp2_with fail
      refine (specGOk_any w.heap.size w1.heap.size s a n c L false _ G_43.out (by have y0 := ZZ3.out; have y1 := ZZ7.out; have y2 := ZZ8.out; have y3 := ZZ13.out; have y4 := ZZ16.out; have y5 := ZZ19.out; have y6 := ZZ20.out; have y7 := ZZ23.out; have y8 := ZZ26.out; have y9 := ZZ30.out; have y10 := ZZ31.out; have y11 := ZZ34.out; have y12 := ZZ37.out; have y13 := ZZ38.out; have y14 := ZZ43.out; omega) HLN.out (by have := HN11.out; omega) HOKK.out.symm).mono ?_
      rintro e w8 ⟨rfl, B_46⟩
      clear q_44 q_45
      have HD_47 : Hid (Hold w w8 [(w6.heap.size, [.int .i64 z, .slice a11 m c11]), (w5.heap.size, [.int .i64 z, .slice a9 m c9]), (w3.heap.size, [.int .i64 z6, .slice a6 n6 c6]), (w1.heap.size, [.int .i64 s, .slice a n c])]) := HD_42.out.below B_46.out
      clear HD_42
      have ZZ48 : Hid (w7.heap.size ≤ w8.heap.size) := B_46.out.size
      have G_48 : Hid (EdgesIn w.heap.size w1.heap.size w8 a L) := G_43.out.below B_46.out (by have y0 := ZZ3.out; have y1 := ZZ7.out; have y2 := ZZ8.out; have y3 := ZZ13.out; have y4 := ZZ16.out; have y5 := ZZ19.out; have y6 := ZZ20.out; have y7 := ZZ23.out; have y8 := ZZ26.out; have y9 := ZZ30.out; have y10 := ZZ31.out; have y11 := ZZ34.out; have y12 := ZZ37.out; have y13 := ZZ38.out; have y14 := ZZ43.out; have y15 := ZZ48.out; omega)
      clear G_43
      clear B_46
      have q_49 : w8.cell? ⟨w1.heap.size, 0, none⟩ = some (.int .i64 s) := HD_47.out.cell (b := w1.heap.size) (vs := [.int .i64 s, .slice a n c]) (i := 0) (by simp) (by simp)
      have q_50 : w8.cell? ⟨w1.heap.size, 1, none⟩ = some (.slice a n c) := HD_47.out.cell (b := w1.heap.size) (vs := [.int .i64 s, .slice a n c]) (i := 1) (by simp) (by simp)
      go_wp2_with fail
      refine (graphOk_any w.heap.size w1.heap.size s a n c L false _ G_48.out (by have y0 := ZZ3.out; have y1 := ZZ7.out; have y2 := ZZ8.out; have y3 := ZZ13.out; have y4 := ZZ16.out; have y5 := ZZ19.out; have y6 := ZZ20.out; have y7 := ZZ23.out; have y8 := ZZ26.out; have y9 := ZZ30.out; have y10 := ZZ31.out; have y11 := ZZ34.out; have y12 := ZZ37.out; have y13 := ZZ38.out; have y14 := ZZ43.out; have y15 := ZZ48.out; omega) HLN.out (by have := HN11.out; omega) HOKK.out.symm).mono ?_
      rintro e w9 ⟨rfl, B_51⟩
      clear q_49 q_50
      have HD_52 : Hid (Hold w w9 [(w6.heap.size, [.int .i64 z, .slice a11 m c11]), (w5.heap.size, [.int .i64 z, .slice a9 m c9]), (w3.heap.size, [.int .i64 z6, .slice a6 n6 c6]), (w1.heap.size, [.int .i64 s, .slice a n c])]) := HD_47.out.below B_51.out
      clear HD_47
      have ZZ53 : Hid (w8.heap.size ≤ w9.heap.size) := B_51.out.size
      have G_53 : Hid (EdgesIn w.heap.size w1.heap.size w9 a L) := G_48.out.below B_51.out (by have y0 := ZZ3.out; have y1 := ZZ7.out; have y2 := ZZ8.out; have y3 := ZZ13.out; have y4 := ZZ16.out; have y5 := ZZ19.out; have y6 := ZZ20.out; have y7 := ZZ23.out; have y8 := ZZ26.out; have y9 := ZZ30.out; have y10 := ZZ31.out; have y11 := ZZ34.out; have y12 := ZZ37.out; have y13 := ZZ38.out; have y14 := ZZ43.out; have y15 := ZZ48.out; have y16 := ZZ53.out; omega)
      clear G_48
      clear B_51
      go_wp2
      go_ret
      exact ⟨rfl, HD_52.out.bel⟩
end Go.Proofs.Ytelikebpddhncaa

/-
  Proved: at every list of bytes, FnGraphTexts answers true: the graph that is drawn of it, a wrong one too, has a text by impl.GraphText just where impl.GraphOk and spec.GraphOk call it right, and then impl.ReadGraph gives the same graph back; of the bytes that are drawn impl.ReadGraph takes just those that spec.ReadGraph takes, and they are the text of what it gives. (Beyond the law's own bound it asks nothing.) Nothing that was in memory is changed. No condition.
-/
namespace Go.Proofs.Ytelikebpddhncaa.fnGraphTexts
open Go.ChangeShapes Go.WideShapes Go.ChangeAt Go.RowKit
open Go.ChangeMaps (open_string shut_string)
set_option linter.unusedVariables false

theorem own : ownKnob Try.prog.godebug = none := by kernel_rfl
theorem laidOut : laidOutB Try.prog = true := by kernel_rfl

set_option maxRecDepth 100000 in
theorem lifted (os : Os) (started : os.Started) (H : Type) (enc : TypeId × Value → H) :
    ReturnsInHanded {} Try.checked os 6 .any (Rows.fnGraphTextsSpec.pre6 enc Try.prog Try.f6 Rows.fnGraphTextsRow.domain false) (Rows.fnGraphTextsSpec.post enc Try.prog Try.f6 false true false false) := by
  refine returnsInHanded_of_change (C := Try.checked) own started (by kernel_rfl) Try.func6
    (ChangeSpec.witness6 (enc := enc) (C := Try.checked) false ⟨#[], #[.slice none 0 0], []⟩ 8 (by kernel_rfl) (by kernel_rfl) (by kernel_rfl) (by kernel_rfl)) ?_
  intro W base args ds gs before hval0 hW hcnd _
  have hval : ∀ (j : Nat) t v, Try.f6.params[j]? = some t → args[j]? = some v → Value.okWide Try.prog W .any base t v := hval0
  have hW' := hW
  obtain ⟨p, q, hA0, hV, rfl, hfz, hnd⟩ := hW
  have hA : DataW.TrodAll enc Try.prog W 0 (fun _ => true) true Try.f6.params.toList args.toList ds p := hA0
  rw [Try.params6] at hA hval
  obtain ⟨v0, vs0, d0, ds0, p0, q0, hargs, rfl, rfl, h0, r0⟩ := trodAll_cons hA
  obtain ⟨rfl, rfl, rfl⟩ := trodAll_nil r0
  obtain rfl : args = #[v0] := by cases args; simp_all
  obtain ⟨rfl, rfl⟩ := trodVars_none hV
  have k0 := h0
  have lt0 : ∀ x ∈ p0, x.block < W.heap.size := by obtain ⟨m, hm⟩ := k0; exact DataW.trod_lt m _ _ _ hm
  obtain ⟨a0, n0, cap0, rfl⟩ := okWide_slice Try.underlying22 (hval 0 22 v0 rfl rfl)
  have hc0 := code_in k0
  clear hA0 hval0
  refine (law_6 a0 n0 cap0 W hc0).mono fun e W' ⟨he, bel⟩ => ?_
  subst he
  exact ⟨_, rfl, _, _, _, [], _, [], hW', trodAll_mk1 (shut_bool Try.underlying4 _), (trodAll_cons_mk (Below.trod laidOut (by kernel_rfl) (of_decide_eq_true (by kernel_rfl)) k0 bel lt0) trodAll_mk0), rfl, bel.frame _, fun h => by cases h⟩

theorem over : Rows.fnGraphTextsRow.holds Try.pinned (OpenSpec.ofChange Rows.fnGraphTextsSpec) :=
  OpenClaim.holds_of_wide 6 Try.f6 rfl rfl rfl rfl rfl rfl rfl ⟨rfl, rfl, rfl, rfl, rfl⟩ rfl rfl rfl rfl rfl (by kernel_rfl) Try.func6 (by kernel_rfl)
    (of_decide_eq_true (by kernel_rfl)) (by unfold Func.isWrapper; first | (rw [if_pos (by decide +kernel)]; kernel_rfl) | (rw [if_neg (by decide +kernel)]; exact ⟨rfl, rfl⟩))
    (fun os started H enc _ => lifted os started H enc)

end Go.Proofs.Ytelikebpddhncaa.fnGraphTexts
namespace Go.Proofs.Ytelikebpddhncaa

theorem fnGraphTexts_holds : Rows.FnGraphTextsSaid := fnGraphTexts.over
end Go.Proofs.Ytelikebpddhncaa
