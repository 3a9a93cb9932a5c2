/-
  Proved: at every graph, every path and every vertex, FnExactPathEnds answers true: impl.PathEnds answers as spec.PathEnds does, number by number; it writes into no argument and keeps nothing of one; its answer owns its memory, behind another call too (for a graph and a path that hold more than the law's own bound the law asks nothing); nothing that was in memory is changed. No condition.
-/
import Derived.Test.YtdbogikcmfnpdaaEdC
import Derived.Test.YtdbogikcmfnpdaaFuB
import Derived.Test.YtdbogikcmfnpdaaQLf
import Derived.Deep.DeepCutAuto
import Derived.Deep.RegionHeld3
import Derived.Test.YtdbogikcmfnpdaaHld
import Derived.Test.YtdbogikcmfnpdaaPtC
import Derived.WalkKit
import Derived.ProofKit
import Derived.OpenShut
import Derived.ShutString
import Derived.ChangeOld
import Derived.Below
/-
  spec.GraphOk.
-/
namespace Go.Proofs.Ytdbogikcmfnpdaa
open Go.RowKit

theorem okE_split (s : Int) (x : Ed) : okE s x = (inV s x.1 && inV s x.2.2 && decide (97 ≤ x.2.1) && decide (x.2.1 ≤ 100)) := rfl
theorem inV_in (s v : Int) : (decide (0 ≤ v) && decide (v ≤ s - 1)) = inV s v := by unfold inV; congr 1; rw [decide_eq_decide]; omega

set_option maxHeartbeats 8000000 in
set_option maxRecDepth 100000 in
theorem specGOk_any (lo hi : Nat) (s : Int) (a : Option Addr) (n cap : Nat) (l : List Ed) (r : Bool) (w : World) (ha : EdgesIn lo hi w a l) (hh : hi ≤ w.heap.size) (hn : l.length = n) (hm : n ≤ 1048576) (hr : r = okG s l) :
    Calls Try.prog 44 #[gv s a n cap] w fun e w' => e = .returned (.bool r) ∧ Hid (Below w.heap.size w w') := by
  have HN : Hid (l.length = n) := hn
  have HA : Hid (EdgesIn lo hi w a l) := ha
  have HH : Hid (hi ≤ w.heap.size) := hh
  have HR : Hid (r = okG s l) := hr
  clear ha hh hn hr
  obtain ⟨tk, HTK⟩ : ∃ tk : Bool, Hid (tk = (decide (1 ≤ s) && decide (s ≤ 12))) := ⟨_, rfl⟩
  have HIN : Hid (∀ w0, Calls Try.prog 46 #[.int .i64 s, .int .i64 1, .int .i64 12] w0 fun e w' => e = .returned (.bool tk) ∧ w0 = w') := fun w0 => by rw [HTK.out]; exact l01In_any s 1 12 w0
  rcases Bool.eq_false_or_eq_true tk with ht | ht
  · subst ht
    have h12 : 1 ≤ s ∧ s ≤ 12 := by have := HTK.out; simp at this; exact this
    have hws : IntKind.i64.wrap (s - 1) = s - 1 := by simp [IntKind.wrap, IntKind.bits, IntKind.signed]; omega
    by_cases h3 : n ≤ 40
    · have hd3 : decide ((40 : Int) < (n : Int)) = false := by simp; omega
      go_enter Try.func44, Try.ntmps44
      go_wp2_with (go_at_call 46; refine (HIN.out _).mono ?_; rintro e w1' ⟨rfl, rfl⟩)
      go_loopw [3] (fun i wr => ∃ k : Nat, i = .int .i64 k ∧ k ≤ n ∧ Hid (okGTo s l k = true) ∧ Hid (Below w.heap.size w wr) ∧ Hid (Blk wr w.heap.size 2 (fun i => if i = 0 then .int .i64 s else .slice a n cap))) (fun i _ => n - (intOf i).toNat)
      case atStart => exact ⟨0, rfl, by omega, rfl, below1 _ _, blk_two w _ rfl _ _ _⟩
      case round =>
        obtain ⟨k, rfl, hk, HE, HL, HX⟩ := hrel
        have gg0 : wr.cell? ⟨w.heap.size, 0, none⟩ = some (.int .i64 s) := HX.out.cell (i := 0) (by omega)
        have gg1 : wr.cell? ⟨w.heap.size, 1, none⟩ = some (.slice a n cap) := HX.out.cell (i := 1) (by omega)
        by_cases hlt : k < n
        · have hlt1 : (k : Int) < (n : Int) := by omega
          have hlt0 : 0 ≤ (k : Int) := by omega
          have HBW : Hid (EdgesIn lo hi wr a l) := HA.out.below HL.out HH.out
          obtain ⟨b, o, rfl, _, _, hx⟩ := HBW.out.edge (k := k) (by rw [HN.out]; exact hlt)
          obtain ⟨x, HXX⟩ : ∃ x : Ed, Hid (x = eat l k) := ⟨_, rfl⟩
          rw [← HXX.out] at hx
          have HXK : Hid (w.heap.size < wr.heap.size) := HX.out.lt
          obtain ⟨x0, x1, x2⟩ := x
          obtain ⟨u, HU⟩ : ∃ u : Bool, Hid (u = inV s x0) := ⟨_, rfl⟩
          obtain ⟨v, HV⟩ : ∃ u : Bool, Hid (u = inV s x2) := ⟨_, rfl⟩
          have HOE : Hid (okE s (eat l k) = (u && v && decide (97 ≤ x1) && decide (x1 ≤ 100))) := by show _ = _; rw [← HXX.out, okE_split, HU.out, HV.out]
          obtain ⟨p0, p1, p2⟩ := hx
          dsimp only at p0 p1 p2
          have HC0 : Hid (∀ w0, Calls Try.prog 46 #[.int .i64 x0, .int .i64 0, .int .i64 (s - 1)] w0 fun e w' => e = .returned (.bool u) ∧ w0 = w') := fun w0 => by rw [HU.out, ← inV_in]; exact l01In_any x0 0 (s - 1) w0
          have HC1 : Hid (∀ w0, Calls Try.prog 46 #[.int .i64 x2, .int .i64 0, .int .i64 (s - 1)] w0 fun e w' => e = .returned (.bool v) ∧ w0 = w') := fun w0 => by rw [HV.out, ← inV_in]; exact l01In_any x2 0 (s - 1) w0
          obtain ⟨W, HW⟩ : ∃ W, Hid (W = wr.alloc (.cells #[.int .i64 x0, .int .u8 x1, .int .i64 x2] 99)) := ⟨_, rfl⟩
          have HWB : Hid (Below wr.heap.size wr W) := by rw [HW.out]; exact below1 _ _
          obtain ⟨e0, e1, e2⟩ := box_cells wr (.int .i64 x0) (.int .u8 x1) (.int .i64 x2) 99 _ rfl
          rw [← HW.out] at e0 e1 e2
          have g0 : W.cell? ⟨w.heap.size, 0, none⟩ = some (.int .i64 s) := cell_below gg0 HWB.out HXK.out
          have g1 : W.cell? ⟨w.heap.size, 1, none⟩ = some (.slice (some ⟨b, o, none⟩) n cap) := cell_below gg1 HWB.out HXK.out
          have HLW : Hid (Below w.heap.size w W) := HL.out.trans (HWB.out.mono HL.out.size)
          have HXW : Hid (Blk W w.heap.size 2 (fun i => if i = 0 then .int .i64 s else .slice (some ⟨b, o, none⟩) n cap)) := HX.out.of_block (HWB.out.block _ HXK.out)
          go_wp2_with fail
          rw [← HW.out]
          clear p0 p1 p2 gg0 gg1
          rcases Bool.eq_false_or_eq_true u with hu | hu
          · subst hu
            rcases Bool.eq_false_or_eq_true v with hv | hv
            · subst hv
              by_cases h97 : 97 ≤ x1
              · have hd7 : decide (x1 < 97) = false := by simp; omega
                by_cases h100 : x1 ≤ 100
                · have hd8 : decide ((100 : Int) < x1) = false := by simp; omega
                  have HOT : Hid (okE s (eat l k) = true) := by show _ = _; rw [HOE.out]; simp [h97, h100]
                  by_cases hk0 : k = 0
                  · subst hk0
                    have HKS : Hid (∀ w', Below W.heap.size W w' → ((w'.cell? ⟨w.heap.size, 0, none⟩ = some (.int .i64 s) ∧ w'.cell? ⟨w.heap.size, 1, none⟩ = some (.slice (some ⟨b, o, none⟩) n cap)) ∧ (w'.cell? ⟨wr.heap.size, 0, none⟩ = some (.int .i64 x0) ∧ w'.cell? ⟨wr.heap.size, 1, none⟩ = some (.int .u8 x1) ∧ w'.cell? ⟨wr.heap.size, 2, none⟩ = some (.int .i64 x2)))) := fun w' h => ⟨⟨cell_below g0 h (lt_of_cell g0), cell_below g1 h (lt_of_cell g1)⟩, ⟨cell_below e0 h (lt_of_cell e0), cell_below e1 h (lt_of_cell e1), cell_below e2 h (lt_of_cell e2)⟩⟩
                    refine wp_region_held_drew (S := fun w' => (w'.cell? ⟨w.heap.size, 0, none⟩ = some (.int .i64 s) ∧ w'.cell? ⟨w.heap.size, 1, none⟩ = some (.slice (some ⟨b, o, none⟩) n cap)) ∧ (w'.cell? ⟨wr.heap.size, 0, none⟩ = some (.int .i64 x0) ∧ w'.cell? ⟨wr.heap.size, 1, none⟩ = some (.int .u8 x1) ∧ w'.cell? ⟨wr.heap.size, 2, none⟩ = some (.int .i64 x2))) (by kernel_rfl) (HKS.out _ ((Below.refl _ _).drew)) (fun hHeld => ?_)
                    refine wpAnyH_take (i := 0) (oi := { dst := some 27, op := Go.Op.fieldAddr 99 (Go.Operand.tmp 4) 0, type := 0, pos := "l04_graph.go:21", after := #[], guard := none }) (v := ?_) rfl (by kernel_rfl) (by kernel_rfl) (by kernel_rfl) (fun _ _ _ h => h) (Or.inl ⟨by kernel_rfl, ?_⟩) (by assumption) ?_
                    rotate_left
                    · intro w hSw; (try dsimp only at hSw); go_simp; try with_reducible rfl
                    simp only [Act.put, List.setIfInBounds_toArray, List.set_cons_zero, List.set_cons_succ]
                    refine wpAnyH_take (i := 1) (oi := { dst := some 28, op := Go.Op.load 3 (Go.Operand.tmp 27), type := 3, pos := "l04_graph.go:21", after := #[{ on := 0, ground := Go.Ground.data }], guard := none }) (v := ?_) rfl (by kernel_rfl) (by kernel_rfl) (by kernel_rfl) (fun _ _ _ h => h) (Or.inl ⟨by kernel_rfl, ?_⟩) (by assumption) ?_
                    rotate_left
                    · intro w hSw; (try dsimp only at hSw); go_simp; try with_reducible rfl
                    simp only [Act.put, List.setIfInBounds_toArray, List.set_cons_zero, List.set_cons_succ]
                    refine wpAnyH_take (i := 2) (oi := { dst := some 29, op := Go.Op.fieldAddr 26 (Go.Operand.tmp 1) 0, type := 0, pos := "l04_graph.go:21", after := #[], guard := none }) (v := ?_) rfl (by kernel_rfl) (by kernel_rfl) (by kernel_rfl) (fun _ _ _ h => h) (Or.inl ⟨by kernel_rfl, ?_⟩) (by assumption) ?_
                    rotate_left
                    · intro w hSw; (try dsimp only at hSw); go_simp; try with_reducible rfl
                    simp only [Act.put, List.setIfInBounds_toArray, List.set_cons_zero, List.set_cons_succ]
                    refine wpAnyH_take (i := 3) (oi := { dst := some 30, op := Go.Op.load 3 (Go.Operand.tmp 29), type := 3, pos := "l04_graph.go:21", after := #[{ on := 2, ground := Go.Ground.data }], guard := none }) (v := ?_) rfl (by kernel_rfl) (by kernel_rfl) (by kernel_rfl) (fun _ _ _ h => h) (Or.inl ⟨by kernel_rfl, ?_⟩) (by assumption) ?_
                    rotate_left
                    · intro w hSw; (try dsimp only at hSw); go_simp; try with_reducible rfl
                    simp only [Act.put, List.setIfInBounds_toArray, List.set_cons_zero, List.set_cons_succ]
                    refine wpAnyH_take (i := 4) (oi := { dst := some 31, op := Go.Op.binOp Go.BinOp.sub 3 (Go.Operand.tmp 30) (Go.Operand.const (Go.Value.int Go.IntKind.i64 1)) 3, type := 3, pos := "l04_graph.go:21", after := #[{ on := 3, ground := Go.Ground.data }], guard := none }) (v := ?_) rfl (by kernel_rfl) (by kernel_rfl) (by kernel_rfl) (fun _ _ _ h => h) (Or.inl ⟨by kernel_rfl, ?_⟩) (by assumption) ?_
                    rotate_left
                    · intro w hSw; (try dsimp only at hSw); go_simp; try with_reducible rfl
                    simp only [Act.put, List.setIfInBounds_toArray, List.set_cons_zero, List.set_cons_succ]
                    refine wpAnyH_ready (rs := [5]) (by kernel_rfl) (by simp) ?_
                    refine AllReadyH.cons (o := { dst := some 32, op := Go.Op.call { callee := Go.Callee.value (Go.Operand.func 46), args := #[Go.Operand.tmp 28, Go.Operand.const (Go.Value.int Go.IntKind.i64 0), Go.Operand.tmp 31], argTypes := #[3, 3, 3] }, type := 4, pos := "l04_graph.go:21", after := #[{ on := 1, ground := Go.Ground.data }, { on := 4, ground := Go.Ground.data }], guard := none }) rfl (fun K hK => ?_) ?_
                    · go_simp
                      go_wp2_with (go_at_call 46; refine (HC0.out _).mono ?_; rintro e w1 ⟨rfl, rfl⟩)
                      refine hK.out _ _ hHeld (fun hHeld => ?_)
                      clear hK K
                      try simp only [Act.put, List.setIfInBounds_toArray, List.set_cons_zero, List.set_cons_succ]
                      refine wpAnyH_take (i := 6) (oi := { dst := some 33, op := Go.Op.unOp Go.UnOp.not 4 (Go.Operand.tmp 32), type := 4, pos := "l04_graph.go:21", after := #[{ on := 5, ground := Go.Ground.data }], guard := none }) (v := ?_) rfl (by kernel_rfl) (by kernel_rfl) (by kernel_rfl) (fun _ _ _ h => h) (Or.inl ⟨by kernel_rfl, ?_⟩) (by assumption) ?_
                      rotate_left
                      · intro w hSw; (try dsimp only at hSw); go_simp; try with_reducible rfl
                      simp only [Act.put, List.setIfInBounds_toArray, List.set_cons_zero, List.set_cons_succ]
                      refine wpAnyH_take (i := 7) (oi := { dst := some 34, op := Go.Op.move (Go.Operand.tmp 33), type := 4, pos := "l04_graph.go:21", after := #[{ on := 6, ground := Go.Ground.data }, { on := 5, ground := Go.Ground.chain }], guard := none }) (v := ?_) rfl (by kernel_rfl) (by kernel_rfl) (by kernel_rfl) (fun _ _ _ h => h) (Or.inl ⟨by kernel_rfl, ?_⟩) (by assumption) ?_
                      rotate_left
                      · intro w hSw; (try dsimp only at hSw); go_simp; try with_reducible rfl
                      simp only [Act.put, List.setIfInBounds_toArray, List.set_cons_zero, List.set_cons_succ]
                      refine wpAnyH_take (i := 8) (oi := { dst := some 35, op := Go.Op.fieldAddr 99 (Go.Operand.tmp 4) 2, type := 0, pos := "l04_graph.go:21", after := #[{ on := 7, ground := Go.Ground.guard }], guard := some (7, false) }) (v := ?_) rfl (by kernel_rfl) (by kernel_rfl) (by kernel_rfl) (fun _ _ _ h => h) (Or.inl ⟨by kernel_rfl, ?_⟩) (by assumption) ?_
                      rotate_left
                      · intro w hSw; (try dsimp only at hSw); go_simp; try with_reducible rfl
                      simp only [Act.put, List.setIfInBounds_toArray, List.set_cons_zero, List.set_cons_succ]
                      refine wpAnyH_take (i := 9) (oi := { dst := some 36, op := Go.Op.load 3 (Go.Operand.tmp 35), type := 3, pos := "l04_graph.go:21", after := #[{ on := 8, ground := Go.Ground.data }, { on := 7, ground := Go.Ground.guard }], guard := some (7, false) }) (v := ?_) rfl (by kernel_rfl) (by kernel_rfl) (by kernel_rfl) (fun _ _ _ h => h) (Or.inl ⟨by kernel_rfl, ?_⟩) (by assumption) ?_
                      rotate_left
                      · intro w hSw; (try dsimp only at hSw); go_simp; try with_reducible rfl
                      simp only [Act.put, List.setIfInBounds_toArray, List.set_cons_zero, List.set_cons_succ]
                      refine wpAnyH_take (i := 10) (oi := { dst := some 37, op := Go.Op.fieldAddr 26 (Go.Operand.tmp 1) 0, type := 0, pos := "l04_graph.go:21", after := #[{ on := 7, ground := Go.Ground.guard }], guard := some (7, false) }) (v := ?_) rfl (by kernel_rfl) (by kernel_rfl) (by kernel_rfl) (fun _ _ _ h => h) (Or.inl ⟨by kernel_rfl, ?_⟩) (by assumption) ?_
                      rotate_left
                      · intro w hSw; (try dsimp only at hSw); go_simp; try with_reducible rfl
                      simp only [Act.put, List.setIfInBounds_toArray, List.set_cons_zero, List.set_cons_succ]
                      refine wpAnyH_take (i := 11) (oi := { dst := some 38, op := Go.Op.load 3 (Go.Operand.tmp 37), type := 3, pos := "l04_graph.go:21", after := #[{ on := 10, ground := Go.Ground.data }, { on := 7, ground := Go.Ground.guard }], guard := some (7, false) }) (v := ?_) rfl (by kernel_rfl) (by kernel_rfl) (by kernel_rfl) (fun _ _ _ h => h) (Or.inl ⟨by kernel_rfl, ?_⟩) (by assumption) ?_
                      rotate_left
                      · intro w hSw; (try dsimp only at hSw); go_simp; try with_reducible rfl
                      simp only [Act.put, List.setIfInBounds_toArray, List.set_cons_zero, List.set_cons_succ]
                      refine wpAnyH_take (i := 12) (oi := { dst := some 39, op := Go.Op.binOp Go.BinOp.sub 3 (Go.Operand.tmp 38) (Go.Operand.const (Go.Value.int Go.IntKind.i64 1)) 3, type := 3, pos := "l04_graph.go:21", after := #[{ on := 11, ground := Go.Ground.data }, { on := 7, ground := Go.Ground.guard }], guard := some (7, false) }) (v := ?_) rfl (by kernel_rfl) (by kernel_rfl) (by kernel_rfl) (fun _ _ _ h => h) (Or.inl ⟨by kernel_rfl, ?_⟩) (by assumption) ?_
                      rotate_left
                      · intro w hSw; (try dsimp only at hSw); go_simp; try with_reducible rfl
                      simp only [Act.put, List.setIfInBounds_toArray, List.set_cons_zero, List.set_cons_succ]
                      refine wpAnyH_ready (rs := [13]) (by kernel_rfl) (by simp) ?_
                      refine AllReadyH.cons (o := { dst := some 40, op := Go.Op.call { callee := Go.Callee.value (Go.Operand.func 46), args := #[Go.Operand.tmp 36, Go.Operand.const (Go.Value.int Go.IntKind.i64 0), Go.Operand.tmp 39], argTypes := #[3, 3, 3] }, type := 4, pos := "l04_graph.go:21", after := #[{ on := 9, ground := Go.Ground.data }, { on := 12, ground := Go.Ground.data }, { on := 7, ground := Go.Ground.chain }, { on := 7, ground := Go.Ground.guard }], guard := some (7, false) }) rfl (fun K hK => ?_) ?_
                      · go_simp
                        go_wp2_with (go_at_call 46; refine (HC1.out _).mono ?_; rintro e w1 ⟨rfl, rfl⟩)
                        refine hK.out _ _ hHeld (fun hHeld => ?_)
                        clear hK K
                        try simp only [Act.put, List.setIfInBounds_toArray, List.set_cons_zero, List.set_cons_succ]
                        refine wpAnyH_take (i := 14) (oi := { dst := some 41, op := Go.Op.unOp Go.UnOp.not 4 (Go.Operand.tmp 40), type := 4, pos := "l04_graph.go:21", after := #[{ on := 13, ground := Go.Ground.data }, { on := 7, ground := Go.Ground.guard }], guard := some (7, false) }) (v := ?_) rfl (by kernel_rfl) (by kernel_rfl) (by kernel_rfl) (fun _ _ _ h => h) (Or.inl ⟨by kernel_rfl, ?_⟩) (by assumption) ?_
                        rotate_left
                        · intro w hSw; (try dsimp only at hSw); go_simp; try with_reducible rfl
                        simp only [Act.put, List.setIfInBounds_toArray, List.set_cons_zero, List.set_cons_succ]
                        refine wpAnyH_take (i := 15) (oi := { dst := some 42, op := Go.Op.pick (Go.Operand.tmp 34) (Go.Operand.const (Go.Value.bool true)) (Go.Operand.tmp 41), type := 4, pos := "l04_graph.go:21", after := #[{ on := 7, ground := Go.Ground.data }, { on := 14, ground := Go.Ground.data }], guard := none }) (v := ?_) rfl (by kernel_rfl) (by kernel_rfl) (by kernel_rfl) (fun _ _ _ h => h) (Or.inl ⟨by kernel_rfl, ?_⟩) (by assumption) ?_
                        rotate_left
                        · intro w hSw; (try dsimp only at hSw); go_simp; try with_reducible rfl
                        simp only [Act.put, List.setIfInBounds_toArray, List.set_cons_zero, List.set_cons_succ]
                        refine wpAnyH_take (i := 16) (oi := { dst := some 43, op := Go.Op.move (Go.Operand.tmp 42), type := 4, pos := "l04_graph.go:21", after := #[{ on := 15, ground := Go.Ground.data }, { on := 13, ground := Go.Ground.chain }], guard := none }) (v := ?_) rfl (by kernel_rfl) (by kernel_rfl) (by kernel_rfl) (fun _ _ _ h => h) (Or.inl ⟨by kernel_rfl, ?_⟩) (by assumption) ?_
                        rotate_left
                        · intro w hSw; (try dsimp only at hSw); go_simp; try with_reducible rfl
                        simp only [Act.put, List.setIfInBounds_toArray, List.set_cons_zero, List.set_cons_succ]
                        refine wpAnyH_take (i := 17) (oi := { dst := some 44, op := Go.Op.fieldAddr 99 (Go.Operand.tmp 4) 1, type := 0, pos := "l04_graph.go:21", after := #[{ on := 16, ground := Go.Ground.guard }], guard := some (16, false) }) (v := ?_) rfl (by kernel_rfl) (by kernel_rfl) (by kernel_rfl) (fun _ _ _ h => h) (Or.inl ⟨by kernel_rfl, ?_⟩) (by assumption) ?_
                        rotate_left
                        · intro w hSw; (try dsimp only at hSw); go_simp; try with_reducible rfl
                        simp only [Act.put, List.setIfInBounds_toArray, List.set_cons_zero, List.set_cons_succ]
                        refine wpAnyH_take (i := 18) (oi := { dst := some 45, op := Go.Op.load 5 (Go.Operand.tmp 44), type := 5, pos := "l04_graph.go:21", after := #[{ on := 17, ground := Go.Ground.data }, { on := 16, ground := Go.Ground.guard }], guard := some (16, false) }) (v := ?_) rfl (by kernel_rfl) (by kernel_rfl) (by kernel_rfl) (fun _ _ _ h => h) (Or.inl ⟨by kernel_rfl, ?_⟩) (by assumption) ?_
                        rotate_left
                        · intro w hSw; (try dsimp only at hSw); go_simp; try with_reducible rfl
                        simp only [Act.put, List.setIfInBounds_toArray, List.set_cons_zero, List.set_cons_succ]
                        refine wpAnyH_take (i := 19) (oi := { dst := some 46, op := Go.Op.binOp Go.BinOp.lss 5 (Go.Operand.tmp 45) (Go.Operand.const (Go.Value.int Go.IntKind.u8 97)) 5, type := 4, pos := "l04_graph.go:21", after := #[{ on := 18, ground := Go.Ground.data }, { on := 16, ground := Go.Ground.guard }], guard := some (16, false) }) (v := ?_) rfl (by kernel_rfl) (by kernel_rfl) (by kernel_rfl) (fun _ _ _ h => h) (Or.inl ⟨by kernel_rfl, ?_⟩) (by assumption) ?_
                        rotate_left
                        · intro w hSw; (try dsimp only at hSw); go_simp; try with_reducible rfl
                        simp only [Act.put, List.setIfInBounds_toArray, List.set_cons_zero, List.set_cons_succ]
                        refine wpAnyH_take (i := 20) (oi := { dst := some 47, op := Go.Op.pick (Go.Operand.tmp 43) (Go.Operand.const (Go.Value.bool true)) (Go.Operand.tmp 46), type := 4, pos := "l04_graph.go:21", after := #[{ on := 16, ground := Go.Ground.data }, { on := 19, ground := Go.Ground.data }], guard := none }) (v := ?_) rfl (by kernel_rfl) (by kernel_rfl) (by kernel_rfl) (fun _ _ _ h => h) (Or.inl ⟨by kernel_rfl, ?_⟩) (by assumption) ?_
                        rotate_left
                        · intro w hSw; (try dsimp only at hSw); go_simp; try with_reducible rfl
                        simp only [Act.put, List.setIfInBounds_toArray, List.set_cons_zero, List.set_cons_succ]
                        refine wpAnyH_take (i := 21) (oi := { dst := some 48, op := Go.Op.move (Go.Operand.tmp 47), type := 4, pos := "l04_graph.go:21", after := #[{ on := 20, ground := Go.Ground.data }, { on := 16, ground := Go.Ground.chain }], guard := none }) (v := ?_) rfl (by kernel_rfl) (by kernel_rfl) (by kernel_rfl) (fun _ _ _ h => h) (Or.inl ⟨by kernel_rfl, ?_⟩) (by assumption) ?_
                        rotate_left
                        · intro w hSw; (try dsimp only at hSw); go_simp; try with_reducible rfl
                        simp only [Act.put, List.setIfInBounds_toArray, List.set_cons_zero, List.set_cons_succ]
                        refine wpAnyH_take (i := 22) (oi := { dst := some 49, op := Go.Op.fieldAddr 99 (Go.Operand.tmp 4) 1, type := 0, pos := "l04_graph.go:21", after := #[{ on := 21, ground := Go.Ground.guard }], guard := some (21, false) }) (v := ?_) rfl (by kernel_rfl) (by kernel_rfl) (by kernel_rfl) (fun _ _ _ h => h) (Or.inl ⟨by kernel_rfl, ?_⟩) (by assumption) ?_
                        rotate_left
                        · intro w hSw; (try dsimp only at hSw); go_simp; try with_reducible rfl
                        simp only [Act.put, List.setIfInBounds_toArray, List.set_cons_zero, List.set_cons_succ]
                        refine wpAnyH_take (i := 23) (oi := { dst := some 50, op := Go.Op.load 5 (Go.Operand.tmp 49), type := 5, pos := "l04_graph.go:21", after := #[{ on := 22, ground := Go.Ground.data }, { on := 21, ground := Go.Ground.guard }], guard := some (21, false) }) (v := ?_) rfl (by kernel_rfl) (by kernel_rfl) (by kernel_rfl) (fun _ _ _ h => h) (Or.inl ⟨by kernel_rfl, ?_⟩) (by assumption) ?_
                        rotate_left
                        · intro w hSw; (try dsimp only at hSw); go_simp; try with_reducible rfl
                        simp only [Act.put, List.setIfInBounds_toArray, List.set_cons_zero, List.set_cons_succ]
                        refine wpAnyH_take (i := 24) (oi := { dst := some 51, op := Go.Op.binOp Go.BinOp.gtr 5 (Go.Operand.tmp 50) (Go.Operand.const (Go.Value.int Go.IntKind.u8 100)) 5, type := 4, pos := "l04_graph.go:21", after := #[{ on := 23, ground := Go.Ground.data }, { on := 21, ground := Go.Ground.guard }], guard := some (21, false) }) (v := ?_) rfl (by kernel_rfl) (by kernel_rfl) (by kernel_rfl) (fun _ _ _ h => h) (Or.inl ⟨by kernel_rfl, ?_⟩) (by assumption) ?_
                        rotate_left
                        · intro w hSw; (try dsimp only at hSw); go_simp; try with_reducible rfl
                        simp only [Act.put, List.setIfInBounds_toArray, List.set_cons_zero, List.set_cons_succ]
                        refine wpAnyH_take (i := 25) (oi := { dst := some 52, op := Go.Op.pick (Go.Operand.tmp 48) (Go.Operand.const (Go.Value.bool true)) (Go.Operand.tmp 51), type := 4, pos := "l04_graph.go:21", after := #[{ on := 21, ground := Go.Ground.data }, { on := 24, ground := Go.Ground.data }], guard := none }) (v := ?_) rfl (by kernel_rfl) (by kernel_rfl) (by kernel_rfl) (fun _ _ _ h => h) (Or.inl ⟨by kernel_rfl, ?_⟩) (by assumption) ?_
                        rotate_left
                        · intro w hSw; (try dsimp only at hSw); go_simp; try with_reducible rfl
                        simp only [Act.put, List.setIfInBounds_toArray, List.set_cons_zero, List.set_cons_succ]
                        refine wpAnyH_take (i := 26) (oi := { dst := some 53, op := Go.Op.move (Go.Operand.tmp 52), type := 4, pos := "l04_graph.go:21", after := #[{ on := 25, ground := Go.Ground.data }, { on := 21, ground := Go.Ground.chain }], guard := none }) (v := ?_) rfl (by kernel_rfl) (by kernel_rfl) (by kernel_rfl) (fun _ _ _ h => h) (Or.inl ⟨by kernel_rfl, ?_⟩) (by assumption) ?_
                        rotate_left
                        · intro w hSw; (try dsimp only at hSw); go_simp; try with_reducible rfl
                        simp only [Act.put, List.setIfInBounds_toArray, List.set_cons_zero, List.set_cons_succ]
                        refine wpAnyH_take (i := 27) (oi := { dst := some 54, op := Go.Op.move (Go.Operand.tmp 3), type := 3, pos := "l04_graph.go:21", after := #[{ on := 26, ground := Go.Ground.guard }], guard := some (26, false) }) (v := ?_) rfl (by kernel_rfl) (by kernel_rfl) (by kernel_rfl) (fun _ _ _ h => h) (Or.inl ⟨by kernel_rfl, ?_⟩) (by assumption) ?_
                        rotate_left
                        · intro w hSw; (try dsimp only at hSw); go_simp; try with_reducible rfl
                        simp only [Act.put, List.setIfInBounds_toArray, List.set_cons_zero, List.set_cons_succ]
                        refine wpAnyH_take (i := 28) (oi := { dst := some 55, op := Go.Op.binOp Go.BinOp.gtr 3 (Go.Operand.tmp 54) (Go.Operand.const (Go.Value.int Go.IntKind.i64 0)) 3, type := 4, pos := "l04_graph.go:21", after := #[{ on := 27, ground := Go.Ground.data }, { on := 26, ground := Go.Ground.guard }], guard := some (26, false) }) (v := ?_) rfl (by kernel_rfl) (by kernel_rfl) (by kernel_rfl) (fun _ _ _ h => h) (Or.inl ⟨by kernel_rfl, ?_⟩) (by assumption) ?_
                        rotate_left
                        · intro w hSw; (try dsimp only at hSw); go_simp; try with_reducible rfl
                        simp only [Act.put, List.setIfInBounds_toArray, List.set_cons_zero, List.set_cons_succ]
                        refine wpAnyH_take (i := 29) (oi := { dst := some 56, op := Go.Op.move (Go.Operand.tmp 55), type := 4, pos := "l04_graph.go:21", after := #[{ on := 28, ground := Go.Ground.data }, { on := 26, ground := Go.Ground.chain }, { on := 26, ground := Go.Ground.guard }], guard := some (26, false) }) (v := ?_) rfl (by kernel_rfl) (by kernel_rfl) (by kernel_rfl) (fun _ _ _ h => h) (Or.inl ⟨by kernel_rfl, ?_⟩) (by assumption) ?_
                        rotate_left
                        · intro w hSw; (try dsimp only at hSw); go_simp; try with_reducible rfl
                        simp only [Act.put, List.setIfInBounds_toArray, List.set_cons_zero, List.set_cons_succ]
                        refine wpAnyH_take (i := 30) (oi := { dst := some 57, op := Go.Op.fieldAddr 26 (Go.Operand.tmp 1) 1, type := 0, pos := "l04_graph.go:21", after := #[{ on := 29, ground := Go.Ground.guard }], guard := some (29, true) }) (v := undef) rfl (by kernel_rfl) (by kernel_rfl) (by kernel_rfl) (fun _ _ _ h => h) (Or.inr ⟨by kernel_rfl, rfl⟩) (by assumption) ?_
                        simp only [Act.put, List.setIfInBounds_toArray, List.set_cons_zero, List.set_cons_succ]
                        refine wpAnyH_take (i := 31) (oi := { dst := some 58, op := Go.Op.load 24 (Go.Operand.tmp 57), type := 24, pos := "l04_graph.go:21", after := #[{ on := 30, ground := Go.Ground.data }, { on := 29, ground := Go.Ground.guard }], guard := some (29, true) }) (v := undef) rfl (by kernel_rfl) (by kernel_rfl) (by kernel_rfl) (fun _ _ _ h => h) (Or.inr ⟨by kernel_rfl, rfl⟩) (by assumption) ?_
                        simp only [Act.put, List.setIfInBounds_toArray, List.set_cons_zero, List.set_cons_succ]
                        refine wpAnyH_take (i := 32) (oi := { dst := some 59, op := Go.Op.move (Go.Operand.tmp 3), type := 3, pos := "l04_graph.go:21", after := #[{ on := 29, ground := Go.Ground.guard }], guard := some (29, true) }) (v := undef) rfl (by kernel_rfl) (by kernel_rfl) (by kernel_rfl) (fun _ _ _ h => h) (Or.inr ⟨by kernel_rfl, rfl⟩) (by assumption) ?_
                        simp only [Act.put, List.setIfInBounds_toArray, List.set_cons_zero, List.set_cons_succ]
                        refine wpAnyH_take (i := 33) (oi := { dst := some 60, op := Go.Op.binOp Go.BinOp.sub 3 (Go.Operand.tmp 59) (Go.Operand.const (Go.Value.int Go.IntKind.i64 1)) 3, type := 3, pos := "l04_graph.go:21", after := #[{ on := 32, ground := Go.Ground.data }, { on := 29, ground := Go.Ground.guard }], guard := some (29, true) }) (v := undef) rfl (by kernel_rfl) (by kernel_rfl) (by kernel_rfl) (fun _ _ _ h => h) (Or.inr ⟨by kernel_rfl, rfl⟩) (by assumption) ?_
                        simp only [Act.put, List.setIfInBounds_toArray, List.set_cons_zero, List.set_cons_succ]
                        refine wpAnyH_take (i := 34) (oi := { dst := some 61, op := Go.Op.indexAddr 24 (Go.Operand.tmp 58) (Go.Operand.tmp 60), type := 0, pos := "l04_graph.go:21", after := #[{ on := 31, ground := Go.Ground.data }, { on := 33, ground := Go.Ground.data }, { on := 29, ground := Go.Ground.guard }], guard := some (29, true) }) (v := undef) rfl (by kernel_rfl) (by kernel_rfl) (by kernel_rfl) (fun _ _ _ h => h) (Or.inr ⟨by kernel_rfl, rfl⟩) (by assumption) ?_
                        simp only [Act.put, List.setIfInBounds_toArray, List.set_cons_zero, List.set_cons_succ]
                        refine wpAnyH_take (i := 35) (oi := { dst := some 62, op := Go.Op.load 99 (Go.Operand.tmp 61), type := 99, pos := "l04_graph.go:21", after := #[{ on := 34, ground := Go.Ground.data }, { on := 29, ground := Go.Ground.guard }], guard := some (29, true) }) (v := undef) rfl (by kernel_rfl) (by kernel_rfl) (by kernel_rfl) (fun _ _ _ h => h) (Or.inr ⟨by kernel_rfl, rfl⟩) (by assumption) ?_
                        simp only [Act.put, List.setIfInBounds_toArray, List.set_cons_zero, List.set_cons_succ]
                        refine wpAnyH_take (i := 36) (oi := { dst := some 63, op := Go.Op.load 99 (Go.Operand.tmp 4), type := 99, pos := "l04_graph.go:21", after := #[{ on := 29, ground := Go.Ground.guard }], guard := some (29, true) }) (v := undef) rfl (by kernel_rfl) (by kernel_rfl) (by kernel_rfl) (fun _ _ _ h => h) (Or.inr ⟨by kernel_rfl, rfl⟩) (by assumption) ?_
                        simp only [Act.put, List.setIfInBounds_toArray, List.set_cons_zero, List.set_cons_succ]
                        refine wpAnyH_ready (rs := [37]) (by kernel_rfl) (by simp) ?_
                        refine AllReadyH.cons (o := { dst := some 64, op := Go.Op.call { callee := Go.Callee.value (Go.Operand.func 66), args := #[Go.Operand.tmp 62, Go.Operand.tmp 63], argTypes := #[99, 99] }, type := 4, pos := "l04_graph.go:21", after := #[{ on := 35, ground := Go.Ground.data }, { on := 36, ground := Go.Ground.data }, { on := 29, ground := Go.Ground.chain }, { on := 29, ground := Go.Ground.guard }], guard := some (29, true) }) rfl (fun K hK => ?_) ?_
                        · rw [if_neg (by refine Bool.eq_false_iff.1 ?_; kernel_rfl)]
                          refine hK.out _ _ hHeld (fun hHeld => ?_)
                          clear hK K
                          try simp only [Act.put, List.setIfInBounds_toArray, List.set_cons_zero, List.set_cons_succ]
                          refine wpAnyH_take (i := 38) (oi := { dst := some 65, op := Go.Op.unOp Go.UnOp.not 4 (Go.Operand.tmp 64), type := 4, pos := "l04_graph.go:21", after := #[{ on := 37, ground := Go.Ground.data }, { on := 29, ground := Go.Ground.guard }], guard := some (29, true) }) (v := undef) rfl (by kernel_rfl) (by kernel_rfl) (by kernel_rfl) (fun _ _ _ h => h) (Or.inr ⟨by kernel_rfl, rfl⟩) (by assumption) ?_
                          simp only [Act.put, List.setIfInBounds_toArray, List.set_cons_zero, List.set_cons_succ]
                          refine wpAnyH_take (i := 39) (oi := { dst := some 66, op := Go.Op.pick (Go.Operand.tmp 56) (Go.Operand.tmp 65) (Go.Operand.const (Go.Value.bool false)), type := 4, pos := "l04_graph.go:21", after := #[{ on := 29, ground := Go.Ground.data }, { on := 38, ground := Go.Ground.data }, { on := 26, ground := Go.Ground.guard }], guard := some (26, false) }) (v := ?_) rfl (by kernel_rfl) (by kernel_rfl) (by kernel_rfl) (fun _ _ _ h => h) (Or.inl ⟨by kernel_rfl, ?_⟩) (by assumption) ?_
                          rotate_left
                          · intro w hSw; (try dsimp only at hSw); go_simp; try with_reducible rfl
                          simp only [Act.put, List.setIfInBounds_toArray, List.set_cons_zero, List.set_cons_succ]
                          refine wpAnyH_take (i := 40) (oi := { dst := some 67, op := Go.Op.pick (Go.Operand.tmp 53) (Go.Operand.const (Go.Value.bool true)) (Go.Operand.tmp 66), type := 4, pos := "l04_graph.go:21", after := #[{ on := 26, ground := Go.Ground.data }, { on := 39, ground := Go.Ground.data }], guard := none }) (v := ?_) rfl (by kernel_rfl) (by kernel_rfl) (by kernel_rfl) (fun _ _ _ h => h) (Or.inl ⟨by kernel_rfl, ?_⟩) (by assumption) ?_
                          rotate_left
                          · intro w hSw; (try dsimp only at hSw); go_simp; try with_reducible rfl
                          simp only [Act.put, List.setIfInBounds_toArray, List.set_cons_zero, List.set_cons_succ]
                          refine wpAnyH_done (by kernel_rfl) ?_ _
                          clear hHeld
                          go_wp2
                          go_roundw
                          case rel => exact ⟨1, by go_num, by omega, by show _ = _; simp only [okGTo]; rw [okGAt_zero HOT.out]; rfl, HLW.out.drew, HXW⟩
                          case measure => simp [intOf]; omega
                        exact AllReadyH.nil
                      exact AllReadyH.nil
                    exact AllReadyH.nil
                  · obtain ⟨m, rfl⟩ : ∃ m, k = m + 1 := ⟨k - 1, by omega⟩
                    obtain ⟨b2, o2, eq2, _, _, hy⟩ := HBW.out.edge (k := m) (by rw [HN.out]; omega)
                    simp only [Option.some.injEq, Addr.mk.injEq, and_true] at eq2
                    obtain ⟨rfl, rfl⟩ := eq2
                    obtain ⟨y, HYY⟩ : ∃ x : Ed, Hid (x = eat l m) := ⟨_, rfl⟩
                    rw [← HYY.out] at hy
                    obtain ⟨v, HV⟩ : ∃ v : Bool, Hid (v = ltE y (x0, x1, x2)) := ⟨_, rfl⟩
                    have HOK : Hid (okGAt s l (m + 1) = v) := by show _ = _; rw [okGAt_pos HOT.out (by omega), Nat.add_sub_cancel, ← HXX.out, ← HYY.out, HV.out]
                    have hyW : EdgeAt W b (o + m * 3) y := hy.below HWB.out (lt_of_cell hy.1)
                    obtain ⟨y0, y1, y2⟩ := y
                    obtain ⟨y0', y1', y2'⟩ := hyW
                    dsimp only at y0' y1' y2'
                    have HC2 : Hid (∀ w0, Calls Try.prog 66 #[ev (y0, y1, y2), ev (x0, x1, x2)] w0 fun e w' => e = .returned (.bool v) ∧ Hid (Below w0.heap.size w0 w')) := fun w0 => specLess_edge _ _ v w0 HV.out
                    have hlt2 : (m : Int) < (n : Int) := by omega
                    have hm1 : (0 : Int) < (m : Int) + 1 := by omega
                    have hm2 : IntKind.i64.wrap ((m : Int) + 1 - 1) = (m : Int) := by simp [IntKind.wrap, IntKind.bits, IntKind.signed]; omega
                    have hm3 : IntKind.i64.wrap (m : Int) = (m : Int) := by simp [IntKind.wrap, IntKind.bits, IntKind.signed]; omega
                    have hm4 : (0 : Int) ≤ (m : Int) := by omega
                    clear hk0 hy
                    have HKS : Hid (∀ w', Below W.heap.size W w' → ((w'.cell? ⟨w.heap.size, 0, none⟩ = some (.int .i64 s) ∧ w'.cell? ⟨w.heap.size, 1, none⟩ = some (.slice (some ⟨b, o, none⟩) n cap)) ∧ (w'.cell? ⟨wr.heap.size, 0, none⟩ = some (.int .i64 x0) ∧ w'.cell? ⟨wr.heap.size, 1, none⟩ = some (.int .u8 x1) ∧ w'.cell? ⟨wr.heap.size, 2, none⟩ = some (.int .i64 x2)) ∧ (w'.cell? ⟨b, o + m * 3, none⟩ = some (.int .i64 y0) ∧ w'.cell? ⟨b, o + m * 3 + 1, none⟩ = some (.int .u8 y1) ∧ w'.cell? ⟨b, o + m * 3 + 2, none⟩ = some (.int .i64 y2)))) := fun w' h => ⟨⟨cell_below g0 h (lt_of_cell g0), cell_below g1 h (lt_of_cell g1)⟩, ⟨cell_below e0 h (lt_of_cell e0), cell_below e1 h (lt_of_cell e1), cell_below e2 h (lt_of_cell e2)⟩, ⟨cell_below y0' h (lt_of_cell y0'), cell_below y1' h (lt_of_cell y1'), cell_below y2' h (lt_of_cell y2')⟩⟩
                    refine wp_region_held_drew (S := fun w' => (w'.cell? ⟨w.heap.size, 0, none⟩ = some (.int .i64 s) ∧ w'.cell? ⟨w.heap.size, 1, none⟩ = some (.slice (some ⟨b, o, none⟩) n cap)) ∧ (w'.cell? ⟨wr.heap.size, 0, none⟩ = some (.int .i64 x0) ∧ w'.cell? ⟨wr.heap.size, 1, none⟩ = some (.int .u8 x1) ∧ w'.cell? ⟨wr.heap.size, 2, none⟩ = some (.int .i64 x2)) ∧ (w'.cell? ⟨b, o + m * 3, none⟩ = some (.int .i64 y0) ∧ w'.cell? ⟨b, o + m * 3 + 1, none⟩ = some (.int .u8 y1) ∧ w'.cell? ⟨b, o + m * 3 + 2, none⟩ = some (.int .i64 y2))) (by kernel_rfl) (HKS.out _ ((Below.refl _ _).drew)) (fun hHeld => ?_)
                    refine wpAnyH_take (i := 0) (oi := { dst := some 27, op := Go.Op.fieldAddr 99 (Go.Operand.tmp 4) 0, type := 0, pos := "l04_graph.go:21", after := #[], guard := none }) (v := ?_) rfl (by kernel_rfl) (by kernel_rfl) (by kernel_rfl) (fun _ _ _ h => h) (Or.inl ⟨by kernel_rfl, ?_⟩) (by assumption) ?_
                    rotate_left
                    · intro w hSw; (try dsimp only at hSw); go_simp; try with_reducible rfl
                    simp only [Act.put, List.setIfInBounds_toArray, List.set_cons_zero, List.set_cons_succ]
                    refine wpAnyH_take (i := 1) (oi := { dst := some 28, op := Go.Op.load 3 (Go.Operand.tmp 27), type := 3, pos := "l04_graph.go:21", after := #[{ on := 0, ground := Go.Ground.data }], guard := none }) (v := ?_) rfl (by kernel_rfl) (by kernel_rfl) (by kernel_rfl) (fun _ _ _ h => h) (Or.inl ⟨by kernel_rfl, ?_⟩) (by assumption) ?_
                    rotate_left
                    · intro w hSw; (try dsimp only at hSw); go_simp; try with_reducible rfl
                    simp only [Act.put, List.setIfInBounds_toArray, List.set_cons_zero, List.set_cons_succ]
                    refine wpAnyH_take (i := 2) (oi := { dst := some 29, op := Go.Op.fieldAddr 26 (Go.Operand.tmp 1) 0, type := 0, pos := "l04_graph.go:21", after := #[], guard := none }) (v := ?_) rfl (by kernel_rfl) (by kernel_rfl) (by kernel_rfl) (fun _ _ _ h => h) (Or.inl ⟨by kernel_rfl, ?_⟩) (by assumption) ?_
                    rotate_left
                    · intro w hSw; (try dsimp only at hSw); go_simp; try with_reducible rfl
                    simp only [Act.put, List.setIfInBounds_toArray, List.set_cons_zero, List.set_cons_succ]
                    refine wpAnyH_take (i := 3) (oi := { dst := some 30, op := Go.Op.load 3 (Go.Operand.tmp 29), type := 3, pos := "l04_graph.go:21", after := #[{ on := 2, ground := Go.Ground.data }], guard := none }) (v := ?_) rfl (by kernel_rfl) (by kernel_rfl) (by kernel_rfl) (fun _ _ _ h => h) (Or.inl ⟨by kernel_rfl, ?_⟩) (by assumption) ?_
                    rotate_left
                    · intro w hSw; (try dsimp only at hSw); go_simp; try with_reducible rfl
                    simp only [Act.put, List.setIfInBounds_toArray, List.set_cons_zero, List.set_cons_succ]
                    refine wpAnyH_take (i := 4) (oi := { dst := some 31, op := Go.Op.binOp Go.BinOp.sub 3 (Go.Operand.tmp 30) (Go.Operand.const (Go.Value.int Go.IntKind.i64 1)) 3, type := 3, pos := "l04_graph.go:21", after := #[{ on := 3, ground := Go.Ground.data }], guard := none }) (v := ?_) rfl (by kernel_rfl) (by kernel_rfl) (by kernel_rfl) (fun _ _ _ h => h) (Or.inl ⟨by kernel_rfl, ?_⟩) (by assumption) ?_
                    rotate_left
                    · intro w hSw; (try dsimp only at hSw); go_simp; try with_reducible rfl
                    simp only [Act.put, List.setIfInBounds_toArray, List.set_cons_zero, List.set_cons_succ]
                    refine wpAnyH_ready (rs := [5]) (by kernel_rfl) (by simp) ?_
                    refine AllReadyH.cons (o := { dst := some 32, op := Go.Op.call { callee := Go.Callee.value (Go.Operand.func 46), args := #[Go.Operand.tmp 28, Go.Operand.const (Go.Value.int Go.IntKind.i64 0), Go.Operand.tmp 31], argTypes := #[3, 3, 3] }, type := 4, pos := "l04_graph.go:21", after := #[{ on := 1, ground := Go.Ground.data }, { on := 4, ground := Go.Ground.data }], guard := none }) rfl (fun K hK => ?_) ?_
                    · go_simp
                      go_wp2_with (go_at_call 46; refine (HC0.out _).mono ?_; rintro e w1 ⟨rfl, rfl⟩)
                      refine hK.out _ _ hHeld (fun hHeld => ?_)
                      clear hK K
                      try simp only [Act.put, List.setIfInBounds_toArray, List.set_cons_zero, List.set_cons_succ]
                      refine wpAnyH_take (i := 6) (oi := { dst := some 33, op := Go.Op.unOp Go.UnOp.not 4 (Go.Operand.tmp 32), type := 4, pos := "l04_graph.go:21", after := #[{ on := 5, ground := Go.Ground.data }], guard := none }) (v := ?_) rfl (by kernel_rfl) (by kernel_rfl) (by kernel_rfl) (fun _ _ _ h => h) (Or.inl ⟨by kernel_rfl, ?_⟩) (by assumption) ?_
                      rotate_left
                      · intro w hSw; (try dsimp only at hSw); go_simp; try with_reducible rfl
                      simp only [Act.put, List.setIfInBounds_toArray, List.set_cons_zero, List.set_cons_succ]
                      refine wpAnyH_take (i := 7) (oi := { dst := some 34, op := Go.Op.move (Go.Operand.tmp 33), type := 4, pos := "l04_graph.go:21", after := #[{ on := 6, ground := Go.Ground.data }, { on := 5, ground := Go.Ground.chain }], guard := none }) (v := ?_) rfl (by kernel_rfl) (by kernel_rfl) (by kernel_rfl) (fun _ _ _ h => h) (Or.inl ⟨by kernel_rfl, ?_⟩) (by assumption) ?_
                      rotate_left
                      · intro w hSw; (try dsimp only at hSw); go_simp; try with_reducible rfl
                      simp only [Act.put, List.setIfInBounds_toArray, List.set_cons_zero, List.set_cons_succ]
                      refine wpAnyH_take (i := 8) (oi := { dst := some 35, op := Go.Op.fieldAddr 99 (Go.Operand.tmp 4) 2, type := 0, pos := "l04_graph.go:21", after := #[{ on := 7, ground := Go.Ground.guard }], guard := some (7, false) }) (v := ?_) rfl (by kernel_rfl) (by kernel_rfl) (by kernel_rfl) (fun _ _ _ h => h) (Or.inl ⟨by kernel_rfl, ?_⟩) (by assumption) ?_
                      rotate_left
                      · intro w hSw; (try dsimp only at hSw); go_simp; try with_reducible rfl
                      simp only [Act.put, List.setIfInBounds_toArray, List.set_cons_zero, List.set_cons_succ]
                      refine wpAnyH_take (i := 9) (oi := { dst := some 36, op := Go.Op.load 3 (Go.Operand.tmp 35), type := 3, pos := "l04_graph.go:21", after := #[{ on := 8, ground := Go.Ground.data }, { on := 7, ground := Go.Ground.guard }], guard := some (7, false) }) (v := ?_) rfl (by kernel_rfl) (by kernel_rfl) (by kernel_rfl) (fun _ _ _ h => h) (Or.inl ⟨by kernel_rfl, ?_⟩) (by assumption) ?_
                      rotate_left
                      · intro w hSw; (try dsimp only at hSw); go_simp; try with_reducible rfl
                      simp only [Act.put, List.setIfInBounds_toArray, List.set_cons_zero, List.set_cons_succ]
                      refine wpAnyH_take (i := 10) (oi := { dst := some 37, op := Go.Op.fieldAddr 26 (Go.Operand.tmp 1) 0, type := 0, pos := "l04_graph.go:21", after := #[{ on := 7, ground := Go.Ground.guard }], guard := some (7, false) }) (v := ?_) rfl (by kernel_rfl) (by kernel_rfl) (by kernel_rfl) (fun _ _ _ h => h) (Or.inl ⟨by kernel_rfl, ?_⟩) (by assumption) ?_
                      rotate_left
                      · intro w hSw; (try dsimp only at hSw); go_simp; try with_reducible rfl
                      simp only [Act.put, List.setIfInBounds_toArray, List.set_cons_zero, List.set_cons_succ]
                      refine wpAnyH_take (i := 11) (oi := { dst := some 38, op := Go.Op.load 3 (Go.Operand.tmp 37), type := 3, pos := "l04_graph.go:21", after := #[{ on := 10, ground := Go.Ground.data }, { on := 7, ground := Go.Ground.guard }], guard := some (7, false) }) (v := ?_) rfl (by kernel_rfl) (by kernel_rfl) (by kernel_rfl) (fun _ _ _ h => h) (Or.inl ⟨by kernel_rfl, ?_⟩) (by assumption) ?_
                      rotate_left
                      · intro w hSw; (try dsimp only at hSw); go_simp; try with_reducible rfl
                      simp only [Act.put, List.setIfInBounds_toArray, List.set_cons_zero, List.set_cons_succ]
                      refine wpAnyH_take (i := 12) (oi := { dst := some 39, op := Go.Op.binOp Go.BinOp.sub 3 (Go.Operand.tmp 38) (Go.Operand.const (Go.Value.int Go.IntKind.i64 1)) 3, type := 3, pos := "l04_graph.go:21", after := #[{ on := 11, ground := Go.Ground.data }, { on := 7, ground := Go.Ground.guard }], guard := some (7, false) }) (v := ?_) rfl (by kernel_rfl) (by kernel_rfl) (by kernel_rfl) (fun _ _ _ h => h) (Or.inl ⟨by kernel_rfl, ?_⟩) (by assumption) ?_
                      rotate_left
                      · intro w hSw; (try dsimp only at hSw); go_simp; try with_reducible rfl
                      simp only [Act.put, List.setIfInBounds_toArray, List.set_cons_zero, List.set_cons_succ]
                      refine wpAnyH_ready (rs := [13]) (by kernel_rfl) (by simp) ?_
                      refine AllReadyH.cons (o := { dst := some 40, op := Go.Op.call { callee := Go.Callee.value (Go.Operand.func 46), args := #[Go.Operand.tmp 36, Go.Operand.const (Go.Value.int Go.IntKind.i64 0), Go.Operand.tmp 39], argTypes := #[3, 3, 3] }, type := 4, pos := "l04_graph.go:21", after := #[{ on := 9, ground := Go.Ground.data }, { on := 12, ground := Go.Ground.data }, { on := 7, ground := Go.Ground.chain }, { on := 7, ground := Go.Ground.guard }], guard := some (7, false) }) rfl (fun K hK => ?_) ?_
                      · go_simp
                        go_wp2_with (go_at_call 46; refine (HC1.out _).mono ?_; rintro e w1 ⟨rfl, rfl⟩)
                        refine hK.out _ _ hHeld (fun hHeld => ?_)
                        clear hK K
                        try simp only [Act.put, List.setIfInBounds_toArray, List.set_cons_zero, List.set_cons_succ]
                        refine wpAnyH_take (i := 14) (oi := { dst := some 41, op := Go.Op.unOp Go.UnOp.not 4 (Go.Operand.tmp 40), type := 4, pos := "l04_graph.go:21", after := #[{ on := 13, ground := Go.Ground.data }, { on := 7, ground := Go.Ground.guard }], guard := some (7, false) }) (v := ?_) rfl (by kernel_rfl) (by kernel_rfl) (by kernel_rfl) (fun _ _ _ h => h) (Or.inl ⟨by kernel_rfl, ?_⟩) (by assumption) ?_
                        rotate_left
                        · intro w hSw; (try dsimp only at hSw); go_simp; try with_reducible rfl
                        simp only [Act.put, List.setIfInBounds_toArray, List.set_cons_zero, List.set_cons_succ]
                        refine wpAnyH_take (i := 15) (oi := { dst := some 42, op := Go.Op.pick (Go.Operand.tmp 34) (Go.Operand.const (Go.Value.bool true)) (Go.Operand.tmp 41), type := 4, pos := "l04_graph.go:21", after := #[{ on := 7, ground := Go.Ground.data }, { on := 14, ground := Go.Ground.data }], guard := none }) (v := ?_) rfl (by kernel_rfl) (by kernel_rfl) (by kernel_rfl) (fun _ _ _ h => h) (Or.inl ⟨by kernel_rfl, ?_⟩) (by assumption) ?_
                        rotate_left
                        · intro w hSw; (try dsimp only at hSw); go_simp; try with_reducible rfl
                        simp only [Act.put, List.setIfInBounds_toArray, List.set_cons_zero, List.set_cons_succ]
                        refine wpAnyH_take (i := 16) (oi := { dst := some 43, op := Go.Op.move (Go.Operand.tmp 42), type := 4, pos := "l04_graph.go:21", after := #[{ on := 15, ground := Go.Ground.data }, { on := 13, ground := Go.Ground.chain }], guard := none }) (v := ?_) rfl (by kernel_rfl) (by kernel_rfl) (by kernel_rfl) (fun _ _ _ h => h) (Or.inl ⟨by kernel_rfl, ?_⟩) (by assumption) ?_
                        rotate_left
                        · intro w hSw; (try dsimp only at hSw); go_simp; try with_reducible rfl
                        simp only [Act.put, List.setIfInBounds_toArray, List.set_cons_zero, List.set_cons_succ]
                        refine wpAnyH_take (i := 17) (oi := { dst := some 44, op := Go.Op.fieldAddr 99 (Go.Operand.tmp 4) 1, type := 0, pos := "l04_graph.go:21", after := #[{ on := 16, ground := Go.Ground.guard }], guard := some (16, false) }) (v := ?_) rfl (by kernel_rfl) (by kernel_rfl) (by kernel_rfl) (fun _ _ _ h => h) (Or.inl ⟨by kernel_rfl, ?_⟩) (by assumption) ?_
                        rotate_left
                        · intro w hSw; (try dsimp only at hSw); go_simp; try with_reducible rfl
                        simp only [Act.put, List.setIfInBounds_toArray, List.set_cons_zero, List.set_cons_succ]
                        refine wpAnyH_take (i := 18) (oi := { dst := some 45, op := Go.Op.load 5 (Go.Operand.tmp 44), type := 5, pos := "l04_graph.go:21", after := #[{ on := 17, ground := Go.Ground.data }, { on := 16, ground := Go.Ground.guard }], guard := some (16, false) }) (v := ?_) rfl (by kernel_rfl) (by kernel_rfl) (by kernel_rfl) (fun _ _ _ h => h) (Or.inl ⟨by kernel_rfl, ?_⟩) (by assumption) ?_
                        rotate_left
                        · intro w hSw; (try dsimp only at hSw); go_simp; try with_reducible rfl
                        simp only [Act.put, List.setIfInBounds_toArray, List.set_cons_zero, List.set_cons_succ]
                        refine wpAnyH_take (i := 19) (oi := { dst := some 46, op := Go.Op.binOp Go.BinOp.lss 5 (Go.Operand.tmp 45) (Go.Operand.const (Go.Value.int Go.IntKind.u8 97)) 5, type := 4, pos := "l04_graph.go:21", after := #[{ on := 18, ground := Go.Ground.data }, { on := 16, ground := Go.Ground.guard }], guard := some (16, false) }) (v := ?_) rfl (by kernel_rfl) (by kernel_rfl) (by kernel_rfl) (fun _ _ _ h => h) (Or.inl ⟨by kernel_rfl, ?_⟩) (by assumption) ?_
                        rotate_left
                        · intro w hSw; (try dsimp only at hSw); go_simp; try with_reducible rfl
                        simp only [Act.put, List.setIfInBounds_toArray, List.set_cons_zero, List.set_cons_succ]
                        refine wpAnyH_take (i := 20) (oi := { dst := some 47, op := Go.Op.pick (Go.Operand.tmp 43) (Go.Operand.const (Go.Value.bool true)) (Go.Operand.tmp 46), type := 4, pos := "l04_graph.go:21", after := #[{ on := 16, ground := Go.Ground.data }, { on := 19, ground := Go.Ground.data }], guard := none }) (v := ?_) rfl (by kernel_rfl) (by kernel_rfl) (by kernel_rfl) (fun _ _ _ h => h) (Or.inl ⟨by kernel_rfl, ?_⟩) (by assumption) ?_
                        rotate_left
                        · intro w hSw; (try dsimp only at hSw); go_simp; try with_reducible rfl
                        simp only [Act.put, List.setIfInBounds_toArray, List.set_cons_zero, List.set_cons_succ]
                        refine wpAnyH_take (i := 21) (oi := { dst := some 48, op := Go.Op.move (Go.Operand.tmp 47), type := 4, pos := "l04_graph.go:21", after := #[{ on := 20, ground := Go.Ground.data }, { on := 16, ground := Go.Ground.chain }], guard := none }) (v := ?_) rfl (by kernel_rfl) (by kernel_rfl) (by kernel_rfl) (fun _ _ _ h => h) (Or.inl ⟨by kernel_rfl, ?_⟩) (by assumption) ?_
                        rotate_left
                        · intro w hSw; (try dsimp only at hSw); go_simp; try with_reducible rfl
                        simp only [Act.put, List.setIfInBounds_toArray, List.set_cons_zero, List.set_cons_succ]
                        refine wpAnyH_take (i := 22) (oi := { dst := some 49, op := Go.Op.fieldAddr 99 (Go.Operand.tmp 4) 1, type := 0, pos := "l04_graph.go:21", after := #[{ on := 21, ground := Go.Ground.guard }], guard := some (21, false) }) (v := ?_) rfl (by kernel_rfl) (by kernel_rfl) (by kernel_rfl) (fun _ _ _ h => h) (Or.inl ⟨by kernel_rfl, ?_⟩) (by assumption) ?_
                        rotate_left
                        · intro w hSw; (try dsimp only at hSw); go_simp; try with_reducible rfl
                        simp only [Act.put, List.setIfInBounds_toArray, List.set_cons_zero, List.set_cons_succ]
                        refine wpAnyH_take (i := 23) (oi := { dst := some 50, op := Go.Op.load 5 (Go.Operand.tmp 49), type := 5, pos := "l04_graph.go:21", after := #[{ on := 22, ground := Go.Ground.data }, { on := 21, ground := Go.Ground.guard }], guard := some (21, false) }) (v := ?_) rfl (by kernel_rfl) (by kernel_rfl) (by kernel_rfl) (fun _ _ _ h => h) (Or.inl ⟨by kernel_rfl, ?_⟩) (by assumption) ?_
                        rotate_left
                        · intro w hSw; (try dsimp only at hSw); go_simp; try with_reducible rfl
                        simp only [Act.put, List.setIfInBounds_toArray, List.set_cons_zero, List.set_cons_succ]
                        refine wpAnyH_take (i := 24) (oi := { dst := some 51, op := Go.Op.binOp Go.BinOp.gtr 5 (Go.Operand.tmp 50) (Go.Operand.const (Go.Value.int Go.IntKind.u8 100)) 5, type := 4, pos := "l04_graph.go:21", after := #[{ on := 23, ground := Go.Ground.data }, { on := 21, ground := Go.Ground.guard }], guard := some (21, false) }) (v := ?_) rfl (by kernel_rfl) (by kernel_rfl) (by kernel_rfl) (fun _ _ _ h => h) (Or.inl ⟨by kernel_rfl, ?_⟩) (by assumption) ?_
                        rotate_left
                        · intro w hSw; (try dsimp only at hSw); go_simp; try with_reducible rfl
                        simp only [Act.put, List.setIfInBounds_toArray, List.set_cons_zero, List.set_cons_succ]
                        refine wpAnyH_take (i := 25) (oi := { dst := some 52, op := Go.Op.pick (Go.Operand.tmp 48) (Go.Operand.const (Go.Value.bool true)) (Go.Operand.tmp 51), type := 4, pos := "l04_graph.go:21", after := #[{ on := 21, ground := Go.Ground.data }, { on := 24, ground := Go.Ground.data }], guard := none }) (v := ?_) rfl (by kernel_rfl) (by kernel_rfl) (by kernel_rfl) (fun _ _ _ h => h) (Or.inl ⟨by kernel_rfl, ?_⟩) (by assumption) ?_
                        rotate_left
                        · intro w hSw; (try dsimp only at hSw); go_simp; try with_reducible rfl
                        simp only [Act.put, List.setIfInBounds_toArray, List.set_cons_zero, List.set_cons_succ]
                        refine wpAnyH_take (i := 26) (oi := { dst := some 53, op := Go.Op.move (Go.Operand.tmp 52), type := 4, pos := "l04_graph.go:21", after := #[{ on := 25, ground := Go.Ground.data }, { on := 21, ground := Go.Ground.chain }], guard := none }) (v := ?_) rfl (by kernel_rfl) (by kernel_rfl) (by kernel_rfl) (fun _ _ _ h => h) (Or.inl ⟨by kernel_rfl, ?_⟩) (by assumption) ?_
                        rotate_left
                        · intro w hSw; (try dsimp only at hSw); go_simp; try with_reducible rfl
                        simp only [Act.put, List.setIfInBounds_toArray, List.set_cons_zero, List.set_cons_succ]
                        refine wpAnyH_take (i := 27) (oi := { dst := some 54, op := Go.Op.move (Go.Operand.tmp 3), type := 3, pos := "l04_graph.go:21", after := #[{ on := 26, ground := Go.Ground.guard }], guard := some (26, false) }) (v := ?_) rfl (by kernel_rfl) (by kernel_rfl) (by kernel_rfl) (fun _ _ _ h => h) (Or.inl ⟨by kernel_rfl, ?_⟩) (by assumption) ?_
                        rotate_left
                        · intro w hSw; (try dsimp only at hSw); go_simp; try with_reducible rfl
                        simp only [Act.put, List.setIfInBounds_toArray, List.set_cons_zero, List.set_cons_succ]
                        refine wpAnyH_take (i := 28) (oi := { dst := some 55, op := Go.Op.binOp Go.BinOp.gtr 3 (Go.Operand.tmp 54) (Go.Operand.const (Go.Value.int Go.IntKind.i64 0)) 3, type := 4, pos := "l04_graph.go:21", after := #[{ on := 27, ground := Go.Ground.data }, { on := 26, ground := Go.Ground.guard }], guard := some (26, false) }) (v := ?_) rfl (by kernel_rfl) (by kernel_rfl) (by kernel_rfl) (fun _ _ _ h => h) (Or.inl ⟨by kernel_rfl, ?_⟩) (by assumption) ?_
                        rotate_left
                        · intro w hSw; (try dsimp only at hSw); go_simp; try with_reducible rfl
                        simp only [Act.put, List.setIfInBounds_toArray, List.set_cons_zero, List.set_cons_succ]
                        refine wpAnyH_take (i := 29) (oi := { dst := some 56, op := Go.Op.move (Go.Operand.tmp 55), type := 4, pos := "l04_graph.go:21", after := #[{ on := 28, ground := Go.Ground.data }, { on := 26, ground := Go.Ground.chain }, { on := 26, ground := Go.Ground.guard }], guard := some (26, false) }) (v := ?_) rfl (by kernel_rfl) (by kernel_rfl) (by kernel_rfl) (fun _ _ _ h => h) (Or.inl ⟨by kernel_rfl, ?_⟩) (by assumption) ?_
                        rotate_left
                        · intro w hSw; (try dsimp only at hSw); go_simp; try with_reducible rfl
                        simp only [Act.put, List.setIfInBounds_toArray, List.set_cons_zero, List.set_cons_succ]
                        refine wpAnyH_take (i := 30) (oi := { dst := some 57, op := Go.Op.fieldAddr 26 (Go.Operand.tmp 1) 1, type := 0, pos := "l04_graph.go:21", after := #[{ on := 29, ground := Go.Ground.guard }], guard := some (29, true) }) (v := ?_) rfl (by kernel_rfl) (by kernel_rfl) (by kernel_rfl) (fun _ _ _ h => h) (Or.inl ⟨by kernel_rfl, ?_⟩) (by assumption) ?_
                        rotate_left
                        · intro w hSw; (try dsimp only at hSw); go_simp; try with_reducible rfl
                        simp only [Act.put, List.setIfInBounds_toArray, List.set_cons_zero, List.set_cons_succ]
                        refine wpAnyH_take (i := 31) (oi := { dst := some 58, op := Go.Op.load 24 (Go.Operand.tmp 57), type := 24, pos := "l04_graph.go:21", after := #[{ on := 30, ground := Go.Ground.data }, { on := 29, ground := Go.Ground.guard }], guard := some (29, true) }) (v := ?_) rfl (by kernel_rfl) (by kernel_rfl) (by kernel_rfl) (fun _ _ _ h => h) (Or.inl ⟨by kernel_rfl, ?_⟩) (by assumption) ?_
                        rotate_left
                        · intro w hSw; (try dsimp only at hSw); go_simp; try with_reducible rfl
                        simp only [Act.put, List.setIfInBounds_toArray, List.set_cons_zero, List.set_cons_succ]
                        refine wpAnyH_take (i := 32) (oi := { dst := some 59, op := Go.Op.move (Go.Operand.tmp 3), type := 3, pos := "l04_graph.go:21", after := #[{ on := 29, ground := Go.Ground.guard }], guard := some (29, true) }) (v := ?_) rfl (by kernel_rfl) (by kernel_rfl) (by kernel_rfl) (fun _ _ _ h => h) (Or.inl ⟨by kernel_rfl, ?_⟩) (by assumption) ?_
                        rotate_left
                        · intro w hSw; (try dsimp only at hSw); go_simp; try with_reducible rfl
                        simp only [Act.put, List.setIfInBounds_toArray, List.set_cons_zero, List.set_cons_succ]
                        refine wpAnyH_take (i := 33) (oi := { dst := some 60, op := Go.Op.binOp Go.BinOp.sub 3 (Go.Operand.tmp 59) (Go.Operand.const (Go.Value.int Go.IntKind.i64 1)) 3, type := 3, pos := "l04_graph.go:21", after := #[{ on := 32, ground := Go.Ground.data }, { on := 29, ground := Go.Ground.guard }], guard := some (29, true) }) (v := ?_) rfl (by kernel_rfl) (by kernel_rfl) (by kernel_rfl) (fun _ _ _ h => h) (Or.inl ⟨by kernel_rfl, ?_⟩) (by assumption) ?_
                        rotate_left
                        · intro w hSw; (try dsimp only at hSw); go_simp; try with_reducible rfl
                        simp only [Act.put, List.setIfInBounds_toArray, List.set_cons_zero, List.set_cons_succ]
                        refine wpAnyH_take (i := 34) (oi := { dst := some 61, op := Go.Op.indexAddr 24 (Go.Operand.tmp 58) (Go.Operand.tmp 60), type := 0, pos := "l04_graph.go:21", after := #[{ on := 31, ground := Go.Ground.data }, { on := 33, ground := Go.Ground.data }, { on := 29, ground := Go.Ground.guard }], guard := some (29, true) }) (v := ?_) rfl (by kernel_rfl) (by kernel_rfl) (by kernel_rfl) (fun _ _ _ h => h) (Or.inl ⟨by kernel_rfl, ?_⟩) (by assumption) ?_
                        rotate_left
                        · intro w hSw; (try dsimp only at hSw); go_simp; try with_reducible rfl
                        simp only [Act.put, List.setIfInBounds_toArray, List.set_cons_zero, List.set_cons_succ]
                        refine wpAnyH_take (i := 35) (oi := { dst := some 62, op := Go.Op.load 99 (Go.Operand.tmp 61), type := 99, pos := "l04_graph.go:21", after := #[{ on := 34, ground := Go.Ground.data }, { on := 29, ground := Go.Ground.guard }], guard := some (29, true) }) (v := ?_) rfl (by kernel_rfl) (by kernel_rfl) (by kernel_rfl) (fun _ _ _ h => h) (Or.inl ⟨by kernel_rfl, ?_⟩) (by assumption) ?_
                        rotate_left
                        · intro w hSw; (try dsimp only at hSw); go_simp; try with_reducible rfl
                        simp only [Act.put, List.setIfInBounds_toArray, List.set_cons_zero, List.set_cons_succ]
                        refine wpAnyH_take (i := 36) (oi := { dst := some 63, op := Go.Op.load 99 (Go.Operand.tmp 4), type := 99, pos := "l04_graph.go:21", after := #[{ on := 29, ground := Go.Ground.guard }], guard := some (29, true) }) (v := ?_) rfl (by kernel_rfl) (by kernel_rfl) (by kernel_rfl) (fun _ _ _ h => h) (Or.inl ⟨by kernel_rfl, ?_⟩) (by assumption) ?_
                        rotate_left
                        · intro w hSw; (try dsimp only at hSw); go_simp; try with_reducible rfl
                        simp only [Act.put, List.setIfInBounds_toArray, List.set_cons_zero, List.set_cons_succ]
                        refine wpAnyH_ready (rs := [37]) (by kernel_rfl) (by simp) ?_
                        refine AllReadyH.cons (o := { dst := some 64, op := Go.Op.call { callee := Go.Callee.value (Go.Operand.func 66), args := #[Go.Operand.tmp 62, Go.Operand.tmp 63], argTypes := #[99, 99] }, type := 4, pos := "l04_graph.go:21", after := #[{ on := 35, ground := Go.Ground.data }, { on := 36, ground := Go.Ground.data }, { on := 29, ground := Go.Ground.chain }, { on := 29, ground := Go.Ground.guard }], guard := some (29, true) }) rfl (fun K hK => ?_) ?_
                        · go_simp
                          go_wp2_with (go_at_call 66; refine (HC2.out _).mono ?_; rintro e w2 ⟨rfl, B2⟩)
                          have HB2 : Hid (Below W.heap.size W w2) := ((Below.refl _ _).drew).trans (B2.out.mono (Nat.le_refl _))
                          have hk2 := HKS.out _ HB2.out
                          clear B2
                          refine hK.out _ _ hk2 (fun hHeld => ?_)
                          clear hK K
                          try simp only [Act.put, List.setIfInBounds_toArray, List.set_cons_zero, List.set_cons_succ]
                          refine wpAnyH_take (i := 38) (oi := { dst := some 65, op := Go.Op.unOp Go.UnOp.not 4 (Go.Operand.tmp 64), type := 4, pos := "l04_graph.go:21", after := #[{ on := 37, ground := Go.Ground.data }, { on := 29, ground := Go.Ground.guard }], guard := some (29, true) }) (v := ?_) rfl (by kernel_rfl) (by kernel_rfl) (by kernel_rfl) (fun _ _ _ h => h) (Or.inl ⟨by kernel_rfl, ?_⟩) (by assumption) ?_
                          rotate_left
                          · intro w hSw; (try dsimp only at hSw); go_simp; try with_reducible rfl
                          simp only [Act.put, List.setIfInBounds_toArray, List.set_cons_zero, List.set_cons_succ]
                          refine wpAnyH_take (i := 39) (oi := { dst := some 66, op := Go.Op.pick (Go.Operand.tmp 56) (Go.Operand.tmp 65) (Go.Operand.const (Go.Value.bool false)), type := 4, pos := "l04_graph.go:21", after := #[{ on := 29, ground := Go.Ground.data }, { on := 38, ground := Go.Ground.data }, { on := 26, ground := Go.Ground.guard }], guard := some (26, false) }) (v := ?_) rfl (by kernel_rfl) (by kernel_rfl) (by kernel_rfl) (fun _ _ _ h => h) (Or.inl ⟨by kernel_rfl, ?_⟩) (by assumption) ?_
                          rotate_left
                          · intro w hSw; (try dsimp only at hSw); go_simp; try with_reducible rfl
                          simp only [Act.put, List.setIfInBounds_toArray, List.set_cons_zero, List.set_cons_succ]
                          refine wpAnyH_take (i := 40) (oi := { dst := some 67, op := Go.Op.pick (Go.Operand.tmp 53) (Go.Operand.const (Go.Value.bool true)) (Go.Operand.tmp 66), type := 4, pos := "l04_graph.go:21", after := #[{ on := 26, ground := Go.Ground.data }, { on := 39, ground := Go.Ground.data }], guard := none }) (v := ?_) rfl (by kernel_rfl) (by kernel_rfl) (by kernel_rfl) (fun _ _ _ h => h) (Or.inl ⟨by kernel_rfl, ?_⟩) (by assumption) ?_
                          rotate_left
                          · intro w hSw; (try dsimp only at hSw); go_simp; try with_reducible rfl
                          simp only [Act.put, List.setIfInBounds_toArray, List.set_cons_zero, List.set_cons_succ]
                          refine wpAnyH_done (by kernel_rfl) ?_ _
                          clear hHeld
                          rcases Bool.eq_false_or_eq_true v with hv | hv
                          · subst hv
                            go_wp2
                            go_roundw
                            case rel => exact ⟨m + 1 + 1, by go_num, by omega, by show _ = _; rw [okGTo, HE.out, HOK.out]; rfl, HLW.out.trans (HB2.out.mono HLW.out.size), HXW.out.of_block (HB2.out.block _ HXW.out.lt)⟩
                            case measure => simp [intOf]; omega
                          · subst hv
                            go_wp2
                            go_ret
                            refine ⟨?_, HLW.out.trans (HB2.out.mono HLW.out.size)⟩
                            have : r = false := by rw [HR.out]; exact okG_no (k := m + 1) (by rw [HN.out]; exact hlt) HOK.out
                            rw [this]; rfl
                        exact AllReadyH.nil
                      exact AllReadyH.nil
                    exact AllReadyH.nil
                · have hd8 : decide ((100 : Int) < x1) = true := by simp; omega
                  rw [decide_eq_false h100] at HOE
                  rw [Bool.and_false] at HOE
                  have HKS : Hid (∀ w', Below W.heap.size W w' → ((w'.cell? ⟨w.heap.size, 0, none⟩ = some (.int .i64 s) ∧ w'.cell? ⟨w.heap.size, 1, none⟩ = some (.slice (some ⟨b, o, none⟩) n cap)) ∧ (w'.cell? ⟨wr.heap.size, 0, none⟩ = some (.int .i64 x0) ∧ w'.cell? ⟨wr.heap.size, 1, none⟩ = some (.int .u8 x1) ∧ w'.cell? ⟨wr.heap.size, 2, none⟩ = some (.int .i64 x2)))) := fun w' h => ⟨⟨cell_below g0 h (lt_of_cell g0), cell_below g1 h (lt_of_cell g1)⟩, ⟨cell_below e0 h (lt_of_cell e0), cell_below e1 h (lt_of_cell e1), cell_below e2 h (lt_of_cell e2)⟩⟩
                  refine wp_region_held_drew (S := fun w' => (w'.cell? ⟨w.heap.size, 0, none⟩ = some (.int .i64 s) ∧ w'.cell? ⟨w.heap.size, 1, none⟩ = some (.slice (some ⟨b, o, none⟩) n cap)) ∧ (w'.cell? ⟨wr.heap.size, 0, none⟩ = some (.int .i64 x0) ∧ w'.cell? ⟨wr.heap.size, 1, none⟩ = some (.int .u8 x1) ∧ w'.cell? ⟨wr.heap.size, 2, none⟩ = some (.int .i64 x2))) (by kernel_rfl) (HKS.out _ ((Below.refl _ _).drew)) (fun hHeld => ?_)
                  refine wpAnyH_take (i := 0) (oi := { dst := some 27, op := Go.Op.fieldAddr 99 (Go.Operand.tmp 4) 0, type := 0, pos := "l04_graph.go:21", after := #[], guard := none }) (v := ?_) rfl (by kernel_rfl) (by kernel_rfl) (by kernel_rfl) (fun _ _ _ h => h) (Or.inl ⟨by kernel_rfl, ?_⟩) (by assumption) ?_
                  rotate_left
                  · intro w hSw; (try dsimp only at hSw); go_simp; try with_reducible rfl
                  simp only [Act.put, List.setIfInBounds_toArray, List.set_cons_zero, List.set_cons_succ]
                  refine wpAnyH_take (i := 1) (oi := { dst := some 28, op := Go.Op.load 3 (Go.Operand.tmp 27), type := 3, pos := "l04_graph.go:21", after := #[{ on := 0, ground := Go.Ground.data }], guard := none }) (v := ?_) rfl (by kernel_rfl) (by kernel_rfl) (by kernel_rfl) (fun _ _ _ h => h) (Or.inl ⟨by kernel_rfl, ?_⟩) (by assumption) ?_
                  rotate_left
                  · intro w hSw; (try dsimp only at hSw); go_simp; try with_reducible rfl
                  simp only [Act.put, List.setIfInBounds_toArray, List.set_cons_zero, List.set_cons_succ]
                  refine wpAnyH_take (i := 2) (oi := { dst := some 29, op := Go.Op.fieldAddr 26 (Go.Operand.tmp 1) 0, type := 0, pos := "l04_graph.go:21", after := #[], guard := none }) (v := ?_) rfl (by kernel_rfl) (by kernel_rfl) (by kernel_rfl) (fun _ _ _ h => h) (Or.inl ⟨by kernel_rfl, ?_⟩) (by assumption) ?_
                  rotate_left
                  · intro w hSw; (try dsimp only at hSw); go_simp; try with_reducible rfl
                  simp only [Act.put, List.setIfInBounds_toArray, List.set_cons_zero, List.set_cons_succ]
                  refine wpAnyH_take (i := 3) (oi := { dst := some 30, op := Go.Op.load 3 (Go.Operand.tmp 29), type := 3, pos := "l04_graph.go:21", after := #[{ on := 2, ground := Go.Ground.data }], guard := none }) (v := ?_) rfl (by kernel_rfl) (by kernel_rfl) (by kernel_rfl) (fun _ _ _ h => h) (Or.inl ⟨by kernel_rfl, ?_⟩) (by assumption) ?_
                  rotate_left
                  · intro w hSw; (try dsimp only at hSw); go_simp; try with_reducible rfl
                  simp only [Act.put, List.setIfInBounds_toArray, List.set_cons_zero, List.set_cons_succ]
                  refine wpAnyH_take (i := 4) (oi := { dst := some 31, op := Go.Op.binOp Go.BinOp.sub 3 (Go.Operand.tmp 30) (Go.Operand.const (Go.Value.int Go.IntKind.i64 1)) 3, type := 3, pos := "l04_graph.go:21", after := #[{ on := 3, ground := Go.Ground.data }], guard := none }) (v := ?_) rfl (by kernel_rfl) (by kernel_rfl) (by kernel_rfl) (fun _ _ _ h => h) (Or.inl ⟨by kernel_rfl, ?_⟩) (by assumption) ?_
                  rotate_left
                  · intro w hSw; (try dsimp only at hSw); go_simp; try with_reducible rfl
                  simp only [Act.put, List.setIfInBounds_toArray, List.set_cons_zero, List.set_cons_succ]
                  refine wpAnyH_ready (rs := [5]) (by kernel_rfl) (by simp) ?_
                  refine AllReadyH.cons (o := { dst := some 32, op := Go.Op.call { callee := Go.Callee.value (Go.Operand.func 46), args := #[Go.Operand.tmp 28, Go.Operand.const (Go.Value.int Go.IntKind.i64 0), Go.Operand.tmp 31], argTypes := #[3, 3, 3] }, type := 4, pos := "l04_graph.go:21", after := #[{ on := 1, ground := Go.Ground.data }, { on := 4, ground := Go.Ground.data }], guard := none }) rfl (fun K hK => ?_) ?_
                  · go_simp
                    go_wp2_with (go_at_call 46; refine (HC0.out _).mono ?_; rintro e w1 ⟨rfl, rfl⟩)
                    refine hK.out _ _ hHeld (fun hHeld => ?_)
                    clear hK K
                    try simp only [Act.put, List.setIfInBounds_toArray, List.set_cons_zero, List.set_cons_succ]
                    refine wpAnyH_take (i := 6) (oi := { dst := some 33, op := Go.Op.unOp Go.UnOp.not 4 (Go.Operand.tmp 32), type := 4, pos := "l04_graph.go:21", after := #[{ on := 5, ground := Go.Ground.data }], guard := none }) (v := ?_) rfl (by kernel_rfl) (by kernel_rfl) (by kernel_rfl) (fun _ _ _ h => h) (Or.inl ⟨by kernel_rfl, ?_⟩) (by assumption) ?_
                    rotate_left
                    · intro w hSw; (try dsimp only at hSw); go_simp; try with_reducible rfl
                    simp only [Act.put, List.setIfInBounds_toArray, List.set_cons_zero, List.set_cons_succ]
                    refine wpAnyH_take (i := 7) (oi := { dst := some 34, op := Go.Op.move (Go.Operand.tmp 33), type := 4, pos := "l04_graph.go:21", after := #[{ on := 6, ground := Go.Ground.data }, { on := 5, ground := Go.Ground.chain }], guard := none }) (v := ?_) rfl (by kernel_rfl) (by kernel_rfl) (by kernel_rfl) (fun _ _ _ h => h) (Or.inl ⟨by kernel_rfl, ?_⟩) (by assumption) ?_
                    rotate_left
                    · intro w hSw; (try dsimp only at hSw); go_simp; try with_reducible rfl
                    simp only [Act.put, List.setIfInBounds_toArray, List.set_cons_zero, List.set_cons_succ]
                    refine wpAnyH_take (i := 8) (oi := { dst := some 35, op := Go.Op.fieldAddr 99 (Go.Operand.tmp 4) 2, type := 0, pos := "l04_graph.go:21", after := #[{ on := 7, ground := Go.Ground.guard }], guard := some (7, false) }) (v := ?_) rfl (by kernel_rfl) (by kernel_rfl) (by kernel_rfl) (fun _ _ _ h => h) (Or.inl ⟨by kernel_rfl, ?_⟩) (by assumption) ?_
                    rotate_left
                    · intro w hSw; (try dsimp only at hSw); go_simp; try with_reducible rfl
                    simp only [Act.put, List.setIfInBounds_toArray, List.set_cons_zero, List.set_cons_succ]
                    refine wpAnyH_take (i := 9) (oi := { dst := some 36, op := Go.Op.load 3 (Go.Operand.tmp 35), type := 3, pos := "l04_graph.go:21", after := #[{ on := 8, ground := Go.Ground.data }, { on := 7, ground := Go.Ground.guard }], guard := some (7, false) }) (v := ?_) rfl (by kernel_rfl) (by kernel_rfl) (by kernel_rfl) (fun _ _ _ h => h) (Or.inl ⟨by kernel_rfl, ?_⟩) (by assumption) ?_
                    rotate_left
                    · intro w hSw; (try dsimp only at hSw); go_simp; try with_reducible rfl
                    simp only [Act.put, List.setIfInBounds_toArray, List.set_cons_zero, List.set_cons_succ]
                    refine wpAnyH_take (i := 10) (oi := { dst := some 37, op := Go.Op.fieldAddr 26 (Go.Operand.tmp 1) 0, type := 0, pos := "l04_graph.go:21", after := #[{ on := 7, ground := Go.Ground.guard }], guard := some (7, false) }) (v := ?_) rfl (by kernel_rfl) (by kernel_rfl) (by kernel_rfl) (fun _ _ _ h => h) (Or.inl ⟨by kernel_rfl, ?_⟩) (by assumption) ?_
                    rotate_left
                    · intro w hSw; (try dsimp only at hSw); go_simp; try with_reducible rfl
                    simp only [Act.put, List.setIfInBounds_toArray, List.set_cons_zero, List.set_cons_succ]
                    refine wpAnyH_take (i := 11) (oi := { dst := some 38, op := Go.Op.load 3 (Go.Operand.tmp 37), type := 3, pos := "l04_graph.go:21", after := #[{ on := 10, ground := Go.Ground.data }, { on := 7, ground := Go.Ground.guard }], guard := some (7, false) }) (v := ?_) rfl (by kernel_rfl) (by kernel_rfl) (by kernel_rfl) (fun _ _ _ h => h) (Or.inl ⟨by kernel_rfl, ?_⟩) (by assumption) ?_
                    rotate_left
                    · intro w hSw; (try dsimp only at hSw); go_simp; try with_reducible rfl
                    simp only [Act.put, List.setIfInBounds_toArray, List.set_cons_zero, List.set_cons_succ]
                    refine wpAnyH_take (i := 12) (oi := { dst := some 39, op := Go.Op.binOp Go.BinOp.sub 3 (Go.Operand.tmp 38) (Go.Operand.const (Go.Value.int Go.IntKind.i64 1)) 3, type := 3, pos := "l04_graph.go:21", after := #[{ on := 11, ground := Go.Ground.data }, { on := 7, ground := Go.Ground.guard }], guard := some (7, false) }) (v := ?_) rfl (by kernel_rfl) (by kernel_rfl) (by kernel_rfl) (fun _ _ _ h => h) (Or.inl ⟨by kernel_rfl, ?_⟩) (by assumption) ?_
                    rotate_left
                    · intro w hSw; (try dsimp only at hSw); go_simp; try with_reducible rfl
                    simp only [Act.put, List.setIfInBounds_toArray, List.set_cons_zero, List.set_cons_succ]
                    refine wpAnyH_ready (rs := [13]) (by kernel_rfl) (by simp) ?_
                    refine AllReadyH.cons (o := { dst := some 40, op := Go.Op.call { callee := Go.Callee.value (Go.Operand.func 46), args := #[Go.Operand.tmp 36, Go.Operand.const (Go.Value.int Go.IntKind.i64 0), Go.Operand.tmp 39], argTypes := #[3, 3, 3] }, type := 4, pos := "l04_graph.go:21", after := #[{ on := 9, ground := Go.Ground.data }, { on := 12, ground := Go.Ground.data }, { on := 7, ground := Go.Ground.chain }, { on := 7, ground := Go.Ground.guard }], guard := some (7, false) }) rfl (fun K hK => ?_) ?_
                    · go_simp
                      go_wp2_with (go_at_call 46; refine (HC1.out _).mono ?_; rintro e w1 ⟨rfl, rfl⟩)
                      refine hK.out _ _ hHeld (fun hHeld => ?_)
                      clear hK K
                      try simp only [Act.put, List.setIfInBounds_toArray, List.set_cons_zero, List.set_cons_succ]
                      refine wpAnyH_take (i := 14) (oi := { dst := some 41, op := Go.Op.unOp Go.UnOp.not 4 (Go.Operand.tmp 40), type := 4, pos := "l04_graph.go:21", after := #[{ on := 13, ground := Go.Ground.data }, { on := 7, ground := Go.Ground.guard }], guard := some (7, false) }) (v := ?_) rfl (by kernel_rfl) (by kernel_rfl) (by kernel_rfl) (fun _ _ _ h => h) (Or.inl ⟨by kernel_rfl, ?_⟩) (by assumption) ?_
                      rotate_left
                      · intro w hSw; (try dsimp only at hSw); go_simp; try with_reducible rfl
                      simp only [Act.put, List.setIfInBounds_toArray, List.set_cons_zero, List.set_cons_succ]
                      refine wpAnyH_take (i := 15) (oi := { dst := some 42, op := Go.Op.pick (Go.Operand.tmp 34) (Go.Operand.const (Go.Value.bool true)) (Go.Operand.tmp 41), type := 4, pos := "l04_graph.go:21", after := #[{ on := 7, ground := Go.Ground.data }, { on := 14, ground := Go.Ground.data }], guard := none }) (v := ?_) rfl (by kernel_rfl) (by kernel_rfl) (by kernel_rfl) (fun _ _ _ h => h) (Or.inl ⟨by kernel_rfl, ?_⟩) (by assumption) ?_
                      rotate_left
                      · intro w hSw; (try dsimp only at hSw); go_simp; try with_reducible rfl
                      simp only [Act.put, List.setIfInBounds_toArray, List.set_cons_zero, List.set_cons_succ]
                      refine wpAnyH_take (i := 16) (oi := { dst := some 43, op := Go.Op.move (Go.Operand.tmp 42), type := 4, pos := "l04_graph.go:21", after := #[{ on := 15, ground := Go.Ground.data }, { on := 13, ground := Go.Ground.chain }], guard := none }) (v := ?_) rfl (by kernel_rfl) (by kernel_rfl) (by kernel_rfl) (fun _ _ _ h => h) (Or.inl ⟨by kernel_rfl, ?_⟩) (by assumption) ?_
                      rotate_left
                      · intro w hSw; (try dsimp only at hSw); go_simp; try with_reducible rfl
                      simp only [Act.put, List.setIfInBounds_toArray, List.set_cons_zero, List.set_cons_succ]
                      refine wpAnyH_take (i := 17) (oi := { dst := some 44, op := Go.Op.fieldAddr 99 (Go.Operand.tmp 4) 1, type := 0, pos := "l04_graph.go:21", after := #[{ on := 16, ground := Go.Ground.guard }], guard := some (16, false) }) (v := ?_) rfl (by kernel_rfl) (by kernel_rfl) (by kernel_rfl) (fun _ _ _ h => h) (Or.inl ⟨by kernel_rfl, ?_⟩) (by assumption) ?_
                      rotate_left
                      · intro w hSw; (try dsimp only at hSw); go_simp; try with_reducible rfl
                      simp only [Act.put, List.setIfInBounds_toArray, List.set_cons_zero, List.set_cons_succ]
                      refine wpAnyH_take (i := 18) (oi := { dst := some 45, op := Go.Op.load 5 (Go.Operand.tmp 44), type := 5, pos := "l04_graph.go:21", after := #[{ on := 17, ground := Go.Ground.data }, { on := 16, ground := Go.Ground.guard }], guard := some (16, false) }) (v := ?_) rfl (by kernel_rfl) (by kernel_rfl) (by kernel_rfl) (fun _ _ _ h => h) (Or.inl ⟨by kernel_rfl, ?_⟩) (by assumption) ?_
                      rotate_left
                      · intro w hSw; (try dsimp only at hSw); go_simp; try with_reducible rfl
                      simp only [Act.put, List.setIfInBounds_toArray, List.set_cons_zero, List.set_cons_succ]
                      refine wpAnyH_take (i := 19) (oi := { dst := some 46, op := Go.Op.binOp Go.BinOp.lss 5 (Go.Operand.tmp 45) (Go.Operand.const (Go.Value.int Go.IntKind.u8 97)) 5, type := 4, pos := "l04_graph.go:21", after := #[{ on := 18, ground := Go.Ground.data }, { on := 16, ground := Go.Ground.guard }], guard := some (16, false) }) (v := ?_) rfl (by kernel_rfl) (by kernel_rfl) (by kernel_rfl) (fun _ _ _ h => h) (Or.inl ⟨by kernel_rfl, ?_⟩) (by assumption) ?_
                      rotate_left
                      · intro w hSw; (try dsimp only at hSw); go_simp; try with_reducible rfl
                      simp only [Act.put, List.setIfInBounds_toArray, List.set_cons_zero, List.set_cons_succ]
                      refine wpAnyH_take (i := 20) (oi := { dst := some 47, op := Go.Op.pick (Go.Operand.tmp 43) (Go.Operand.const (Go.Value.bool true)) (Go.Operand.tmp 46), type := 4, pos := "l04_graph.go:21", after := #[{ on := 16, ground := Go.Ground.data }, { on := 19, ground := Go.Ground.data }], guard := none }) (v := ?_) rfl (by kernel_rfl) (by kernel_rfl) (by kernel_rfl) (fun _ _ _ h => h) (Or.inl ⟨by kernel_rfl, ?_⟩) (by assumption) ?_
                      rotate_left
                      · intro w hSw; (try dsimp only at hSw); go_simp; try with_reducible rfl
                      simp only [Act.put, List.setIfInBounds_toArray, List.set_cons_zero, List.set_cons_succ]
                      refine wpAnyH_take (i := 21) (oi := { dst := some 48, op := Go.Op.move (Go.Operand.tmp 47), type := 4, pos := "l04_graph.go:21", after := #[{ on := 20, ground := Go.Ground.data }, { on := 16, ground := Go.Ground.chain }], guard := none }) (v := ?_) rfl (by kernel_rfl) (by kernel_rfl) (by kernel_rfl) (fun _ _ _ h => h) (Or.inl ⟨by kernel_rfl, ?_⟩) (by assumption) ?_
                      rotate_left
                      · intro w hSw; (try dsimp only at hSw); go_simp; try with_reducible rfl
                      simp only [Act.put, List.setIfInBounds_toArray, List.set_cons_zero, List.set_cons_succ]
                      refine wpAnyH_take (i := 22) (oi := { dst := some 49, op := Go.Op.fieldAddr 99 (Go.Operand.tmp 4) 1, type := 0, pos := "l04_graph.go:21", after := #[{ on := 21, ground := Go.Ground.guard }], guard := some (21, false) }) (v := ?_) rfl (by kernel_rfl) (by kernel_rfl) (by kernel_rfl) (fun _ _ _ h => h) (Or.inl ⟨by kernel_rfl, ?_⟩) (by assumption) ?_
                      rotate_left
                      · intro w hSw; (try dsimp only at hSw); go_simp; try with_reducible rfl
                      simp only [Act.put, List.setIfInBounds_toArray, List.set_cons_zero, List.set_cons_succ]
                      refine wpAnyH_take (i := 23) (oi := { dst := some 50, op := Go.Op.load 5 (Go.Operand.tmp 49), type := 5, pos := "l04_graph.go:21", after := #[{ on := 22, ground := Go.Ground.data }, { on := 21, ground := Go.Ground.guard }], guard := some (21, false) }) (v := ?_) rfl (by kernel_rfl) (by kernel_rfl) (by kernel_rfl) (fun _ _ _ h => h) (Or.inl ⟨by kernel_rfl, ?_⟩) (by assumption) ?_
                      rotate_left
                      · intro w hSw; (try dsimp only at hSw); go_simp; try with_reducible rfl
                      simp only [Act.put, List.setIfInBounds_toArray, List.set_cons_zero, List.set_cons_succ]
                      refine wpAnyH_take (i := 24) (oi := { dst := some 51, op := Go.Op.binOp Go.BinOp.gtr 5 (Go.Operand.tmp 50) (Go.Operand.const (Go.Value.int Go.IntKind.u8 100)) 5, type := 4, pos := "l04_graph.go:21", after := #[{ on := 23, ground := Go.Ground.data }, { on := 21, ground := Go.Ground.guard }], guard := some (21, false) }) (v := ?_) rfl (by kernel_rfl) (by kernel_rfl) (by kernel_rfl) (fun _ _ _ h => h) (Or.inl ⟨by kernel_rfl, ?_⟩) (by assumption) ?_
                      rotate_left
                      · intro w hSw; (try dsimp only at hSw); go_simp; try with_reducible rfl
                      simp only [Act.put, List.setIfInBounds_toArray, List.set_cons_zero, List.set_cons_succ]
                      refine wpAnyH_take (i := 25) (oi := { dst := some 52, op := Go.Op.pick (Go.Operand.tmp 48) (Go.Operand.const (Go.Value.bool true)) (Go.Operand.tmp 51), type := 4, pos := "l04_graph.go:21", after := #[{ on := 21, ground := Go.Ground.data }, { on := 24, ground := Go.Ground.data }], guard := none }) (v := ?_) rfl (by kernel_rfl) (by kernel_rfl) (by kernel_rfl) (fun _ _ _ h => h) (Or.inl ⟨by kernel_rfl, ?_⟩) (by assumption) ?_
                      rotate_left
                      · intro w hSw; (try dsimp only at hSw); go_simp; try with_reducible rfl
                      simp only [Act.put, List.setIfInBounds_toArray, List.set_cons_zero, List.set_cons_succ]
                      refine wpAnyH_take (i := 26) (oi := { dst := some 53, op := Go.Op.move (Go.Operand.tmp 52), type := 4, pos := "l04_graph.go:21", after := #[{ on := 25, ground := Go.Ground.data }, { on := 21, ground := Go.Ground.chain }], guard := none }) (v := ?_) rfl (by kernel_rfl) (by kernel_rfl) (by kernel_rfl) (fun _ _ _ h => h) (Or.inl ⟨by kernel_rfl, ?_⟩) (by assumption) ?_
                      rotate_left
                      · intro w hSw; (try dsimp only at hSw); go_simp; try with_reducible rfl
                      simp only [Act.put, List.setIfInBounds_toArray, List.set_cons_zero, List.set_cons_succ]
                      refine wpAnyH_take (i := 27) (oi := { dst := some 54, op := Go.Op.move (Go.Operand.tmp 3), type := 3, pos := "l04_graph.go:21", after := #[{ on := 26, ground := Go.Ground.guard }], guard := some (26, false) }) (v := undef) rfl (by kernel_rfl) (by kernel_rfl) (by kernel_rfl) (fun _ _ _ h => h) (Or.inr ⟨by kernel_rfl, rfl⟩) (by assumption) ?_
                      simp only [Act.put, List.setIfInBounds_toArray, List.set_cons_zero, List.set_cons_succ]
                      refine wpAnyH_take (i := 28) (oi := { dst := some 55, op := Go.Op.binOp Go.BinOp.gtr 3 (Go.Operand.tmp 54) (Go.Operand.const (Go.Value.int Go.IntKind.i64 0)) 3, type := 4, pos := "l04_graph.go:21", after := #[{ on := 27, ground := Go.Ground.data }, { on := 26, ground := Go.Ground.guard }], guard := some (26, false) }) (v := undef) rfl (by kernel_rfl) (by kernel_rfl) (by kernel_rfl) (fun _ _ _ h => h) (Or.inr ⟨by kernel_rfl, rfl⟩) (by assumption) ?_
                      simp only [Act.put, List.setIfInBounds_toArray, List.set_cons_zero, List.set_cons_succ]
                      refine wpAnyH_take (i := 29) (oi := { dst := some 56, op := Go.Op.move (Go.Operand.tmp 55), type := 4, pos := "l04_graph.go:21", after := #[{ on := 28, ground := Go.Ground.data }, { on := 26, ground := Go.Ground.chain }, { on := 26, ground := Go.Ground.guard }], guard := some (26, false) }) (v := undef) rfl (by kernel_rfl) (by kernel_rfl) (by kernel_rfl) (fun _ _ _ h => h) (Or.inr ⟨by kernel_rfl, rfl⟩) (by assumption) ?_
                      simp only [Act.put, List.setIfInBounds_toArray, List.set_cons_zero, List.set_cons_succ]
                      refine wpAnyH_take (i := 30) (oi := { dst := some 57, op := Go.Op.fieldAddr 26 (Go.Operand.tmp 1) 1, type := 0, pos := "l04_graph.go:21", after := #[{ on := 29, ground := Go.Ground.guard }], guard := some (29, true) }) (v := undef) rfl (by kernel_rfl) (by kernel_rfl) (by kernel_rfl) (fun _ _ _ h => h) (Or.inr ⟨by kernel_rfl, rfl⟩) (by assumption) ?_
                      simp only [Act.put, List.setIfInBounds_toArray, List.set_cons_zero, List.set_cons_succ]
                      refine wpAnyH_take (i := 31) (oi := { dst := some 58, op := Go.Op.load 24 (Go.Operand.tmp 57), type := 24, pos := "l04_graph.go:21", after := #[{ on := 30, ground := Go.Ground.data }, { on := 29, ground := Go.Ground.guard }], guard := some (29, true) }) (v := undef) rfl (by kernel_rfl) (by kernel_rfl) (by kernel_rfl) (fun _ _ _ h => h) (Or.inr ⟨by kernel_rfl, rfl⟩) (by assumption) ?_
                      simp only [Act.put, List.setIfInBounds_toArray, List.set_cons_zero, List.set_cons_succ]
                      refine wpAnyH_take (i := 32) (oi := { dst := some 59, op := Go.Op.move (Go.Operand.tmp 3), type := 3, pos := "l04_graph.go:21", after := #[{ on := 29, ground := Go.Ground.guard }], guard := some (29, true) }) (v := undef) rfl (by kernel_rfl) (by kernel_rfl) (by kernel_rfl) (fun _ _ _ h => h) (Or.inr ⟨by kernel_rfl, rfl⟩) (by assumption) ?_
                      simp only [Act.put, List.setIfInBounds_toArray, List.set_cons_zero, List.set_cons_succ]
                      refine wpAnyH_take (i := 33) (oi := { dst := some 60, op := Go.Op.binOp Go.BinOp.sub 3 (Go.Operand.tmp 59) (Go.Operand.const (Go.Value.int Go.IntKind.i64 1)) 3, type := 3, pos := "l04_graph.go:21", after := #[{ on := 32, ground := Go.Ground.data }, { on := 29, ground := Go.Ground.guard }], guard := some (29, true) }) (v := undef) rfl (by kernel_rfl) (by kernel_rfl) (by kernel_rfl) (fun _ _ _ h => h) (Or.inr ⟨by kernel_rfl, rfl⟩) (by assumption) ?_
                      simp only [Act.put, List.setIfInBounds_toArray, List.set_cons_zero, List.set_cons_succ]
                      refine wpAnyH_take (i := 34) (oi := { dst := some 61, op := Go.Op.indexAddr 24 (Go.Operand.tmp 58) (Go.Operand.tmp 60), type := 0, pos := "l04_graph.go:21", after := #[{ on := 31, ground := Go.Ground.data }, { on := 33, ground := Go.Ground.data }, { on := 29, ground := Go.Ground.guard }], guard := some (29, true) }) (v := undef) rfl (by kernel_rfl) (by kernel_rfl) (by kernel_rfl) (fun _ _ _ h => h) (Or.inr ⟨by kernel_rfl, rfl⟩) (by assumption) ?_
                      simp only [Act.put, List.setIfInBounds_toArray, List.set_cons_zero, List.set_cons_succ]
                      refine wpAnyH_take (i := 35) (oi := { dst := some 62, op := Go.Op.load 99 (Go.Operand.tmp 61), type := 99, pos := "l04_graph.go:21", after := #[{ on := 34, ground := Go.Ground.data }, { on := 29, ground := Go.Ground.guard }], guard := some (29, true) }) (v := undef) rfl (by kernel_rfl) (by kernel_rfl) (by kernel_rfl) (fun _ _ _ h => h) (Or.inr ⟨by kernel_rfl, rfl⟩) (by assumption) ?_
                      simp only [Act.put, List.setIfInBounds_toArray, List.set_cons_zero, List.set_cons_succ]
                      refine wpAnyH_take (i := 36) (oi := { dst := some 63, op := Go.Op.load 99 (Go.Operand.tmp 4), type := 99, pos := "l04_graph.go:21", after := #[{ on := 29, ground := Go.Ground.guard }], guard := some (29, true) }) (v := undef) rfl (by kernel_rfl) (by kernel_rfl) (by kernel_rfl) (fun _ _ _ h => h) (Or.inr ⟨by kernel_rfl, rfl⟩) (by assumption) ?_
                      simp only [Act.put, List.setIfInBounds_toArray, List.set_cons_zero, List.set_cons_succ]
                      refine wpAnyH_ready (rs := [37]) (by kernel_rfl) (by simp) ?_
                      refine AllReadyH.cons (o := { dst := some 64, op := Go.Op.call { callee := Go.Callee.value (Go.Operand.func 66), args := #[Go.Operand.tmp 62, Go.Operand.tmp 63], argTypes := #[99, 99] }, type := 4, pos := "l04_graph.go:21", after := #[{ on := 35, ground := Go.Ground.data }, { on := 36, ground := Go.Ground.data }, { on := 29, ground := Go.Ground.chain }, { on := 29, ground := Go.Ground.guard }], guard := some (29, true) }) rfl (fun K hK => ?_) ?_
                      · rw [if_neg (by refine Bool.eq_false_iff.1 ?_; kernel_rfl)]
                        refine hK.out _ _ hHeld (fun hHeld => ?_)
                        clear hK K
                        try simp only [Act.put, List.setIfInBounds_toArray, List.set_cons_zero, List.set_cons_succ]
                        refine wpAnyH_take (i := 38) (oi := { dst := some 65, op := Go.Op.unOp Go.UnOp.not 4 (Go.Operand.tmp 64), type := 4, pos := "l04_graph.go:21", after := #[{ on := 37, ground := Go.Ground.data }, { on := 29, ground := Go.Ground.guard }], guard := some (29, true) }) (v := undef) rfl (by kernel_rfl) (by kernel_rfl) (by kernel_rfl) (fun _ _ _ h => h) (Or.inr ⟨by kernel_rfl, rfl⟩) (by assumption) ?_
                        simp only [Act.put, List.setIfInBounds_toArray, List.set_cons_zero, List.set_cons_succ]
                        refine wpAnyH_take (i := 39) (oi := { dst := some 66, op := Go.Op.pick (Go.Operand.tmp 56) (Go.Operand.tmp 65) (Go.Operand.const (Go.Value.bool false)), type := 4, pos := "l04_graph.go:21", after := #[{ on := 29, ground := Go.Ground.data }, { on := 38, ground := Go.Ground.data }, { on := 26, ground := Go.Ground.guard }], guard := some (26, false) }) (v := undef) rfl (by kernel_rfl) (by kernel_rfl) (by kernel_rfl) (fun _ _ _ h => h) (Or.inr ⟨by kernel_rfl, rfl⟩) (by assumption) ?_
                        simp only [Act.put, List.setIfInBounds_toArray, List.set_cons_zero, List.set_cons_succ]
                        refine wpAnyH_take (i := 40) (oi := { dst := some 67, op := Go.Op.pick (Go.Operand.tmp 53) (Go.Operand.const (Go.Value.bool true)) (Go.Operand.tmp 66), type := 4, pos := "l04_graph.go:21", after := #[{ on := 26, ground := Go.Ground.data }, { on := 39, ground := Go.Ground.data }], guard := none }) (v := ?_) rfl (by kernel_rfl) (by kernel_rfl) (by kernel_rfl) (fun _ _ _ h => h) (Or.inl ⟨by kernel_rfl, ?_⟩) (by assumption) ?_
                        rotate_left
                        · intro w hSw; (try dsimp only at hSw); go_simp; try with_reducible rfl
                        simp only [Act.put, List.setIfInBounds_toArray, List.set_cons_zero, List.set_cons_succ]
                        refine wpAnyH_done (by kernel_rfl) ?_ _
                        clear hHeld
                        go_wp2
                        go_ret
                        refine ⟨?_, HLW.out.drew⟩
                        have : r = false := by rw [HR.out]; exact okG_no (k := k) (by rw [HN.out]; exact hlt) (okGAt_no HOE.out)
                        rw [this]; rfl
                      exact AllReadyH.nil
                    exact AllReadyH.nil
                  exact AllReadyH.nil
              · have hd7 : decide (x1 < 97) = true := by simp; omega
                rw [decide_eq_false h97, Bool.and_false, Bool.false_and] at HOE
                have HKS : Hid (∀ w', Below W.heap.size W w' → ((w'.cell? ⟨w.heap.size, 0, none⟩ = some (.int .i64 s) ∧ w'.cell? ⟨w.heap.size, 1, none⟩ = some (.slice (some ⟨b, o, none⟩) n cap)) ∧ (w'.cell? ⟨wr.heap.size, 0, none⟩ = some (.int .i64 x0) ∧ w'.cell? ⟨wr.heap.size, 1, none⟩ = some (.int .u8 x1) ∧ w'.cell? ⟨wr.heap.size, 2, none⟩ = some (.int .i64 x2)))) := fun w' h => ⟨⟨cell_below g0 h (lt_of_cell g0), cell_below g1 h (lt_of_cell g1)⟩, ⟨cell_below e0 h (lt_of_cell e0), cell_below e1 h (lt_of_cell e1), cell_below e2 h (lt_of_cell e2)⟩⟩
                refine wp_region_held_drew (S := fun w' => (w'.cell? ⟨w.heap.size, 0, none⟩ = some (.int .i64 s) ∧ w'.cell? ⟨w.heap.size, 1, none⟩ = some (.slice (some ⟨b, o, none⟩) n cap)) ∧ (w'.cell? ⟨wr.heap.size, 0, none⟩ = some (.int .i64 x0) ∧ w'.cell? ⟨wr.heap.size, 1, none⟩ = some (.int .u8 x1) ∧ w'.cell? ⟨wr.heap.size, 2, none⟩ = some (.int .i64 x2))) (by kernel_rfl) (HKS.out _ ((Below.refl _ _).drew)) (fun hHeld => ?_)
                refine wpAnyH_take (i := 0) (oi := { dst := some 27, op := Go.Op.fieldAddr 99 (Go.Operand.tmp 4) 0, type := 0, pos := "l04_graph.go:21", after := #[], guard := none }) (v := ?_) rfl (by kernel_rfl) (by kernel_rfl) (by kernel_rfl) (fun _ _ _ h => h) (Or.inl ⟨by kernel_rfl, ?_⟩) (by assumption) ?_
                rotate_left
                · intro w hSw; (try dsimp only at hSw); go_simp; try with_reducible rfl
                simp only [Act.put, List.setIfInBounds_toArray, List.set_cons_zero, List.set_cons_succ]
                refine wpAnyH_take (i := 1) (oi := { dst := some 28, op := Go.Op.load 3 (Go.Operand.tmp 27), type := 3, pos := "l04_graph.go:21", after := #[{ on := 0, ground := Go.Ground.data }], guard := none }) (v := ?_) rfl (by kernel_rfl) (by kernel_rfl) (by kernel_rfl) (fun _ _ _ h => h) (Or.inl ⟨by kernel_rfl, ?_⟩) (by assumption) ?_
                rotate_left
                · intro w hSw; (try dsimp only at hSw); go_simp; try with_reducible rfl
                simp only [Act.put, List.setIfInBounds_toArray, List.set_cons_zero, List.set_cons_succ]
                refine wpAnyH_take (i := 2) (oi := { dst := some 29, op := Go.Op.fieldAddr 26 (Go.Operand.tmp 1) 0, type := 0, pos := "l04_graph.go:21", after := #[], guard := none }) (v := ?_) rfl (by kernel_rfl) (by kernel_rfl) (by kernel_rfl) (fun _ _ _ h => h) (Or.inl ⟨by kernel_rfl, ?_⟩) (by assumption) ?_
                rotate_left
                · intro w hSw; (try dsimp only at hSw); go_simp; try with_reducible rfl
                simp only [Act.put, List.setIfInBounds_toArray, List.set_cons_zero, List.set_cons_succ]
                refine wpAnyH_take (i := 3) (oi := { dst := some 30, op := Go.Op.load 3 (Go.Operand.tmp 29), type := 3, pos := "l04_graph.go:21", after := #[{ on := 2, ground := Go.Ground.data }], guard := none }) (v := ?_) rfl (by kernel_rfl) (by kernel_rfl) (by kernel_rfl) (fun _ _ _ h => h) (Or.inl ⟨by kernel_rfl, ?_⟩) (by assumption) ?_
                rotate_left
                · intro w hSw; (try dsimp only at hSw); go_simp; try with_reducible rfl
                simp only [Act.put, List.setIfInBounds_toArray, List.set_cons_zero, List.set_cons_succ]
                refine wpAnyH_take (i := 4) (oi := { dst := some 31, op := Go.Op.binOp Go.BinOp.sub 3 (Go.Operand.tmp 30) (Go.Operand.const (Go.Value.int Go.IntKind.i64 1)) 3, type := 3, pos := "l04_graph.go:21", after := #[{ on := 3, ground := Go.Ground.data }], guard := none }) (v := ?_) rfl (by kernel_rfl) (by kernel_rfl) (by kernel_rfl) (fun _ _ _ h => h) (Or.inl ⟨by kernel_rfl, ?_⟩) (by assumption) ?_
                rotate_left
                · intro w hSw; (try dsimp only at hSw); go_simp; try with_reducible rfl
                simp only [Act.put, List.setIfInBounds_toArray, List.set_cons_zero, List.set_cons_succ]
                refine wpAnyH_ready (rs := [5]) (by kernel_rfl) (by simp) ?_
                refine AllReadyH.cons (o := { dst := some 32, op := Go.Op.call { callee := Go.Callee.value (Go.Operand.func 46), args := #[Go.Operand.tmp 28, Go.Operand.const (Go.Value.int Go.IntKind.i64 0), Go.Operand.tmp 31], argTypes := #[3, 3, 3] }, type := 4, pos := "l04_graph.go:21", after := #[{ on := 1, ground := Go.Ground.data }, { on := 4, ground := Go.Ground.data }], guard := none }) rfl (fun K hK => ?_) ?_
                · go_simp
                  go_wp2_with (go_at_call 46; refine (HC0.out _).mono ?_; rintro e w1 ⟨rfl, rfl⟩)
                  refine hK.out _ _ hHeld (fun hHeld => ?_)
                  clear hK K
                  try simp only [Act.put, List.setIfInBounds_toArray, List.set_cons_zero, List.set_cons_succ]
                  refine wpAnyH_take (i := 6) (oi := { dst := some 33, op := Go.Op.unOp Go.UnOp.not 4 (Go.Operand.tmp 32), type := 4, pos := "l04_graph.go:21", after := #[{ on := 5, ground := Go.Ground.data }], guard := none }) (v := ?_) rfl (by kernel_rfl) (by kernel_rfl) (by kernel_rfl) (fun _ _ _ h => h) (Or.inl ⟨by kernel_rfl, ?_⟩) (by assumption) ?_
                  rotate_left
                  · intro w hSw; (try dsimp only at hSw); go_simp; try with_reducible rfl
                  simp only [Act.put, List.setIfInBounds_toArray, List.set_cons_zero, List.set_cons_succ]
                  refine wpAnyH_take (i := 7) (oi := { dst := some 34, op := Go.Op.move (Go.Operand.tmp 33), type := 4, pos := "l04_graph.go:21", after := #[{ on := 6, ground := Go.Ground.data }, { on := 5, ground := Go.Ground.chain }], guard := none }) (v := ?_) rfl (by kernel_rfl) (by kernel_rfl) (by kernel_rfl) (fun _ _ _ h => h) (Or.inl ⟨by kernel_rfl, ?_⟩) (by assumption) ?_
                  rotate_left
                  · intro w hSw; (try dsimp only at hSw); go_simp; try with_reducible rfl
                  simp only [Act.put, List.setIfInBounds_toArray, List.set_cons_zero, List.set_cons_succ]
                  refine wpAnyH_take (i := 8) (oi := { dst := some 35, op := Go.Op.fieldAddr 99 (Go.Operand.tmp 4) 2, type := 0, pos := "l04_graph.go:21", after := #[{ on := 7, ground := Go.Ground.guard }], guard := some (7, false) }) (v := ?_) rfl (by kernel_rfl) (by kernel_rfl) (by kernel_rfl) (fun _ _ _ h => h) (Or.inl ⟨by kernel_rfl, ?_⟩) (by assumption) ?_
                  rotate_left
                  · intro w hSw; (try dsimp only at hSw); go_simp; try with_reducible rfl
                  simp only [Act.put, List.setIfInBounds_toArray, List.set_cons_zero, List.set_cons_succ]
                  refine wpAnyH_take (i := 9) (oi := { dst := some 36, op := Go.Op.load 3 (Go.Operand.tmp 35), type := 3, pos := "l04_graph.go:21", after := #[{ on := 8, ground := Go.Ground.data }, { on := 7, ground := Go.Ground.guard }], guard := some (7, false) }) (v := ?_) rfl (by kernel_rfl) (by kernel_rfl) (by kernel_rfl) (fun _ _ _ h => h) (Or.inl ⟨by kernel_rfl, ?_⟩) (by assumption) ?_
                  rotate_left
                  · intro w hSw; (try dsimp only at hSw); go_simp; try with_reducible rfl
                  simp only [Act.put, List.setIfInBounds_toArray, List.set_cons_zero, List.set_cons_succ]
                  refine wpAnyH_take (i := 10) (oi := { dst := some 37, op := Go.Op.fieldAddr 26 (Go.Operand.tmp 1) 0, type := 0, pos := "l04_graph.go:21", after := #[{ on := 7, ground := Go.Ground.guard }], guard := some (7, false) }) (v := ?_) rfl (by kernel_rfl) (by kernel_rfl) (by kernel_rfl) (fun _ _ _ h => h) (Or.inl ⟨by kernel_rfl, ?_⟩) (by assumption) ?_
                  rotate_left
                  · intro w hSw; (try dsimp only at hSw); go_simp; try with_reducible rfl
                  simp only [Act.put, List.setIfInBounds_toArray, List.set_cons_zero, List.set_cons_succ]
                  refine wpAnyH_take (i := 11) (oi := { dst := some 38, op := Go.Op.load 3 (Go.Operand.tmp 37), type := 3, pos := "l04_graph.go:21", after := #[{ on := 10, ground := Go.Ground.data }, { on := 7, ground := Go.Ground.guard }], guard := some (7, false) }) (v := ?_) rfl (by kernel_rfl) (by kernel_rfl) (by kernel_rfl) (fun _ _ _ h => h) (Or.inl ⟨by kernel_rfl, ?_⟩) (by assumption) ?_
                  rotate_left
                  · intro w hSw; (try dsimp only at hSw); go_simp; try with_reducible rfl
                  simp only [Act.put, List.setIfInBounds_toArray, List.set_cons_zero, List.set_cons_succ]
                  refine wpAnyH_take (i := 12) (oi := { dst := some 39, op := Go.Op.binOp Go.BinOp.sub 3 (Go.Operand.tmp 38) (Go.Operand.const (Go.Value.int Go.IntKind.i64 1)) 3, type := 3, pos := "l04_graph.go:21", after := #[{ on := 11, ground := Go.Ground.data }, { on := 7, ground := Go.Ground.guard }], guard := some (7, false) }) (v := ?_) rfl (by kernel_rfl) (by kernel_rfl) (by kernel_rfl) (fun _ _ _ h => h) (Or.inl ⟨by kernel_rfl, ?_⟩) (by assumption) ?_
                  rotate_left
                  · intro w hSw; (try dsimp only at hSw); go_simp; try with_reducible rfl
                  simp only [Act.put, List.setIfInBounds_toArray, List.set_cons_zero, List.set_cons_succ]
                  refine wpAnyH_ready (rs := [13]) (by kernel_rfl) (by simp) ?_
                  refine AllReadyH.cons (o := { dst := some 40, op := Go.Op.call { callee := Go.Callee.value (Go.Operand.func 46), args := #[Go.Operand.tmp 36, Go.Operand.const (Go.Value.int Go.IntKind.i64 0), Go.Operand.tmp 39], argTypes := #[3, 3, 3] }, type := 4, pos := "l04_graph.go:21", after := #[{ on := 9, ground := Go.Ground.data }, { on := 12, ground := Go.Ground.data }, { on := 7, ground := Go.Ground.chain }, { on := 7, ground := Go.Ground.guard }], guard := some (7, false) }) rfl (fun K hK => ?_) ?_
                  · go_simp
                    go_wp2_with (go_at_call 46; refine (HC1.out _).mono ?_; rintro e w1 ⟨rfl, rfl⟩)
                    refine hK.out _ _ hHeld (fun hHeld => ?_)
                    clear hK K
                    try simp only [Act.put, List.setIfInBounds_toArray, List.set_cons_zero, List.set_cons_succ]
                    refine wpAnyH_take (i := 14) (oi := { dst := some 41, op := Go.Op.unOp Go.UnOp.not 4 (Go.Operand.tmp 40), type := 4, pos := "l04_graph.go:21", after := #[{ on := 13, ground := Go.Ground.data }, { on := 7, ground := Go.Ground.guard }], guard := some (7, false) }) (v := ?_) rfl (by kernel_rfl) (by kernel_rfl) (by kernel_rfl) (fun _ _ _ h => h) (Or.inl ⟨by kernel_rfl, ?_⟩) (by assumption) ?_
                    rotate_left
                    · intro w hSw; (try dsimp only at hSw); go_simp; try with_reducible rfl
                    simp only [Act.put, List.setIfInBounds_toArray, List.set_cons_zero, List.set_cons_succ]
                    refine wpAnyH_take (i := 15) (oi := { dst := some 42, op := Go.Op.pick (Go.Operand.tmp 34) (Go.Operand.const (Go.Value.bool true)) (Go.Operand.tmp 41), type := 4, pos := "l04_graph.go:21", after := #[{ on := 7, ground := Go.Ground.data }, { on := 14, ground := Go.Ground.data }], guard := none }) (v := ?_) rfl (by kernel_rfl) (by kernel_rfl) (by kernel_rfl) (fun _ _ _ h => h) (Or.inl ⟨by kernel_rfl, ?_⟩) (by assumption) ?_
                    rotate_left
                    · intro w hSw; (try dsimp only at hSw); go_simp; try with_reducible rfl
                    simp only [Act.put, List.setIfInBounds_toArray, List.set_cons_zero, List.set_cons_succ]
                    refine wpAnyH_take (i := 16) (oi := { dst := some 43, op := Go.Op.move (Go.Operand.tmp 42), type := 4, pos := "l04_graph.go:21", after := #[{ on := 15, ground := Go.Ground.data }, { on := 13, ground := Go.Ground.chain }], guard := none }) (v := ?_) rfl (by kernel_rfl) (by kernel_rfl) (by kernel_rfl) (fun _ _ _ h => h) (Or.inl ⟨by kernel_rfl, ?_⟩) (by assumption) ?_
                    rotate_left
                    · intro w hSw; (try dsimp only at hSw); go_simp; try with_reducible rfl
                    simp only [Act.put, List.setIfInBounds_toArray, List.set_cons_zero, List.set_cons_succ]
                    refine wpAnyH_take (i := 17) (oi := { dst := some 44, op := Go.Op.fieldAddr 99 (Go.Operand.tmp 4) 1, type := 0, pos := "l04_graph.go:21", after := #[{ on := 16, ground := Go.Ground.guard }], guard := some (16, false) }) (v := ?_) rfl (by kernel_rfl) (by kernel_rfl) (by kernel_rfl) (fun _ _ _ h => h) (Or.inl ⟨by kernel_rfl, ?_⟩) (by assumption) ?_
                    rotate_left
                    · intro w hSw; (try dsimp only at hSw); go_simp; try with_reducible rfl
                    simp only [Act.put, List.setIfInBounds_toArray, List.set_cons_zero, List.set_cons_succ]
                    refine wpAnyH_take (i := 18) (oi := { dst := some 45, op := Go.Op.load 5 (Go.Operand.tmp 44), type := 5, pos := "l04_graph.go:21", after := #[{ on := 17, ground := Go.Ground.data }, { on := 16, ground := Go.Ground.guard }], guard := some (16, false) }) (v := ?_) rfl (by kernel_rfl) (by kernel_rfl) (by kernel_rfl) (fun _ _ _ h => h) (Or.inl ⟨by kernel_rfl, ?_⟩) (by assumption) ?_
                    rotate_left
                    · intro w hSw; (try dsimp only at hSw); go_simp; try with_reducible rfl
                    simp only [Act.put, List.setIfInBounds_toArray, List.set_cons_zero, List.set_cons_succ]
                    refine wpAnyH_take (i := 19) (oi := { dst := some 46, op := Go.Op.binOp Go.BinOp.lss 5 (Go.Operand.tmp 45) (Go.Operand.const (Go.Value.int Go.IntKind.u8 97)) 5, type := 4, pos := "l04_graph.go:21", after := #[{ on := 18, ground := Go.Ground.data }, { on := 16, ground := Go.Ground.guard }], guard := some (16, false) }) (v := ?_) rfl (by kernel_rfl) (by kernel_rfl) (by kernel_rfl) (fun _ _ _ h => h) (Or.inl ⟨by kernel_rfl, ?_⟩) (by assumption) ?_
                    rotate_left
                    · intro w hSw; (try dsimp only at hSw); go_simp; try with_reducible rfl
                    simp only [Act.put, List.setIfInBounds_toArray, List.set_cons_zero, List.set_cons_succ]
                    refine wpAnyH_take (i := 20) (oi := { dst := some 47, op := Go.Op.pick (Go.Operand.tmp 43) (Go.Operand.const (Go.Value.bool true)) (Go.Operand.tmp 46), type := 4, pos := "l04_graph.go:21", after := #[{ on := 16, ground := Go.Ground.data }, { on := 19, ground := Go.Ground.data }], guard := none }) (v := ?_) rfl (by kernel_rfl) (by kernel_rfl) (by kernel_rfl) (fun _ _ _ h => h) (Or.inl ⟨by kernel_rfl, ?_⟩) (by assumption) ?_
                    rotate_left
                    · intro w hSw; (try dsimp only at hSw); go_simp; try with_reducible rfl
                    simp only [Act.put, List.setIfInBounds_toArray, List.set_cons_zero, List.set_cons_succ]
                    refine wpAnyH_take (i := 21) (oi := { dst := some 48, op := Go.Op.move (Go.Operand.tmp 47), type := 4, pos := "l04_graph.go:21", after := #[{ on := 20, ground := Go.Ground.data }, { on := 16, ground := Go.Ground.chain }], guard := none }) (v := ?_) rfl (by kernel_rfl) (by kernel_rfl) (by kernel_rfl) (fun _ _ _ h => h) (Or.inl ⟨by kernel_rfl, ?_⟩) (by assumption) ?_
                    rotate_left
                    · intro w hSw; (try dsimp only at hSw); go_simp; try with_reducible rfl
                    simp only [Act.put, List.setIfInBounds_toArray, List.set_cons_zero, List.set_cons_succ]
                    refine wpAnyH_take (i := 22) (oi := { dst := some 49, op := Go.Op.fieldAddr 99 (Go.Operand.tmp 4) 1, type := 0, pos := "l04_graph.go:21", after := #[{ on := 21, ground := Go.Ground.guard }], guard := some (21, false) }) (v := undef) rfl (by kernel_rfl) (by kernel_rfl) (by kernel_rfl) (fun _ _ _ h => h) (Or.inr ⟨by kernel_rfl, rfl⟩) (by assumption) ?_
                    simp only [Act.put, List.setIfInBounds_toArray, List.set_cons_zero, List.set_cons_succ]
                    refine wpAnyH_take (i := 23) (oi := { dst := some 50, op := Go.Op.load 5 (Go.Operand.tmp 49), type := 5, pos := "l04_graph.go:21", after := #[{ on := 22, ground := Go.Ground.data }, { on := 21, ground := Go.Ground.guard }], guard := some (21, false) }) (v := undef) rfl (by kernel_rfl) (by kernel_rfl) (by kernel_rfl) (fun _ _ _ h => h) (Or.inr ⟨by kernel_rfl, rfl⟩) (by assumption) ?_
                    simp only [Act.put, List.setIfInBounds_toArray, List.set_cons_zero, List.set_cons_succ]
                    refine wpAnyH_take (i := 24) (oi := { dst := some 51, op := Go.Op.binOp Go.BinOp.gtr 5 (Go.Operand.tmp 50) (Go.Operand.const (Go.Value.int Go.IntKind.u8 100)) 5, type := 4, pos := "l04_graph.go:21", after := #[{ on := 23, ground := Go.Ground.data }, { on := 21, ground := Go.Ground.guard }], guard := some (21, false) }) (v := undef) rfl (by kernel_rfl) (by kernel_rfl) (by kernel_rfl) (fun _ _ _ h => h) (Or.inr ⟨by kernel_rfl, rfl⟩) (by assumption) ?_
                    simp only [Act.put, List.setIfInBounds_toArray, List.set_cons_zero, List.set_cons_succ]
                    refine wpAnyH_take (i := 25) (oi := { dst := some 52, op := Go.Op.pick (Go.Operand.tmp 48) (Go.Operand.const (Go.Value.bool true)) (Go.Operand.tmp 51), type := 4, pos := "l04_graph.go:21", after := #[{ on := 21, ground := Go.Ground.data }, { on := 24, ground := Go.Ground.data }], guard := none }) (v := ?_) rfl (by kernel_rfl) (by kernel_rfl) (by kernel_rfl) (fun _ _ _ h => h) (Or.inl ⟨by kernel_rfl, ?_⟩) (by assumption) ?_
                    rotate_left
                    · intro w hSw; (try dsimp only at hSw); go_simp; try with_reducible rfl
                    simp only [Act.put, List.setIfInBounds_toArray, List.set_cons_zero, List.set_cons_succ]
                    refine wpAnyH_take (i := 26) (oi := { dst := some 53, op := Go.Op.move (Go.Operand.tmp 52), type := 4, pos := "l04_graph.go:21", after := #[{ on := 25, ground := Go.Ground.data }, { on := 21, ground := Go.Ground.chain }], guard := none }) (v := ?_) rfl (by kernel_rfl) (by kernel_rfl) (by kernel_rfl) (fun _ _ _ h => h) (Or.inl ⟨by kernel_rfl, ?_⟩) (by assumption) ?_
                    rotate_left
                    · intro w hSw; (try dsimp only at hSw); go_simp; try with_reducible rfl
                    simp only [Act.put, List.setIfInBounds_toArray, List.set_cons_zero, List.set_cons_succ]
                    refine wpAnyH_take (i := 27) (oi := { dst := some 54, op := Go.Op.move (Go.Operand.tmp 3), type := 3, pos := "l04_graph.go:21", after := #[{ on := 26, ground := Go.Ground.guard }], guard := some (26, false) }) (v := undef) rfl (by kernel_rfl) (by kernel_rfl) (by kernel_rfl) (fun _ _ _ h => h) (Or.inr ⟨by kernel_rfl, rfl⟩) (by assumption) ?_
                    simp only [Act.put, List.setIfInBounds_toArray, List.set_cons_zero, List.set_cons_succ]
                    refine wpAnyH_take (i := 28) (oi := { dst := some 55, op := Go.Op.binOp Go.BinOp.gtr 3 (Go.Operand.tmp 54) (Go.Operand.const (Go.Value.int Go.IntKind.i64 0)) 3, type := 4, pos := "l04_graph.go:21", after := #[{ on := 27, ground := Go.Ground.data }, { on := 26, ground := Go.Ground.guard }], guard := some (26, false) }) (v := undef) rfl (by kernel_rfl) (by kernel_rfl) (by kernel_rfl) (fun _ _ _ h => h) (Or.inr ⟨by kernel_rfl, rfl⟩) (by assumption) ?_
                    simp only [Act.put, List.setIfInBounds_toArray, List.set_cons_zero, List.set_cons_succ]
                    refine wpAnyH_take (i := 29) (oi := { dst := some 56, op := Go.Op.move (Go.Operand.tmp 55), type := 4, pos := "l04_graph.go:21", after := #[{ on := 28, ground := Go.Ground.data }, { on := 26, ground := Go.Ground.chain }, { on := 26, ground := Go.Ground.guard }], guard := some (26, false) }) (v := undef) rfl (by kernel_rfl) (by kernel_rfl) (by kernel_rfl) (fun _ _ _ h => h) (Or.inr ⟨by kernel_rfl, rfl⟩) (by assumption) ?_
                    simp only [Act.put, List.setIfInBounds_toArray, List.set_cons_zero, List.set_cons_succ]
                    refine wpAnyH_take (i := 30) (oi := { dst := some 57, op := Go.Op.fieldAddr 26 (Go.Operand.tmp 1) 1, type := 0, pos := "l04_graph.go:21", after := #[{ on := 29, ground := Go.Ground.guard }], guard := some (29, true) }) (v := undef) rfl (by kernel_rfl) (by kernel_rfl) (by kernel_rfl) (fun _ _ _ h => h) (Or.inr ⟨by kernel_rfl, rfl⟩) (by assumption) ?_
                    simp only [Act.put, List.setIfInBounds_toArray, List.set_cons_zero, List.set_cons_succ]
                    refine wpAnyH_take (i := 31) (oi := { dst := some 58, op := Go.Op.load 24 (Go.Operand.tmp 57), type := 24, pos := "l04_graph.go:21", after := #[{ on := 30, ground := Go.Ground.data }, { on := 29, ground := Go.Ground.guard }], guard := some (29, true) }) (v := undef) rfl (by kernel_rfl) (by kernel_rfl) (by kernel_rfl) (fun _ _ _ h => h) (Or.inr ⟨by kernel_rfl, rfl⟩) (by assumption) ?_
                    simp only [Act.put, List.setIfInBounds_toArray, List.set_cons_zero, List.set_cons_succ]
                    refine wpAnyH_take (i := 32) (oi := { dst := some 59, op := Go.Op.move (Go.Operand.tmp 3), type := 3, pos := "l04_graph.go:21", after := #[{ on := 29, ground := Go.Ground.guard }], guard := some (29, true) }) (v := undef) rfl (by kernel_rfl) (by kernel_rfl) (by kernel_rfl) (fun _ _ _ h => h) (Or.inr ⟨by kernel_rfl, rfl⟩) (by assumption) ?_
                    simp only [Act.put, List.setIfInBounds_toArray, List.set_cons_zero, List.set_cons_succ]
                    refine wpAnyH_take (i := 33) (oi := { dst := some 60, op := Go.Op.binOp Go.BinOp.sub 3 (Go.Operand.tmp 59) (Go.Operand.const (Go.Value.int Go.IntKind.i64 1)) 3, type := 3, pos := "l04_graph.go:21", after := #[{ on := 32, ground := Go.Ground.data }, { on := 29, ground := Go.Ground.guard }], guard := some (29, true) }) (v := undef) rfl (by kernel_rfl) (by kernel_rfl) (by kernel_rfl) (fun _ _ _ h => h) (Or.inr ⟨by kernel_rfl, rfl⟩) (by assumption) ?_
                    simp only [Act.put, List.setIfInBounds_toArray, List.set_cons_zero, List.set_cons_succ]
                    refine wpAnyH_take (i := 34) (oi := { dst := some 61, op := Go.Op.indexAddr 24 (Go.Operand.tmp 58) (Go.Operand.tmp 60), type := 0, pos := "l04_graph.go:21", after := #[{ on := 31, ground := Go.Ground.data }, { on := 33, ground := Go.Ground.data }, { on := 29, ground := Go.Ground.guard }], guard := some (29, true) }) (v := undef) rfl (by kernel_rfl) (by kernel_rfl) (by kernel_rfl) (fun _ _ _ h => h) (Or.inr ⟨by kernel_rfl, rfl⟩) (by assumption) ?_
                    simp only [Act.put, List.setIfInBounds_toArray, List.set_cons_zero, List.set_cons_succ]
                    refine wpAnyH_take (i := 35) (oi := { dst := some 62, op := Go.Op.load 99 (Go.Operand.tmp 61), type := 99, pos := "l04_graph.go:21", after := #[{ on := 34, ground := Go.Ground.data }, { on := 29, ground := Go.Ground.guard }], guard := some (29, true) }) (v := undef) rfl (by kernel_rfl) (by kernel_rfl) (by kernel_rfl) (fun _ _ _ h => h) (Or.inr ⟨by kernel_rfl, rfl⟩) (by assumption) ?_
                    simp only [Act.put, List.setIfInBounds_toArray, List.set_cons_zero, List.set_cons_succ]
                    refine wpAnyH_take (i := 36) (oi := { dst := some 63, op := Go.Op.load 99 (Go.Operand.tmp 4), type := 99, pos := "l04_graph.go:21", after := #[{ on := 29, ground := Go.Ground.guard }], guard := some (29, true) }) (v := undef) rfl (by kernel_rfl) (by kernel_rfl) (by kernel_rfl) (fun _ _ _ h => h) (Or.inr ⟨by kernel_rfl, rfl⟩) (by assumption) ?_
                    simp only [Act.put, List.setIfInBounds_toArray, List.set_cons_zero, List.set_cons_succ]
                    refine wpAnyH_ready (rs := [37]) (by kernel_rfl) (by simp) ?_
                    refine AllReadyH.cons (o := { dst := some 64, op := Go.Op.call { callee := Go.Callee.value (Go.Operand.func 66), args := #[Go.Operand.tmp 62, Go.Operand.tmp 63], argTypes := #[99, 99] }, type := 4, pos := "l04_graph.go:21", after := #[{ on := 35, ground := Go.Ground.data }, { on := 36, ground := Go.Ground.data }, { on := 29, ground := Go.Ground.chain }, { on := 29, ground := Go.Ground.guard }], guard := some (29, true) }) rfl (fun K hK => ?_) ?_
                    · rw [if_neg (by refine Bool.eq_false_iff.1 ?_; kernel_rfl)]
                      refine hK.out _ _ hHeld (fun hHeld => ?_)
                      clear hK K
                      try simp only [Act.put, List.setIfInBounds_toArray, List.set_cons_zero, List.set_cons_succ]
                      refine wpAnyH_take (i := 38) (oi := { dst := some 65, op := Go.Op.unOp Go.UnOp.not 4 (Go.Operand.tmp 64), type := 4, pos := "l04_graph.go:21", after := #[{ on := 37, ground := Go.Ground.data }, { on := 29, ground := Go.Ground.guard }], guard := some (29, true) }) (v := undef) rfl (by kernel_rfl) (by kernel_rfl) (by kernel_rfl) (fun _ _ _ h => h) (Or.inr ⟨by kernel_rfl, rfl⟩) (by assumption) ?_
                      simp only [Act.put, List.setIfInBounds_toArray, List.set_cons_zero, List.set_cons_succ]
                      refine wpAnyH_take (i := 39) (oi := { dst := some 66, op := Go.Op.pick (Go.Operand.tmp 56) (Go.Operand.tmp 65) (Go.Operand.const (Go.Value.bool false)), type := 4, pos := "l04_graph.go:21", after := #[{ on := 29, ground := Go.Ground.data }, { on := 38, ground := Go.Ground.data }, { on := 26, ground := Go.Ground.guard }], guard := some (26, false) }) (v := undef) rfl (by kernel_rfl) (by kernel_rfl) (by kernel_rfl) (fun _ _ _ h => h) (Or.inr ⟨by kernel_rfl, rfl⟩) (by assumption) ?_
                      simp only [Act.put, List.setIfInBounds_toArray, List.set_cons_zero, List.set_cons_succ]
                      refine wpAnyH_take (i := 40) (oi := { dst := some 67, op := Go.Op.pick (Go.Operand.tmp 53) (Go.Operand.const (Go.Value.bool true)) (Go.Operand.tmp 66), type := 4, pos := "l04_graph.go:21", after := #[{ on := 26, ground := Go.Ground.data }, { on := 39, ground := Go.Ground.data }], guard := none }) (v := ?_) rfl (by kernel_rfl) (by kernel_rfl) (by kernel_rfl) (fun _ _ _ h => h) (Or.inl ⟨by kernel_rfl, ?_⟩) (by assumption) ?_
                      rotate_left
                      · intro w hSw; (try dsimp only at hSw); go_simp; try with_reducible rfl
                      simp only [Act.put, List.setIfInBounds_toArray, List.set_cons_zero, List.set_cons_succ]
                      refine wpAnyH_done (by kernel_rfl) ?_ _
                      clear hHeld
                      go_wp2
                      go_ret
                      refine ⟨?_, HLW.out.drew⟩
                      have : r = false := by rw [HR.out]; exact okG_no (k := k) (by rw [HN.out]; exact hlt) (okGAt_no HOE.out)
                      rw [this]; rfl
                    exact AllReadyH.nil
                  exact AllReadyH.nil
                exact AllReadyH.nil
            · subst hv
              rw [Bool.and_false, Bool.false_and, Bool.false_and] at HOE
              have HKS : Hid (∀ w', Below W.heap.size W w' → ((w'.cell? ⟨w.heap.size, 0, none⟩ = some (.int .i64 s) ∧ w'.cell? ⟨w.heap.size, 1, none⟩ = some (.slice (some ⟨b, o, none⟩) n cap)) ∧ (w'.cell? ⟨wr.heap.size, 0, none⟩ = some (.int .i64 x0) ∧ w'.cell? ⟨wr.heap.size, 1, none⟩ = some (.int .u8 x1) ∧ w'.cell? ⟨wr.heap.size, 2, none⟩ = some (.int .i64 x2)))) := fun w' h => ⟨⟨cell_below g0 h (lt_of_cell g0), cell_below g1 h (lt_of_cell g1)⟩, ⟨cell_below e0 h (lt_of_cell e0), cell_below e1 h (lt_of_cell e1), cell_below e2 h (lt_of_cell e2)⟩⟩
              refine wp_region_held_drew (S := fun w' => (w'.cell? ⟨w.heap.size, 0, none⟩ = some (.int .i64 s) ∧ w'.cell? ⟨w.heap.size, 1, none⟩ = some (.slice (some ⟨b, o, none⟩) n cap)) ∧ (w'.cell? ⟨wr.heap.size, 0, none⟩ = some (.int .i64 x0) ∧ w'.cell? ⟨wr.heap.size, 1, none⟩ = some (.int .u8 x1) ∧ w'.cell? ⟨wr.heap.size, 2, none⟩ = some (.int .i64 x2))) (by kernel_rfl) (HKS.out _ ((Below.refl _ _).drew)) (fun hHeld => ?_)
              refine wpAnyH_take (i := 0) (oi := { dst := some 27, op := Go.Op.fieldAddr 99 (Go.Operand.tmp 4) 0, type := 0, pos := "l04_graph.go:21", after := #[], guard := none }) (v := ?_) rfl (by kernel_rfl) (by kernel_rfl) (by kernel_rfl) (fun _ _ _ h => h) (Or.inl ⟨by kernel_rfl, ?_⟩) (by assumption) ?_
              rotate_left
              · intro w hSw; (try dsimp only at hSw); go_simp; try with_reducible rfl
              simp only [Act.put, List.setIfInBounds_toArray, List.set_cons_zero, List.set_cons_succ]
              refine wpAnyH_take (i := 1) (oi := { dst := some 28, op := Go.Op.load 3 (Go.Operand.tmp 27), type := 3, pos := "l04_graph.go:21", after := #[{ on := 0, ground := Go.Ground.data }], guard := none }) (v := ?_) rfl (by kernel_rfl) (by kernel_rfl) (by kernel_rfl) (fun _ _ _ h => h) (Or.inl ⟨by kernel_rfl, ?_⟩) (by assumption) ?_
              rotate_left
              · intro w hSw; (try dsimp only at hSw); go_simp; try with_reducible rfl
              simp only [Act.put, List.setIfInBounds_toArray, List.set_cons_zero, List.set_cons_succ]
              refine wpAnyH_take (i := 2) (oi := { dst := some 29, op := Go.Op.fieldAddr 26 (Go.Operand.tmp 1) 0, type := 0, pos := "l04_graph.go:21", after := #[], guard := none }) (v := ?_) rfl (by kernel_rfl) (by kernel_rfl) (by kernel_rfl) (fun _ _ _ h => h) (Or.inl ⟨by kernel_rfl, ?_⟩) (by assumption) ?_
              rotate_left
              · intro w hSw; (try dsimp only at hSw); go_simp; try with_reducible rfl
              simp only [Act.put, List.setIfInBounds_toArray, List.set_cons_zero, List.set_cons_succ]
              refine wpAnyH_take (i := 3) (oi := { dst := some 30, op := Go.Op.load 3 (Go.Operand.tmp 29), type := 3, pos := "l04_graph.go:21", after := #[{ on := 2, ground := Go.Ground.data }], guard := none }) (v := ?_) rfl (by kernel_rfl) (by kernel_rfl) (by kernel_rfl) (fun _ _ _ h => h) (Or.inl ⟨by kernel_rfl, ?_⟩) (by assumption) ?_
              rotate_left
              · intro w hSw; (try dsimp only at hSw); go_simp; try with_reducible rfl
              simp only [Act.put, List.setIfInBounds_toArray, List.set_cons_zero, List.set_cons_succ]
              refine wpAnyH_take (i := 4) (oi := { dst := some 31, op := Go.Op.binOp Go.BinOp.sub 3 (Go.Operand.tmp 30) (Go.Operand.const (Go.Value.int Go.IntKind.i64 1)) 3, type := 3, pos := "l04_graph.go:21", after := #[{ on := 3, ground := Go.Ground.data }], guard := none }) (v := ?_) rfl (by kernel_rfl) (by kernel_rfl) (by kernel_rfl) (fun _ _ _ h => h) (Or.inl ⟨by kernel_rfl, ?_⟩) (by assumption) ?_
              rotate_left
              · intro w hSw; (try dsimp only at hSw); go_simp; try with_reducible rfl
              simp only [Act.put, List.setIfInBounds_toArray, List.set_cons_zero, List.set_cons_succ]
              refine wpAnyH_ready (rs := [5]) (by kernel_rfl) (by simp) ?_
              refine AllReadyH.cons (o := { dst := some 32, op := Go.Op.call { callee := Go.Callee.value (Go.Operand.func 46), args := #[Go.Operand.tmp 28, Go.Operand.const (Go.Value.int Go.IntKind.i64 0), Go.Operand.tmp 31], argTypes := #[3, 3, 3] }, type := 4, pos := "l04_graph.go:21", after := #[{ on := 1, ground := Go.Ground.data }, { on := 4, ground := Go.Ground.data }], guard := none }) rfl (fun K hK => ?_) ?_
              · go_simp
                go_wp2_with (go_at_call 46; refine (HC0.out _).mono ?_; rintro e w1 ⟨rfl, rfl⟩)
                refine hK.out _ _ hHeld (fun hHeld => ?_)
                clear hK K
                try simp only [Act.put, List.setIfInBounds_toArray, List.set_cons_zero, List.set_cons_succ]
                refine wpAnyH_take (i := 6) (oi := { dst := some 33, op := Go.Op.unOp Go.UnOp.not 4 (Go.Operand.tmp 32), type := 4, pos := "l04_graph.go:21", after := #[{ on := 5, ground := Go.Ground.data }], guard := none }) (v := ?_) rfl (by kernel_rfl) (by kernel_rfl) (by kernel_rfl) (fun _ _ _ h => h) (Or.inl ⟨by kernel_rfl, ?_⟩) (by assumption) ?_
                rotate_left
                · intro w hSw; (try dsimp only at hSw); go_simp; try with_reducible rfl
                simp only [Act.put, List.setIfInBounds_toArray, List.set_cons_zero, List.set_cons_succ]
                refine wpAnyH_take (i := 7) (oi := { dst := some 34, op := Go.Op.move (Go.Operand.tmp 33), type := 4, pos := "l04_graph.go:21", after := #[{ on := 6, ground := Go.Ground.data }, { on := 5, ground := Go.Ground.chain }], guard := none }) (v := ?_) rfl (by kernel_rfl) (by kernel_rfl) (by kernel_rfl) (fun _ _ _ h => h) (Or.inl ⟨by kernel_rfl, ?_⟩) (by assumption) ?_
                rotate_left
                · intro w hSw; (try dsimp only at hSw); go_simp; try with_reducible rfl
                simp only [Act.put, List.setIfInBounds_toArray, List.set_cons_zero, List.set_cons_succ]
                refine wpAnyH_take (i := 8) (oi := { dst := some 35, op := Go.Op.fieldAddr 99 (Go.Operand.tmp 4) 2, type := 0, pos := "l04_graph.go:21", after := #[{ on := 7, ground := Go.Ground.guard }], guard := some (7, false) }) (v := ?_) rfl (by kernel_rfl) (by kernel_rfl) (by kernel_rfl) (fun _ _ _ h => h) (Or.inl ⟨by kernel_rfl, ?_⟩) (by assumption) ?_
                rotate_left
                · intro w hSw; (try dsimp only at hSw); go_simp; try with_reducible rfl
                simp only [Act.put, List.setIfInBounds_toArray, List.set_cons_zero, List.set_cons_succ]
                refine wpAnyH_take (i := 9) (oi := { dst := some 36, op := Go.Op.load 3 (Go.Operand.tmp 35), type := 3, pos := "l04_graph.go:21", after := #[{ on := 8, ground := Go.Ground.data }, { on := 7, ground := Go.Ground.guard }], guard := some (7, false) }) (v := ?_) rfl (by kernel_rfl) (by kernel_rfl) (by kernel_rfl) (fun _ _ _ h => h) (Or.inl ⟨by kernel_rfl, ?_⟩) (by assumption) ?_
                rotate_left
                · intro w hSw; (try dsimp only at hSw); go_simp; try with_reducible rfl
                simp only [Act.put, List.setIfInBounds_toArray, List.set_cons_zero, List.set_cons_succ]
                refine wpAnyH_take (i := 10) (oi := { dst := some 37, op := Go.Op.fieldAddr 26 (Go.Operand.tmp 1) 0, type := 0, pos := "l04_graph.go:21", after := #[{ on := 7, ground := Go.Ground.guard }], guard := some (7, false) }) (v := ?_) rfl (by kernel_rfl) (by kernel_rfl) (by kernel_rfl) (fun _ _ _ h => h) (Or.inl ⟨by kernel_rfl, ?_⟩) (by assumption) ?_
                rotate_left
                · intro w hSw; (try dsimp only at hSw); go_simp; try with_reducible rfl
                simp only [Act.put, List.setIfInBounds_toArray, List.set_cons_zero, List.set_cons_succ]
                refine wpAnyH_take (i := 11) (oi := { dst := some 38, op := Go.Op.load 3 (Go.Operand.tmp 37), type := 3, pos := "l04_graph.go:21", after := #[{ on := 10, ground := Go.Ground.data }, { on := 7, ground := Go.Ground.guard }], guard := some (7, false) }) (v := ?_) rfl (by kernel_rfl) (by kernel_rfl) (by kernel_rfl) (fun _ _ _ h => h) (Or.inl ⟨by kernel_rfl, ?_⟩) (by assumption) ?_
                rotate_left
                · intro w hSw; (try dsimp only at hSw); go_simp; try with_reducible rfl
                simp only [Act.put, List.setIfInBounds_toArray, List.set_cons_zero, List.set_cons_succ]
                refine wpAnyH_take (i := 12) (oi := { dst := some 39, op := Go.Op.binOp Go.BinOp.sub 3 (Go.Operand.tmp 38) (Go.Operand.const (Go.Value.int Go.IntKind.i64 1)) 3, type := 3, pos := "l04_graph.go:21", after := #[{ on := 11, ground := Go.Ground.data }, { on := 7, ground := Go.Ground.guard }], guard := some (7, false) }) (v := ?_) rfl (by kernel_rfl) (by kernel_rfl) (by kernel_rfl) (fun _ _ _ h => h) (Or.inl ⟨by kernel_rfl, ?_⟩) (by assumption) ?_
                rotate_left
                · intro w hSw; (try dsimp only at hSw); go_simp; try with_reducible rfl
                simp only [Act.put, List.setIfInBounds_toArray, List.set_cons_zero, List.set_cons_succ]
                refine wpAnyH_ready (rs := [13]) (by kernel_rfl) (by simp) ?_
                refine AllReadyH.cons (o := { dst := some 40, op := Go.Op.call { callee := Go.Callee.value (Go.Operand.func 46), args := #[Go.Operand.tmp 36, Go.Operand.const (Go.Value.int Go.IntKind.i64 0), Go.Operand.tmp 39], argTypes := #[3, 3, 3] }, type := 4, pos := "l04_graph.go:21", after := #[{ on := 9, ground := Go.Ground.data }, { on := 12, ground := Go.Ground.data }, { on := 7, ground := Go.Ground.chain }, { on := 7, ground := Go.Ground.guard }], guard := some (7, false) }) rfl (fun K hK => ?_) ?_
                · go_simp
                  go_wp2_with (go_at_call 46; refine (HC1.out _).mono ?_; rintro e w1 ⟨rfl, rfl⟩)
                  refine hK.out _ _ hHeld (fun hHeld => ?_)
                  clear hK K
                  try simp only [Act.put, List.setIfInBounds_toArray, List.set_cons_zero, List.set_cons_succ]
                  refine wpAnyH_take (i := 14) (oi := { dst := some 41, op := Go.Op.unOp Go.UnOp.not 4 (Go.Operand.tmp 40), type := 4, pos := "l04_graph.go:21", after := #[{ on := 13, ground := Go.Ground.data }, { on := 7, ground := Go.Ground.guard }], guard := some (7, false) }) (v := ?_) rfl (by kernel_rfl) (by kernel_rfl) (by kernel_rfl) (fun _ _ _ h => h) (Or.inl ⟨by kernel_rfl, ?_⟩) (by assumption) ?_
                  rotate_left
                  · intro w hSw; (try dsimp only at hSw); go_simp; try with_reducible rfl
                  simp only [Act.put, List.setIfInBounds_toArray, List.set_cons_zero, List.set_cons_succ]
                  refine wpAnyH_take (i := 15) (oi := { dst := some 42, op := Go.Op.pick (Go.Operand.tmp 34) (Go.Operand.const (Go.Value.bool true)) (Go.Operand.tmp 41), type := 4, pos := "l04_graph.go:21", after := #[{ on := 7, ground := Go.Ground.data }, { on := 14, ground := Go.Ground.data }], guard := none }) (v := ?_) rfl (by kernel_rfl) (by kernel_rfl) (by kernel_rfl) (fun _ _ _ h => h) (Or.inl ⟨by kernel_rfl, ?_⟩) (by assumption) ?_
                  rotate_left
                  · intro w hSw; (try dsimp only at hSw); go_simp; try with_reducible rfl
                  simp only [Act.put, List.setIfInBounds_toArray, List.set_cons_zero, List.set_cons_succ]
                  refine wpAnyH_take (i := 16) (oi := { dst := some 43, op := Go.Op.move (Go.Operand.tmp 42), type := 4, pos := "l04_graph.go:21", after := #[{ on := 15, ground := Go.Ground.data }, { on := 13, ground := Go.Ground.chain }], guard := none }) (v := ?_) rfl (by kernel_rfl) (by kernel_rfl) (by kernel_rfl) (fun _ _ _ h => h) (Or.inl ⟨by kernel_rfl, ?_⟩) (by assumption) ?_
                  rotate_left
                  · intro w hSw; (try dsimp only at hSw); go_simp; try with_reducible rfl
                  simp only [Act.put, List.setIfInBounds_toArray, List.set_cons_zero, List.set_cons_succ]
                  refine wpAnyH_take (i := 17) (oi := { dst := some 44, op := Go.Op.fieldAddr 99 (Go.Operand.tmp 4) 1, type := 0, pos := "l04_graph.go:21", after := #[{ on := 16, ground := Go.Ground.guard }], guard := some (16, false) }) (v := undef) rfl (by kernel_rfl) (by kernel_rfl) (by kernel_rfl) (fun _ _ _ h => h) (Or.inr ⟨by kernel_rfl, rfl⟩) (by assumption) ?_
                  simp only [Act.put, List.setIfInBounds_toArray, List.set_cons_zero, List.set_cons_succ]
                  refine wpAnyH_take (i := 18) (oi := { dst := some 45, op := Go.Op.load 5 (Go.Operand.tmp 44), type := 5, pos := "l04_graph.go:21", after := #[{ on := 17, ground := Go.Ground.data }, { on := 16, ground := Go.Ground.guard }], guard := some (16, false) }) (v := undef) rfl (by kernel_rfl) (by kernel_rfl) (by kernel_rfl) (fun _ _ _ h => h) (Or.inr ⟨by kernel_rfl, rfl⟩) (by assumption) ?_
                  simp only [Act.put, List.setIfInBounds_toArray, List.set_cons_zero, List.set_cons_succ]
                  refine wpAnyH_take (i := 19) (oi := { dst := some 46, op := Go.Op.binOp Go.BinOp.lss 5 (Go.Operand.tmp 45) (Go.Operand.const (Go.Value.int Go.IntKind.u8 97)) 5, type := 4, pos := "l04_graph.go:21", after := #[{ on := 18, ground := Go.Ground.data }, { on := 16, ground := Go.Ground.guard }], guard := some (16, false) }) (v := undef) rfl (by kernel_rfl) (by kernel_rfl) (by kernel_rfl) (fun _ _ _ h => h) (Or.inr ⟨by kernel_rfl, rfl⟩) (by assumption) ?_
                  simp only [Act.put, List.setIfInBounds_toArray, List.set_cons_zero, List.set_cons_succ]
                  refine wpAnyH_take (i := 20) (oi := { dst := some 47, op := Go.Op.pick (Go.Operand.tmp 43) (Go.Operand.const (Go.Value.bool true)) (Go.Operand.tmp 46), type := 4, pos := "l04_graph.go:21", after := #[{ on := 16, ground := Go.Ground.data }, { on := 19, ground := Go.Ground.data }], guard := none }) (v := ?_) rfl (by kernel_rfl) (by kernel_rfl) (by kernel_rfl) (fun _ _ _ h => h) (Or.inl ⟨by kernel_rfl, ?_⟩) (by assumption) ?_
                  rotate_left
                  · intro w hSw; (try dsimp only at hSw); go_simp; try with_reducible rfl
                  simp only [Act.put, List.setIfInBounds_toArray, List.set_cons_zero, List.set_cons_succ]
                  refine wpAnyH_take (i := 21) (oi := { dst := some 48, op := Go.Op.move (Go.Operand.tmp 47), type := 4, pos := "l04_graph.go:21", after := #[{ on := 20, ground := Go.Ground.data }, { on := 16, ground := Go.Ground.chain }], guard := none }) (v := ?_) rfl (by kernel_rfl) (by kernel_rfl) (by kernel_rfl) (fun _ _ _ h => h) (Or.inl ⟨by kernel_rfl, ?_⟩) (by assumption) ?_
                  rotate_left
                  · intro w hSw; (try dsimp only at hSw); go_simp; try with_reducible rfl
                  simp only [Act.put, List.setIfInBounds_toArray, List.set_cons_zero, List.set_cons_succ]
                  refine wpAnyH_take (i := 22) (oi := { dst := some 49, op := Go.Op.fieldAddr 99 (Go.Operand.tmp 4) 1, type := 0, pos := "l04_graph.go:21", after := #[{ on := 21, ground := Go.Ground.guard }], guard := some (21, false) }) (v := undef) rfl (by kernel_rfl) (by kernel_rfl) (by kernel_rfl) (fun _ _ _ h => h) (Or.inr ⟨by kernel_rfl, rfl⟩) (by assumption) ?_
                  simp only [Act.put, List.setIfInBounds_toArray, List.set_cons_zero, List.set_cons_succ]
                  refine wpAnyH_take (i := 23) (oi := { dst := some 50, op := Go.Op.load 5 (Go.Operand.tmp 49), type := 5, pos := "l04_graph.go:21", after := #[{ on := 22, ground := Go.Ground.data }, { on := 21, ground := Go.Ground.guard }], guard := some (21, false) }) (v := undef) rfl (by kernel_rfl) (by kernel_rfl) (by kernel_rfl) (fun _ _ _ h => h) (Or.inr ⟨by kernel_rfl, rfl⟩) (by assumption) ?_
                  simp only [Act.put, List.setIfInBounds_toArray, List.set_cons_zero, List.set_cons_succ]
                  refine wpAnyH_take (i := 24) (oi := { dst := some 51, op := Go.Op.binOp Go.BinOp.gtr 5 (Go.Operand.tmp 50) (Go.Operand.const (Go.Value.int Go.IntKind.u8 100)) 5, type := 4, pos := "l04_graph.go:21", after := #[{ on := 23, ground := Go.Ground.data }, { on := 21, ground := Go.Ground.guard }], guard := some (21, false) }) (v := undef) rfl (by kernel_rfl) (by kernel_rfl) (by kernel_rfl) (fun _ _ _ h => h) (Or.inr ⟨by kernel_rfl, rfl⟩) (by assumption) ?_
                  simp only [Act.put, List.setIfInBounds_toArray, List.set_cons_zero, List.set_cons_succ]
                  refine wpAnyH_take (i := 25) (oi := { dst := some 52, op := Go.Op.pick (Go.Operand.tmp 48) (Go.Operand.const (Go.Value.bool true)) (Go.Operand.tmp 51), type := 4, pos := "l04_graph.go:21", after := #[{ on := 21, ground := Go.Ground.data }, { on := 24, ground := Go.Ground.data }], guard := none }) (v := ?_) rfl (by kernel_rfl) (by kernel_rfl) (by kernel_rfl) (fun _ _ _ h => h) (Or.inl ⟨by kernel_rfl, ?_⟩) (by assumption) ?_
                  rotate_left
                  · intro w hSw; (try dsimp only at hSw); go_simp; try with_reducible rfl
                  simp only [Act.put, List.setIfInBounds_toArray, List.set_cons_zero, List.set_cons_succ]
                  refine wpAnyH_take (i := 26) (oi := { dst := some 53, op := Go.Op.move (Go.Operand.tmp 52), type := 4, pos := "l04_graph.go:21", after := #[{ on := 25, ground := Go.Ground.data }, { on := 21, ground := Go.Ground.chain }], guard := none }) (v := ?_) rfl (by kernel_rfl) (by kernel_rfl) (by kernel_rfl) (fun _ _ _ h => h) (Or.inl ⟨by kernel_rfl, ?_⟩) (by assumption) ?_
                  rotate_left
                  · intro w hSw; (try dsimp only at hSw); go_simp; try with_reducible rfl
                  simp only [Act.put, List.setIfInBounds_toArray, List.set_cons_zero, List.set_cons_succ]
                  refine wpAnyH_take (i := 27) (oi := { dst := some 54, op := Go.Op.move (Go.Operand.tmp 3), type := 3, pos := "l04_graph.go:21", after := #[{ on := 26, ground := Go.Ground.guard }], guard := some (26, false) }) (v := undef) rfl (by kernel_rfl) (by kernel_rfl) (by kernel_rfl) (fun _ _ _ h => h) (Or.inr ⟨by kernel_rfl, rfl⟩) (by assumption) ?_
                  simp only [Act.put, List.setIfInBounds_toArray, List.set_cons_zero, List.set_cons_succ]
                  refine wpAnyH_take (i := 28) (oi := { dst := some 55, op := Go.Op.binOp Go.BinOp.gtr 3 (Go.Operand.tmp 54) (Go.Operand.const (Go.Value.int Go.IntKind.i64 0)) 3, type := 4, pos := "l04_graph.go:21", after := #[{ on := 27, ground := Go.Ground.data }, { on := 26, ground := Go.Ground.guard }], guard := some (26, false) }) (v := undef) rfl (by kernel_rfl) (by kernel_rfl) (by kernel_rfl) (fun _ _ _ h => h) (Or.inr ⟨by kernel_rfl, rfl⟩) (by assumption) ?_
                  simp only [Act.put, List.setIfInBounds_toArray, List.set_cons_zero, List.set_cons_succ]
                  refine wpAnyH_take (i := 29) (oi := { dst := some 56, op := Go.Op.move (Go.Operand.tmp 55), type := 4, pos := "l04_graph.go:21", after := #[{ on := 28, ground := Go.Ground.data }, { on := 26, ground := Go.Ground.chain }, { on := 26, ground := Go.Ground.guard }], guard := some (26, false) }) (v := undef) rfl (by kernel_rfl) (by kernel_rfl) (by kernel_rfl) (fun _ _ _ h => h) (Or.inr ⟨by kernel_rfl, rfl⟩) (by assumption) ?_
                  simp only [Act.put, List.setIfInBounds_toArray, List.set_cons_zero, List.set_cons_succ]
                  refine wpAnyH_take (i := 30) (oi := { dst := some 57, op := Go.Op.fieldAddr 26 (Go.Operand.tmp 1) 1, type := 0, pos := "l04_graph.go:21", after := #[{ on := 29, ground := Go.Ground.guard }], guard := some (29, true) }) (v := undef) rfl (by kernel_rfl) (by kernel_rfl) (by kernel_rfl) (fun _ _ _ h => h) (Or.inr ⟨by kernel_rfl, rfl⟩) (by assumption) ?_
                  simp only [Act.put, List.setIfInBounds_toArray, List.set_cons_zero, List.set_cons_succ]
                  refine wpAnyH_take (i := 31) (oi := { dst := some 58, op := Go.Op.load 24 (Go.Operand.tmp 57), type := 24, pos := "l04_graph.go:21", after := #[{ on := 30, ground := Go.Ground.data }, { on := 29, ground := Go.Ground.guard }], guard := some (29, true) }) (v := undef) rfl (by kernel_rfl) (by kernel_rfl) (by kernel_rfl) (fun _ _ _ h => h) (Or.inr ⟨by kernel_rfl, rfl⟩) (by assumption) ?_
                  simp only [Act.put, List.setIfInBounds_toArray, List.set_cons_zero, List.set_cons_succ]
                  refine wpAnyH_take (i := 32) (oi := { dst := some 59, op := Go.Op.move (Go.Operand.tmp 3), type := 3, pos := "l04_graph.go:21", after := #[{ on := 29, ground := Go.Ground.guard }], guard := some (29, true) }) (v := undef) rfl (by kernel_rfl) (by kernel_rfl) (by kernel_rfl) (fun _ _ _ h => h) (Or.inr ⟨by kernel_rfl, rfl⟩) (by assumption) ?_
                  simp only [Act.put, List.setIfInBounds_toArray, List.set_cons_zero, List.set_cons_succ]
                  refine wpAnyH_take (i := 33) (oi := { dst := some 60, op := Go.Op.binOp Go.BinOp.sub 3 (Go.Operand.tmp 59) (Go.Operand.const (Go.Value.int Go.IntKind.i64 1)) 3, type := 3, pos := "l04_graph.go:21", after := #[{ on := 32, ground := Go.Ground.data }, { on := 29, ground := Go.Ground.guard }], guard := some (29, true) }) (v := undef) rfl (by kernel_rfl) (by kernel_rfl) (by kernel_rfl) (fun _ _ _ h => h) (Or.inr ⟨by kernel_rfl, rfl⟩) (by assumption) ?_
                  simp only [Act.put, List.setIfInBounds_toArray, List.set_cons_zero, List.set_cons_succ]
                  refine wpAnyH_take (i := 34) (oi := { dst := some 61, op := Go.Op.indexAddr 24 (Go.Operand.tmp 58) (Go.Operand.tmp 60), type := 0, pos := "l04_graph.go:21", after := #[{ on := 31, ground := Go.Ground.data }, { on := 33, ground := Go.Ground.data }, { on := 29, ground := Go.Ground.guard }], guard := some (29, true) }) (v := undef) rfl (by kernel_rfl) (by kernel_rfl) (by kernel_rfl) (fun _ _ _ h => h) (Or.inr ⟨by kernel_rfl, rfl⟩) (by assumption) ?_
                  simp only [Act.put, List.setIfInBounds_toArray, List.set_cons_zero, List.set_cons_succ]
                  refine wpAnyH_take (i := 35) (oi := { dst := some 62, op := Go.Op.load 99 (Go.Operand.tmp 61), type := 99, pos := "l04_graph.go:21", after := #[{ on := 34, ground := Go.Ground.data }, { on := 29, ground := Go.Ground.guard }], guard := some (29, true) }) (v := undef) rfl (by kernel_rfl) (by kernel_rfl) (by kernel_rfl) (fun _ _ _ h => h) (Or.inr ⟨by kernel_rfl, rfl⟩) (by assumption) ?_
                  simp only [Act.put, List.setIfInBounds_toArray, List.set_cons_zero, List.set_cons_succ]
                  refine wpAnyH_take (i := 36) (oi := { dst := some 63, op := Go.Op.load 99 (Go.Operand.tmp 4), type := 99, pos := "l04_graph.go:21", after := #[{ on := 29, ground := Go.Ground.guard }], guard := some (29, true) }) (v := undef) rfl (by kernel_rfl) (by kernel_rfl) (by kernel_rfl) (fun _ _ _ h => h) (Or.inr ⟨by kernel_rfl, rfl⟩) (by assumption) ?_
                  simp only [Act.put, List.setIfInBounds_toArray, List.set_cons_zero, List.set_cons_succ]
                  refine wpAnyH_ready (rs := [37]) (by kernel_rfl) (by simp) ?_
                  refine AllReadyH.cons (o := { dst := some 64, op := Go.Op.call { callee := Go.Callee.value (Go.Operand.func 66), args := #[Go.Operand.tmp 62, Go.Operand.tmp 63], argTypes := #[99, 99] }, type := 4, pos := "l04_graph.go:21", after := #[{ on := 35, ground := Go.Ground.data }, { on := 36, ground := Go.Ground.data }, { on := 29, ground := Go.Ground.chain }, { on := 29, ground := Go.Ground.guard }], guard := some (29, true) }) rfl (fun K hK => ?_) ?_
                  · rw [if_neg (by refine Bool.eq_false_iff.1 ?_; kernel_rfl)]
                    refine hK.out _ _ hHeld (fun hHeld => ?_)
                    clear hK K
                    try simp only [Act.put, List.setIfInBounds_toArray, List.set_cons_zero, List.set_cons_succ]
                    refine wpAnyH_take (i := 38) (oi := { dst := some 65, op := Go.Op.unOp Go.UnOp.not 4 (Go.Operand.tmp 64), type := 4, pos := "l04_graph.go:21", after := #[{ on := 37, ground := Go.Ground.data }, { on := 29, ground := Go.Ground.guard }], guard := some (29, true) }) (v := undef) rfl (by kernel_rfl) (by kernel_rfl) (by kernel_rfl) (fun _ _ _ h => h) (Or.inr ⟨by kernel_rfl, rfl⟩) (by assumption) ?_
                    simp only [Act.put, List.setIfInBounds_toArray, List.set_cons_zero, List.set_cons_succ]
                    refine wpAnyH_take (i := 39) (oi := { dst := some 66, op := Go.Op.pick (Go.Operand.tmp 56) (Go.Operand.tmp 65) (Go.Operand.const (Go.Value.bool false)), type := 4, pos := "l04_graph.go:21", after := #[{ on := 29, ground := Go.Ground.data }, { on := 38, ground := Go.Ground.data }, { on := 26, ground := Go.Ground.guard }], guard := some (26, false) }) (v := undef) rfl (by kernel_rfl) (by kernel_rfl) (by kernel_rfl) (fun _ _ _ h => h) (Or.inr ⟨by kernel_rfl, rfl⟩) (by assumption) ?_
                    simp only [Act.put, List.setIfInBounds_toArray, List.set_cons_zero, List.set_cons_succ]
                    refine wpAnyH_take (i := 40) (oi := { dst := some 67, op := Go.Op.pick (Go.Operand.tmp 53) (Go.Operand.const (Go.Value.bool true)) (Go.Operand.tmp 66), type := 4, pos := "l04_graph.go:21", after := #[{ on := 26, ground := Go.Ground.data }, { on := 39, ground := Go.Ground.data }], guard := none }) (v := ?_) rfl (by kernel_rfl) (by kernel_rfl) (by kernel_rfl) (fun _ _ _ h => h) (Or.inl ⟨by kernel_rfl, ?_⟩) (by assumption) ?_
                    rotate_left
                    · intro w hSw; (try dsimp only at hSw); go_simp; try with_reducible rfl
                    simp only [Act.put, List.setIfInBounds_toArray, List.set_cons_zero, List.set_cons_succ]
                    refine wpAnyH_done (by kernel_rfl) ?_ _
                    clear hHeld
                    go_wp2
                    go_ret
                    refine ⟨?_, HLW.out.drew⟩
                    have : r = false := by rw [HR.out]; exact okG_no (k := k) (by rw [HN.out]; exact hlt) (okGAt_no HOE.out)
                    rw [this]; rfl
                  exact AllReadyH.nil
                exact AllReadyH.nil
              exact AllReadyH.nil
          · subst hu
            rw [Bool.false_and, Bool.false_and, Bool.false_and] at HOE
            have HKS : Hid (∀ w', Below W.heap.size W w' → ((w'.cell? ⟨w.heap.size, 0, none⟩ = some (.int .i64 s) ∧ w'.cell? ⟨w.heap.size, 1, none⟩ = some (.slice (some ⟨b, o, none⟩) n cap)) ∧ (w'.cell? ⟨wr.heap.size, 0, none⟩ = some (.int .i64 x0) ∧ w'.cell? ⟨wr.heap.size, 1, none⟩ = some (.int .u8 x1) ∧ w'.cell? ⟨wr.heap.size, 2, none⟩ = some (.int .i64 x2)))) := fun w' h => ⟨⟨cell_below g0 h (lt_of_cell g0), cell_below g1 h (lt_of_cell g1)⟩, ⟨cell_below e0 h (lt_of_cell e0), cell_below e1 h (lt_of_cell e1), cell_below e2 h (lt_of_cell e2)⟩⟩
            refine wp_region_held_drew (S := fun w' => (w'.cell? ⟨w.heap.size, 0, none⟩ = some (.int .i64 s) ∧ w'.cell? ⟨w.heap.size, 1, none⟩ = some (.slice (some ⟨b, o, none⟩) n cap)) ∧ (w'.cell? ⟨wr.heap.size, 0, none⟩ = some (.int .i64 x0) ∧ w'.cell? ⟨wr.heap.size, 1, none⟩ = some (.int .u8 x1) ∧ w'.cell? ⟨wr.heap.size, 2, none⟩ = some (.int .i64 x2))) (by kernel_rfl) (HKS.out _ ((Below.refl _ _).drew)) (fun hHeld => ?_)
            refine wpAnyH_take (i := 0) (oi := { dst := some 27, op := Go.Op.fieldAddr 99 (Go.Operand.tmp 4) 0, type := 0, pos := "l04_graph.go:21", after := #[], guard := none }) (v := ?_) rfl (by kernel_rfl) (by kernel_rfl) (by kernel_rfl) (fun _ _ _ h => h) (Or.inl ⟨by kernel_rfl, ?_⟩) (by assumption) ?_
            rotate_left
            · intro w hSw; (try dsimp only at hSw); go_simp; try with_reducible rfl
            simp only [Act.put, List.setIfInBounds_toArray, List.set_cons_zero, List.set_cons_succ]
            refine wpAnyH_take (i := 1) (oi := { dst := some 28, op := Go.Op.load 3 (Go.Operand.tmp 27), type := 3, pos := "l04_graph.go:21", after := #[{ on := 0, ground := Go.Ground.data }], guard := none }) (v := ?_) rfl (by kernel_rfl) (by kernel_rfl) (by kernel_rfl) (fun _ _ _ h => h) (Or.inl ⟨by kernel_rfl, ?_⟩) (by assumption) ?_
            rotate_left
            · intro w hSw; (try dsimp only at hSw); go_simp; try with_reducible rfl
            simp only [Act.put, List.setIfInBounds_toArray, List.set_cons_zero, List.set_cons_succ]
            refine wpAnyH_take (i := 2) (oi := { dst := some 29, op := Go.Op.fieldAddr 26 (Go.Operand.tmp 1) 0, type := 0, pos := "l04_graph.go:21", after := #[], guard := none }) (v := ?_) rfl (by kernel_rfl) (by kernel_rfl) (by kernel_rfl) (fun _ _ _ h => h) (Or.inl ⟨by kernel_rfl, ?_⟩) (by assumption) ?_
            rotate_left
            · intro w hSw; (try dsimp only at hSw); go_simp; try with_reducible rfl
            simp only [Act.put, List.setIfInBounds_toArray, List.set_cons_zero, List.set_cons_succ]
            refine wpAnyH_take (i := 3) (oi := { dst := some 30, op := Go.Op.load 3 (Go.Operand.tmp 29), type := 3, pos := "l04_graph.go:21", after := #[{ on := 2, ground := Go.Ground.data }], guard := none }) (v := ?_) rfl (by kernel_rfl) (by kernel_rfl) (by kernel_rfl) (fun _ _ _ h => h) (Or.inl ⟨by kernel_rfl, ?_⟩) (by assumption) ?_
            rotate_left
            · intro w hSw; (try dsimp only at hSw); go_simp; try with_reducible rfl
            simp only [Act.put, List.setIfInBounds_toArray, List.set_cons_zero, List.set_cons_succ]
            refine wpAnyH_take (i := 4) (oi := { dst := some 31, op := Go.Op.binOp Go.BinOp.sub 3 (Go.Operand.tmp 30) (Go.Operand.const (Go.Value.int Go.IntKind.i64 1)) 3, type := 3, pos := "l04_graph.go:21", after := #[{ on := 3, ground := Go.Ground.data }], guard := none }) (v := ?_) rfl (by kernel_rfl) (by kernel_rfl) (by kernel_rfl) (fun _ _ _ h => h) (Or.inl ⟨by kernel_rfl, ?_⟩) (by assumption) ?_
            rotate_left
            · intro w hSw; (try dsimp only at hSw); go_simp; try with_reducible rfl
            simp only [Act.put, List.setIfInBounds_toArray, List.set_cons_zero, List.set_cons_succ]
            refine wpAnyH_ready (rs := [5]) (by kernel_rfl) (by simp) ?_
            refine AllReadyH.cons (o := { dst := some 32, op := Go.Op.call { callee := Go.Callee.value (Go.Operand.func 46), args := #[Go.Operand.tmp 28, Go.Operand.const (Go.Value.int Go.IntKind.i64 0), Go.Operand.tmp 31], argTypes := #[3, 3, 3] }, type := 4, pos := "l04_graph.go:21", after := #[{ on := 1, ground := Go.Ground.data }, { on := 4, ground := Go.Ground.data }], guard := none }) rfl (fun K hK => ?_) ?_
            · go_simp
              go_wp2_with (go_at_call 46; refine (HC0.out _).mono ?_; rintro e w1 ⟨rfl, rfl⟩)
              refine hK.out _ _ hHeld (fun hHeld => ?_)
              clear hK K
              try simp only [Act.put, List.setIfInBounds_toArray, List.set_cons_zero, List.set_cons_succ]
              refine wpAnyH_take (i := 6) (oi := { dst := some 33, op := Go.Op.unOp Go.UnOp.not 4 (Go.Operand.tmp 32), type := 4, pos := "l04_graph.go:21", after := #[{ on := 5, ground := Go.Ground.data }], guard := none }) (v := ?_) rfl (by kernel_rfl) (by kernel_rfl) (by kernel_rfl) (fun _ _ _ h => h) (Or.inl ⟨by kernel_rfl, ?_⟩) (by assumption) ?_
              rotate_left
              · intro w hSw; (try dsimp only at hSw); go_simp; try with_reducible rfl
              simp only [Act.put, List.setIfInBounds_toArray, List.set_cons_zero, List.set_cons_succ]
              refine wpAnyH_take (i := 7) (oi := { dst := some 34, op := Go.Op.move (Go.Operand.tmp 33), type := 4, pos := "l04_graph.go:21", after := #[{ on := 6, ground := Go.Ground.data }, { on := 5, ground := Go.Ground.chain }], guard := none }) (v := ?_) rfl (by kernel_rfl) (by kernel_rfl) (by kernel_rfl) (fun _ _ _ h => h) (Or.inl ⟨by kernel_rfl, ?_⟩) (by assumption) ?_
              rotate_left
              · intro w hSw; (try dsimp only at hSw); go_simp; try with_reducible rfl
              simp only [Act.put, List.setIfInBounds_toArray, List.set_cons_zero, List.set_cons_succ]
              refine wpAnyH_take (i := 8) (oi := { dst := some 35, op := Go.Op.fieldAddr 99 (Go.Operand.tmp 4) 2, type := 0, pos := "l04_graph.go:21", after := #[{ on := 7, ground := Go.Ground.guard }], guard := some (7, false) }) (v := undef) rfl (by kernel_rfl) (by kernel_rfl) (by kernel_rfl) (fun _ _ _ h => h) (Or.inr ⟨by kernel_rfl, rfl⟩) (by assumption) ?_
              simp only [Act.put, List.setIfInBounds_toArray, List.set_cons_zero, List.set_cons_succ]
              refine wpAnyH_take (i := 9) (oi := { dst := some 36, op := Go.Op.load 3 (Go.Operand.tmp 35), type := 3, pos := "l04_graph.go:21", after := #[{ on := 8, ground := Go.Ground.data }, { on := 7, ground := Go.Ground.guard }], guard := some (7, false) }) (v := undef) rfl (by kernel_rfl) (by kernel_rfl) (by kernel_rfl) (fun _ _ _ h => h) (Or.inr ⟨by kernel_rfl, rfl⟩) (by assumption) ?_
              simp only [Act.put, List.setIfInBounds_toArray, List.set_cons_zero, List.set_cons_succ]
              refine wpAnyH_take (i := 10) (oi := { dst := some 37, op := Go.Op.fieldAddr 26 (Go.Operand.tmp 1) 0, type := 0, pos := "l04_graph.go:21", after := #[{ on := 7, ground := Go.Ground.guard }], guard := some (7, false) }) (v := undef) rfl (by kernel_rfl) (by kernel_rfl) (by kernel_rfl) (fun _ _ _ h => h) (Or.inr ⟨by kernel_rfl, rfl⟩) (by assumption) ?_
              simp only [Act.put, List.setIfInBounds_toArray, List.set_cons_zero, List.set_cons_succ]
              refine wpAnyH_take (i := 11) (oi := { dst := some 38, op := Go.Op.load 3 (Go.Operand.tmp 37), type := 3, pos := "l04_graph.go:21", after := #[{ on := 10, ground := Go.Ground.data }, { on := 7, ground := Go.Ground.guard }], guard := some (7, false) }) (v := undef) rfl (by kernel_rfl) (by kernel_rfl) (by kernel_rfl) (fun _ _ _ h => h) (Or.inr ⟨by kernel_rfl, rfl⟩) (by assumption) ?_
              simp only [Act.put, List.setIfInBounds_toArray, List.set_cons_zero, List.set_cons_succ]
              refine wpAnyH_take (i := 12) (oi := { dst := some 39, op := Go.Op.binOp Go.BinOp.sub 3 (Go.Operand.tmp 38) (Go.Operand.const (Go.Value.int Go.IntKind.i64 1)) 3, type := 3, pos := "l04_graph.go:21", after := #[{ on := 11, ground := Go.Ground.data }, { on := 7, ground := Go.Ground.guard }], guard := some (7, false) }) (v := undef) rfl (by kernel_rfl) (by kernel_rfl) (by kernel_rfl) (fun _ _ _ h => h) (Or.inr ⟨by kernel_rfl, rfl⟩) (by assumption) ?_
              simp only [Act.put, List.setIfInBounds_toArray, List.set_cons_zero, List.set_cons_succ]
              refine wpAnyH_ready (rs := [13]) (by kernel_rfl) (by simp) ?_
              refine AllReadyH.cons (o := { dst := some 40, op := Go.Op.call { callee := Go.Callee.value (Go.Operand.func 46), args := #[Go.Operand.tmp 36, Go.Operand.const (Go.Value.int Go.IntKind.i64 0), Go.Operand.tmp 39], argTypes := #[3, 3, 3] }, type := 4, pos := "l04_graph.go:21", after := #[{ on := 9, ground := Go.Ground.data }, { on := 12, ground := Go.Ground.data }, { on := 7, ground := Go.Ground.chain }, { on := 7, ground := Go.Ground.guard }], guard := some (7, false) }) rfl (fun K hK => ?_) ?_
              · rw [if_neg (by refine Bool.eq_false_iff.1 ?_; kernel_rfl)]
                refine hK.out _ _ hHeld (fun hHeld => ?_)
                clear hK K
                try simp only [Act.put, List.setIfInBounds_toArray, List.set_cons_zero, List.set_cons_succ]
                refine wpAnyH_take (i := 14) (oi := { dst := some 41, op := Go.Op.unOp Go.UnOp.not 4 (Go.Operand.tmp 40), type := 4, pos := "l04_graph.go:21", after := #[{ on := 13, ground := Go.Ground.data }, { on := 7, ground := Go.Ground.guard }], guard := some (7, false) }) (v := undef) rfl (by kernel_rfl) (by kernel_rfl) (by kernel_rfl) (fun _ _ _ h => h) (Or.inr ⟨by kernel_rfl, rfl⟩) (by assumption) ?_
                simp only [Act.put, List.setIfInBounds_toArray, List.set_cons_zero, List.set_cons_succ]
                refine wpAnyH_take (i := 15) (oi := { dst := some 42, op := Go.Op.pick (Go.Operand.tmp 34) (Go.Operand.const (Go.Value.bool true)) (Go.Operand.tmp 41), type := 4, pos := "l04_graph.go:21", after := #[{ on := 7, ground := Go.Ground.data }, { on := 14, ground := Go.Ground.data }], guard := none }) (v := ?_) rfl (by kernel_rfl) (by kernel_rfl) (by kernel_rfl) (fun _ _ _ h => h) (Or.inl ⟨by kernel_rfl, ?_⟩) (by assumption) ?_
                rotate_left
                · intro w hSw; (try dsimp only at hSw); go_simp; try with_reducible rfl
                simp only [Act.put, List.setIfInBounds_toArray, List.set_cons_zero, List.set_cons_succ]
                refine wpAnyH_take (i := 16) (oi := { dst := some 43, op := Go.Op.move (Go.Operand.tmp 42), type := 4, pos := "l04_graph.go:21", after := #[{ on := 15, ground := Go.Ground.data }, { on := 13, ground := Go.Ground.chain }], guard := none }) (v := ?_) rfl (by kernel_rfl) (by kernel_rfl) (by kernel_rfl) (fun _ _ _ h => h) (Or.inl ⟨by kernel_rfl, ?_⟩) (by assumption) ?_
                rotate_left
                · intro w hSw; (try dsimp only at hSw); go_simp; try with_reducible rfl
                simp only [Act.put, List.setIfInBounds_toArray, List.set_cons_zero, List.set_cons_succ]
                refine wpAnyH_take (i := 17) (oi := { dst := some 44, op := Go.Op.fieldAddr 99 (Go.Operand.tmp 4) 1, type := 0, pos := "l04_graph.go:21", after := #[{ on := 16, ground := Go.Ground.guard }], guard := some (16, false) }) (v := undef) rfl (by kernel_rfl) (by kernel_rfl) (by kernel_rfl) (fun _ _ _ h => h) (Or.inr ⟨by kernel_rfl, rfl⟩) (by assumption) ?_
                simp only [Act.put, List.setIfInBounds_toArray, List.set_cons_zero, List.set_cons_succ]
                refine wpAnyH_take (i := 18) (oi := { dst := some 45, op := Go.Op.load 5 (Go.Operand.tmp 44), type := 5, pos := "l04_graph.go:21", after := #[{ on := 17, ground := Go.Ground.data }, { on := 16, ground := Go.Ground.guard }], guard := some (16, false) }) (v := undef) rfl (by kernel_rfl) (by kernel_rfl) (by kernel_rfl) (fun _ _ _ h => h) (Or.inr ⟨by kernel_rfl, rfl⟩) (by assumption) ?_
                simp only [Act.put, List.setIfInBounds_toArray, List.set_cons_zero, List.set_cons_succ]
                refine wpAnyH_take (i := 19) (oi := { dst := some 46, op := Go.Op.binOp Go.BinOp.lss 5 (Go.Operand.tmp 45) (Go.Operand.const (Go.Value.int Go.IntKind.u8 97)) 5, type := 4, pos := "l04_graph.go:21", after := #[{ on := 18, ground := Go.Ground.data }, { on := 16, ground := Go.Ground.guard }], guard := some (16, false) }) (v := undef) rfl (by kernel_rfl) (by kernel_rfl) (by kernel_rfl) (fun _ _ _ h => h) (Or.inr ⟨by kernel_rfl, rfl⟩) (by assumption) ?_
                simp only [Act.put, List.setIfInBounds_toArray, List.set_cons_zero, List.set_cons_succ]
                refine wpAnyH_take (i := 20) (oi := { dst := some 47, op := Go.Op.pick (Go.Operand.tmp 43) (Go.Operand.const (Go.Value.bool true)) (Go.Operand.tmp 46), type := 4, pos := "l04_graph.go:21", after := #[{ on := 16, ground := Go.Ground.data }, { on := 19, ground := Go.Ground.data }], guard := none }) (v := ?_) rfl (by kernel_rfl) (by kernel_rfl) (by kernel_rfl) (fun _ _ _ h => h) (Or.inl ⟨by kernel_rfl, ?_⟩) (by assumption) ?_
                rotate_left
                · intro w hSw; (try dsimp only at hSw); go_simp; try with_reducible rfl
                simp only [Act.put, List.setIfInBounds_toArray, List.set_cons_zero, List.set_cons_succ]
                refine wpAnyH_take (i := 21) (oi := { dst := some 48, op := Go.Op.move (Go.Operand.tmp 47), type := 4, pos := "l04_graph.go:21", after := #[{ on := 20, ground := Go.Ground.data }, { on := 16, ground := Go.Ground.chain }], guard := none }) (v := ?_) rfl (by kernel_rfl) (by kernel_rfl) (by kernel_rfl) (fun _ _ _ h => h) (Or.inl ⟨by kernel_rfl, ?_⟩) (by assumption) ?_
                rotate_left
                · intro w hSw; (try dsimp only at hSw); go_simp; try with_reducible rfl
                simp only [Act.put, List.setIfInBounds_toArray, List.set_cons_zero, List.set_cons_succ]
                refine wpAnyH_take (i := 22) (oi := { dst := some 49, op := Go.Op.fieldAddr 99 (Go.Operand.tmp 4) 1, type := 0, pos := "l04_graph.go:21", after := #[{ on := 21, ground := Go.Ground.guard }], guard := some (21, false) }) (v := undef) rfl (by kernel_rfl) (by kernel_rfl) (by kernel_rfl) (fun _ _ _ h => h) (Or.inr ⟨by kernel_rfl, rfl⟩) (by assumption) ?_
                simp only [Act.put, List.setIfInBounds_toArray, List.set_cons_zero, List.set_cons_succ]
                refine wpAnyH_take (i := 23) (oi := { dst := some 50, op := Go.Op.load 5 (Go.Operand.tmp 49), type := 5, pos := "l04_graph.go:21", after := #[{ on := 22, ground := Go.Ground.data }, { on := 21, ground := Go.Ground.guard }], guard := some (21, false) }) (v := undef) rfl (by kernel_rfl) (by kernel_rfl) (by kernel_rfl) (fun _ _ _ h => h) (Or.inr ⟨by kernel_rfl, rfl⟩) (by assumption) ?_
                simp only [Act.put, List.setIfInBounds_toArray, List.set_cons_zero, List.set_cons_succ]
                refine wpAnyH_take (i := 24) (oi := { dst := some 51, op := Go.Op.binOp Go.BinOp.gtr 5 (Go.Operand.tmp 50) (Go.Operand.const (Go.Value.int Go.IntKind.u8 100)) 5, type := 4, pos := "l04_graph.go:21", after := #[{ on := 23, ground := Go.Ground.data }, { on := 21, ground := Go.Ground.guard }], guard := some (21, false) }) (v := undef) rfl (by kernel_rfl) (by kernel_rfl) (by kernel_rfl) (fun _ _ _ h => h) (Or.inr ⟨by kernel_rfl, rfl⟩) (by assumption) ?_
                simp only [Act.put, List.setIfInBounds_toArray, List.set_cons_zero, List.set_cons_succ]
                refine wpAnyH_take (i := 25) (oi := { dst := some 52, op := Go.Op.pick (Go.Operand.tmp 48) (Go.Operand.const (Go.Value.bool true)) (Go.Operand.tmp 51), type := 4, pos := "l04_graph.go:21", after := #[{ on := 21, ground := Go.Ground.data }, { on := 24, ground := Go.Ground.data }], guard := none }) (v := ?_) rfl (by kernel_rfl) (by kernel_rfl) (by kernel_rfl) (fun _ _ _ h => h) (Or.inl ⟨by kernel_rfl, ?_⟩) (by assumption) ?_
                rotate_left
                · intro w hSw; (try dsimp only at hSw); go_simp; try with_reducible rfl
                simp only [Act.put, List.setIfInBounds_toArray, List.set_cons_zero, List.set_cons_succ]
                refine wpAnyH_take (i := 26) (oi := { dst := some 53, op := Go.Op.move (Go.Operand.tmp 52), type := 4, pos := "l04_graph.go:21", after := #[{ on := 25, ground := Go.Ground.data }, { on := 21, ground := Go.Ground.chain }], guard := none }) (v := ?_) rfl (by kernel_rfl) (by kernel_rfl) (by kernel_rfl) (fun _ _ _ h => h) (Or.inl ⟨by kernel_rfl, ?_⟩) (by assumption) ?_
                rotate_left
                · intro w hSw; (try dsimp only at hSw); go_simp; try with_reducible rfl
                simp only [Act.put, List.setIfInBounds_toArray, List.set_cons_zero, List.set_cons_succ]
                refine wpAnyH_take (i := 27) (oi := { dst := some 54, op := Go.Op.move (Go.Operand.tmp 3), type := 3, pos := "l04_graph.go:21", after := #[{ on := 26, ground := Go.Ground.guard }], guard := some (26, false) }) (v := undef) rfl (by kernel_rfl) (by kernel_rfl) (by kernel_rfl) (fun _ _ _ h => h) (Or.inr ⟨by kernel_rfl, rfl⟩) (by assumption) ?_
                simp only [Act.put, List.setIfInBounds_toArray, List.set_cons_zero, List.set_cons_succ]
                refine wpAnyH_take (i := 28) (oi := { dst := some 55, op := Go.Op.binOp Go.BinOp.gtr 3 (Go.Operand.tmp 54) (Go.Operand.const (Go.Value.int Go.IntKind.i64 0)) 3, type := 4, pos := "l04_graph.go:21", after := #[{ on := 27, ground := Go.Ground.data }, { on := 26, ground := Go.Ground.guard }], guard := some (26, false) }) (v := undef) rfl (by kernel_rfl) (by kernel_rfl) (by kernel_rfl) (fun _ _ _ h => h) (Or.inr ⟨by kernel_rfl, rfl⟩) (by assumption) ?_
                simp only [Act.put, List.setIfInBounds_toArray, List.set_cons_zero, List.set_cons_succ]
                refine wpAnyH_take (i := 29) (oi := { dst := some 56, op := Go.Op.move (Go.Operand.tmp 55), type := 4, pos := "l04_graph.go:21", after := #[{ on := 28, ground := Go.Ground.data }, { on := 26, ground := Go.Ground.chain }, { on := 26, ground := Go.Ground.guard }], guard := some (26, false) }) (v := undef) rfl (by kernel_rfl) (by kernel_rfl) (by kernel_rfl) (fun _ _ _ h => h) (Or.inr ⟨by kernel_rfl, rfl⟩) (by assumption) ?_
                simp only [Act.put, List.setIfInBounds_toArray, List.set_cons_zero, List.set_cons_succ]
                refine wpAnyH_take (i := 30) (oi := { dst := some 57, op := Go.Op.fieldAddr 26 (Go.Operand.tmp 1) 1, type := 0, pos := "l04_graph.go:21", after := #[{ on := 29, ground := Go.Ground.guard }], guard := some (29, true) }) (v := undef) rfl (by kernel_rfl) (by kernel_rfl) (by kernel_rfl) (fun _ _ _ h => h) (Or.inr ⟨by kernel_rfl, rfl⟩) (by assumption) ?_
                simp only [Act.put, List.setIfInBounds_toArray, List.set_cons_zero, List.set_cons_succ]
                refine wpAnyH_take (i := 31) (oi := { dst := some 58, op := Go.Op.load 24 (Go.Operand.tmp 57), type := 24, pos := "l04_graph.go:21", after := #[{ on := 30, ground := Go.Ground.data }, { on := 29, ground := Go.Ground.guard }], guard := some (29, true) }) (v := undef) rfl (by kernel_rfl) (by kernel_rfl) (by kernel_rfl) (fun _ _ _ h => h) (Or.inr ⟨by kernel_rfl, rfl⟩) (by assumption) ?_
                simp only [Act.put, List.setIfInBounds_toArray, List.set_cons_zero, List.set_cons_succ]
                refine wpAnyH_take (i := 32) (oi := { dst := some 59, op := Go.Op.move (Go.Operand.tmp 3), type := 3, pos := "l04_graph.go:21", after := #[{ on := 29, ground := Go.Ground.guard }], guard := some (29, true) }) (v := undef) rfl (by kernel_rfl) (by kernel_rfl) (by kernel_rfl) (fun _ _ _ h => h) (Or.inr ⟨by kernel_rfl, rfl⟩) (by assumption) ?_
                simp only [Act.put, List.setIfInBounds_toArray, List.set_cons_zero, List.set_cons_succ]
                refine wpAnyH_take (i := 33) (oi := { dst := some 60, op := Go.Op.binOp Go.BinOp.sub 3 (Go.Operand.tmp 59) (Go.Operand.const (Go.Value.int Go.IntKind.i64 1)) 3, type := 3, pos := "l04_graph.go:21", after := #[{ on := 32, ground := Go.Ground.data }, { on := 29, ground := Go.Ground.guard }], guard := some (29, true) }) (v := undef) rfl (by kernel_rfl) (by kernel_rfl) (by kernel_rfl) (fun _ _ _ h => h) (Or.inr ⟨by kernel_rfl, rfl⟩) (by assumption) ?_
                simp only [Act.put, List.setIfInBounds_toArray, List.set_cons_zero, List.set_cons_succ]
                refine wpAnyH_take (i := 34) (oi := { dst := some 61, op := Go.Op.indexAddr 24 (Go.Operand.tmp 58) (Go.Operand.tmp 60), type := 0, pos := "l04_graph.go:21", after := #[{ on := 31, ground := Go.Ground.data }, { on := 33, ground := Go.Ground.data }, { on := 29, ground := Go.Ground.guard }], guard := some (29, true) }) (v := undef) rfl (by kernel_rfl) (by kernel_rfl) (by kernel_rfl) (fun _ _ _ h => h) (Or.inr ⟨by kernel_rfl, rfl⟩) (by assumption) ?_
                simp only [Act.put, List.setIfInBounds_toArray, List.set_cons_zero, List.set_cons_succ]
                refine wpAnyH_take (i := 35) (oi := { dst := some 62, op := Go.Op.load 99 (Go.Operand.tmp 61), type := 99, pos := "l04_graph.go:21", after := #[{ on := 34, ground := Go.Ground.data }, { on := 29, ground := Go.Ground.guard }], guard := some (29, true) }) (v := undef) rfl (by kernel_rfl) (by kernel_rfl) (by kernel_rfl) (fun _ _ _ h => h) (Or.inr ⟨by kernel_rfl, rfl⟩) (by assumption) ?_
                simp only [Act.put, List.setIfInBounds_toArray, List.set_cons_zero, List.set_cons_succ]
                refine wpAnyH_take (i := 36) (oi := { dst := some 63, op := Go.Op.load 99 (Go.Operand.tmp 4), type := 99, pos := "l04_graph.go:21", after := #[{ on := 29, ground := Go.Ground.guard }], guard := some (29, true) }) (v := undef) rfl (by kernel_rfl) (by kernel_rfl) (by kernel_rfl) (fun _ _ _ h => h) (Or.inr ⟨by kernel_rfl, rfl⟩) (by assumption) ?_
                simp only [Act.put, List.setIfInBounds_toArray, List.set_cons_zero, List.set_cons_succ]
                refine wpAnyH_ready (rs := [37]) (by kernel_rfl) (by simp) ?_
                refine AllReadyH.cons (o := { dst := some 64, op := Go.Op.call { callee := Go.Callee.value (Go.Operand.func 66), args := #[Go.Operand.tmp 62, Go.Operand.tmp 63], argTypes := #[99, 99] }, type := 4, pos := "l04_graph.go:21", after := #[{ on := 35, ground := Go.Ground.data }, { on := 36, ground := Go.Ground.data }, { on := 29, ground := Go.Ground.chain }, { on := 29, ground := Go.Ground.guard }], guard := some (29, true) }) rfl (fun K hK => ?_) ?_
                · rw [if_neg (by refine Bool.eq_false_iff.1 ?_; kernel_rfl)]
                  refine hK.out _ _ hHeld (fun hHeld => ?_)
                  clear hK K
                  try simp only [Act.put, List.setIfInBounds_toArray, List.set_cons_zero, List.set_cons_succ]
                  refine wpAnyH_take (i := 38) (oi := { dst := some 65, op := Go.Op.unOp Go.UnOp.not 4 (Go.Operand.tmp 64), type := 4, pos := "l04_graph.go:21", after := #[{ on := 37, ground := Go.Ground.data }, { on := 29, ground := Go.Ground.guard }], guard := some (29, true) }) (v := undef) rfl (by kernel_rfl) (by kernel_rfl) (by kernel_rfl) (fun _ _ _ h => h) (Or.inr ⟨by kernel_rfl, rfl⟩) (by assumption) ?_
                  simp only [Act.put, List.setIfInBounds_toArray, List.set_cons_zero, List.set_cons_succ]
                  refine wpAnyH_take (i := 39) (oi := { dst := some 66, op := Go.Op.pick (Go.Operand.tmp 56) (Go.Operand.tmp 65) (Go.Operand.const (Go.Value.bool false)), type := 4, pos := "l04_graph.go:21", after := #[{ on := 29, ground := Go.Ground.data }, { on := 38, ground := Go.Ground.data }, { on := 26, ground := Go.Ground.guard }], guard := some (26, false) }) (v := undef) rfl (by kernel_rfl) (by kernel_rfl) (by kernel_rfl) (fun _ _ _ h => h) (Or.inr ⟨by kernel_rfl, rfl⟩) (by assumption) ?_
                  simp only [Act.put, List.setIfInBounds_toArray, List.set_cons_zero, List.set_cons_succ]
                  refine wpAnyH_take (i := 40) (oi := { dst := some 67, op := Go.Op.pick (Go.Operand.tmp 53) (Go.Operand.const (Go.Value.bool true)) (Go.Operand.tmp 66), type := 4, pos := "l04_graph.go:21", after := #[{ on := 26, ground := Go.Ground.data }, { on := 39, ground := Go.Ground.data }], guard := none }) (v := ?_) rfl (by kernel_rfl) (by kernel_rfl) (by kernel_rfl) (fun _ _ _ h => h) (Or.inl ⟨by kernel_rfl, ?_⟩) (by assumption) ?_
                  rotate_left
                  · intro w hSw; (try dsimp only at hSw); go_simp; try with_reducible rfl
                  simp only [Act.put, List.setIfInBounds_toArray, List.set_cons_zero, List.set_cons_succ]
                  refine wpAnyH_done (by kernel_rfl) ?_ _
                  clear hHeld
                  go_wp2
                  go_ret
                  refine ⟨?_, HLW.out.drew⟩
                  have : r = false := by rw [HR.out]; exact okG_no (k := k) (by rw [HN.out]; exact hlt) (okGAt_no HOE.out)
                  rw [this]; rfl
                exact AllReadyH.nil
              exact AllReadyH.nil
            exact AllReadyH.nil
        · go_wp2
          go_ret
          refine ⟨?_, HL⟩
          have : r = true := by
            obtain rfl : k = n := by omega
            rw [HR.out]; unfold okG; rw [HN.out, HE.out]; simp [h12, h3]
          rw [this]; rfl
    · have hd3 : decide ((40 : Int) < (n : Int)) = true := by simp; omega
      obtain rfl : r = false := by rw [HR.out]; unfold okG; rw [HN.out]; simp [h3]
      go_enter Try.func44, Try.ntmps44
      go_wp2_with (go_at_call 46; refine (HIN.out _).mono ?_; rintro e w1' ⟨rfl, rfl⟩)
      go_ret
      exact ⟨rfl, below1 _ _⟩
  · subst ht
    obtain rfl : r = false := by
      rw [HR.out]; unfold okG
      rw [← HTK.out]; rfl
    go_enter Try.func44, Try.ntmps44
    go_wp2_with (go_at_call 46; refine (HIN.out _).mono ?_; rintro e w1' ⟨rfl, rfl⟩)
    go_ret
    exact ⟨rfl, below1 _ _⟩
end Go.Proofs.Ytdbogikcmfnpdaa

/-
  The model's PathEnds.
-/
namespace Go.Proofs.Ytdbogikcmfnpdaa
open Go.RowKit

theorem endsL_snoc (R : Rl) (i k : Nat) : endsL (k + 1) R i = if R i k = true then endsL k R i ++ [(k : Int)] else endsL k R i := by
  unfold endsL
  rw [List.range_succ, List.filter_append]
  by_cases h : R i k = true
  · simp [h]
  · simp [h]
theorem cell_empty (w : World) (T : TypeId) (b j : Nat) (hb : b = w.heap.size) : (w.alloc (.cells #[] T)).cell? ⟨b, j, none⟩ = none := by
  rw [cell_of_row _ b j #[] T (0, 0) (by rw [hb]; exact heap_alloc_new w _)]
  rfl

set_option maxHeartbeats 1000000 in
set_option maxRecDepth 100000 in
theorem specEnds_any (lo hi : Nat) (s : Int) (a : Option Addr) (n cap : Nat) (l : List Ed) (lo2 hi2 : Nat) (b : Option Addr) (m mc : Nat) (ps : List Pc) (f : Int) (w : World) (ha : EdgesIn lo hi w a l) (hh : hi ≤ w.heap.size) (hn : l.length = n) (hm : n ≤ 1048576)
    (hb : PathIn lo2 hi2 w b ps) (hh2 : hi2 ≤ w.heap.size) (hn2 : ps.length = m) (hm2 : m ≤ 1048576) (hq : ∀ i, i < m → (pat ps i).2.2.length ≤ 1048576) :
    Calls Try.prog 18 #[gv s a n cap, pv b m mc, .int .i64 f] w fun e w' => ∃ (a' : Option Addr) (n' c' : Nat), e = .returned (.slice a' n' c') ∧ Hid ((pEnds s l ps f).length = n') ∧ Hid (RowOwn w.heap.size w'.heap.size w' a' (pEnds s l ps f)) ∧ Hid (Below w.heap.size w w') := by
  have HN : Hid (l.length = n) := hn
  have HA : Hid (EdgesIn lo hi w a l) := ha
  have HH : Hid (hi ≤ w.heap.size) := hh
  have HP : Hid (PathIn lo2 hi2 w b ps) := hb
  have HH2 : Hid (hi2 ≤ w.heap.size) := hh2
  have HN2 : Hid (ps.length = m) := hn2
  have HQ : Hid (∀ i, i < m → (pat ps i).2.2.length ≤ 1048576) := hq
  clear ha hh hn hb hh2 hn2 hq
  obtain ⟨i3, hi3, hz30, hz31, hz32⟩ := info_parts Try.info3
  obtain ⟨B, HB⟩ : ∃ B, Hid (B = w.heap.size) := ⟨_, rfl⟩
  obtain ⟨W, HW⟩ : ∃ W, Hid (W = ((w.alloc (.cells #[.int .i64 s, .slice a n cap] 26)).alloc (.cells #[.slice b m mc] 36)).alloc (.cells #[] 3)) := ⟨_, rfl⟩
  have HBW : Hid (Below w.heap.size w W) := by rw [HW.out]; exact below3 w _ _ _
  have HSW : Hid (W.heap.size = B + 3) := by rw [HW.out, HB.out]; show _ = _; simp
  have HG : Hid (Blk W B 2 (fun i => if i = 0 then .int .i64 s else .slice a n cap)) := by rw [HW.out]; exact ((blk_two w B HB.out _ _ _).alloc _).alloc _
  have HPB : Hid (Blk W (B + 1) 1 (fun _ => .slice b m mc)) := by rw [HW.out]; exact (blk_one _ (B + 1) (by rw [HB.out]; simp) _ _).alloc _
  have HEM : Hid (∀ j, W.cell? ⟨B + 1 + 1, j, none⟩ = none) := by
    intro j
    rw [HW.out]
    exact cell_empty _ _ _ _ (by rw [HB.out]; simp)
  have HO : Hid (W.ownsRow (B + 2) 3 1 (.slice (some ⟨B + 1 + 1, 0, none⟩) 0 0) 0 []) := by
    have h := World.ownsRow_made ((w.alloc (.cells #[.int .i64 s, .slice a n cap] 26)).alloc (.cells #[.slice b m mc] 36)) (base := B + 2) (e := 3) (size := 1) #[] 0 (by rw [HB.out]; simp) (Nat.zero_le _) rfl
    rw [← HW.out] at h
    have e : ((w.alloc (.cells #[.int .i64 s, .slice a n cap] 26)).alloc (.cells #[.slice b m mc] 36)).heap.size = B + 1 + 1 := by rw [HB.out]; simp
    rw [e] at h
    exact h
  have q0 := HPB.out.cell (i := 0) (by omega)
  obtain ⟨g0, g1⟩ := blk_pair_cells HG.out
  obtain ⟨RG, HRG⟩ : ∃ r, Hid (r = okG s l) := ⟨_, rfl⟩
  obtain ⟨RP, HRP⟩ : ∃ r, Hid (r = okP ps) := ⟨_, rfl⟩
  obtain ⟨V, HV⟩ : ∃ V, Hid (V = inV s f) := ⟨_, rfl⟩
  have HNO : Hid (RG = false ∨ RP = false ∨ V = false → pEnds s l ps f = []) := by
    intro h
    unfold pEnds
    rw [← HRG.out, ← HRP.out, ← HV.out]
    rcases h with h | h | h <;> simp [h]
  have HEND : Hid (∀ wx, Below W.heap.size W wx → pEnds s l ps f = [] → ∃ (a' : Option Addr) (n' c' : Nat), Ending.returned (.slice (some ⟨B + 1 + 1, 0, none⟩) 0 0) = .returned (.slice a' n' c') ∧ Hid ((pEnds s l ps f).length = n') ∧ Hid (RowOwn w.heap.size wx.heap.size wx a' (pEnds s l ps f)) ∧ Hid (Below w.heap.size w wx)) := by
    intro wx h1 h2
    rw [h2]
    exact ⟨_, _, _, rfl, rfl, .inl rfl, HBW.out.trans (h1.mono HBW.out.size)⟩
  unfold pv
  go_enter Try.func18, Try.ntmps18
  obtain ⟨FF, HFF⟩ : ∃ F : Func, Hid (F = Try.f18) := ⟨_, rfl⟩
  rw [← HFF.out]
  go_upto_region 2 with fail
  rw [← HB.out, ← HW.out]
  clear HW
  go_wp2_with fail
  refine (specGOk_any lo hi s a n cap l RG W (HA.out.below HBW.out HH.out) (Nat.le_trans HH.out HBW.out.size) HN.out hm HRG.out).mono ?_
  rintro e w1 ⟨rfl, HB1⟩
  have HG1 : Hid (Blk w1 B 2 (fun i => if i = 0 then .int .i64 s else .slice a n cap)) := HG.out.of_block (HB1.out.block _ HG.out.lt)
  have HPB1 : Hid (Blk w1 (B + 1) 1 (fun _ => .slice b m mc)) := HPB.out.of_block (HB1.out.block _ HPB.out.lt)
  clear q0 g0 g1
  rcases Bool.eq_false_or_eq_true RG with hr | hr
  · subst hr
    have q0 := HPB1.out.cell (i := 0) (by omega)
    go_wp2_with fail
    refine (specPathOk_any lo2 hi2 b m mc ps RP w1 (HP.out.below (HBW.out.trans (HB1.out.mono HBW.out.size)) HH2.out) (Nat.le_trans HH2.out (Nat.le_trans HBW.out.size HB1.out.size)) HN2.out hm2 HQ.out HRP.out).mono ?_
    rintro e w2 ⟨rfl, HB2⟩
    have HBX2 : Hid (Below W.heap.size W w2) := HB1.out.trans (HB2.out.mono HB1.out.size)
    have HG2 : Hid (Blk w2 B 2 (fun i => if i = 0 then .int .i64 s else .slice a n cap)) := HG.out.of_block (HBX2.out.block _ HG.out.lt)
    have HPB2 : Hid (Blk w2 (B + 1) 1 (fun _ => .slice b m mc)) := HPB.out.of_block (HBX2.out.block _ HPB.out.lt)
    clear q0
    rcases Bool.eq_false_or_eq_true RP with hr | hr
    · subst hr
      obtain ⟨g0, g1⟩ := blk_pair_cells HG2.out
      have q0 := HPB2.out.cell (i := 0) (by omega)
      have hs12 := okG_12 (show okG s l = true from HRG.out.symm)
      have hsw : IntKind.i64.wrap (s - 1) = s - 1 := by rw [IntKind.wrap_i64]; omega
      go_wp2_with fail
      refine (l01In_any f 0 (s - 1) w2).mono ?_
      rintro e w3 ⟨rfl, rfl⟩
      rw [inV_in, ← HV.out]
      rcases Bool.eq_false_or_eq_true V with hr | hr
      · subst hr
        obtain ⟨NN, rfl⟩ : ∃ NN : Nat, s = (NN : Int) := ⟨s.toNat, by omega⟩
        have hin : 0 ≤ f ∧ f < (NN : Int) := by have := HV.out; unfold inV at this; simpa using this.symm
        obtain ⟨z, rfl⟩ : ∃ z : Nat, f = (z : Int) := ⟨f.toNat, by omega⟩
        have hz1 : z < NN := by omega
        have hN12 : NN ≤ 12 := by omega
        have hm60 := okP_len (show okP ps = true from HRP.out.symm)
        rw [HN2.out] at hm60
        obtain ⟨mz, rfl⟩ : ∃ mz, m = mz + 1 := ⟨m - 1, by omega⟩
        obtain ⟨RR, HRR⟩ : ∃ R : Rl, Hid (R = ldR NN l ps) := ⟨_, rfl⟩
        have HPP : Hid (pEnds (NN : Int) l ps (z : Int) = endsL NN RR z) := by
          show _ = _
          unfold pEnds
          rw [← HRG.out, ← HRP.out, ← HV.out, HRR.out]
          rfl
        have HBW2 : Hid (Below w.heap.size w w2) := HBW.out.trans (HBX2.out.mono HBW.out.size)
        go_wp2_with fail
        refine (l06Full_any lo hi NN a n cap l lo2 hi2 b (mz + 1) mc ps w2 (HA.out.below HBW2.out HH.out) (Nat.le_trans HH.out HBW2.out.size) HN.out hm (HP.out.below HBW2.out HH2.out) (Nat.le_trans HH2.out HBW2.out.size) HN2.out (by omega) HQ.out HRG.out.symm (fun k hk => okP_at HRP.out.symm (by rw [HN2.out]; exact hk))).mono ?_
        rintro e w4 ⟨v4, rfl, HAL, HB4⟩
        have HBX4 : Hid (Below W.heap.size W w4) := HBX2.out.trans (HB4.out.mono HBX2.out.size)
        obtain ⟨g, gc, pk, ck, rfl, hgl, hcl, hbk⟩ := HAL.out.at (i := mz) (by omega)
        have hRe : (relTo NN l ps (mz + 1)).getD mz noR = RR := by
          rw [HRR.out]; unfold ldR; rw [HN2.out]; rfl
        rw [hRe] at hbk
        obtain ⟨N2, HNN⟩ : ∃ k, Hid (k = NN * NN) := ⟨_, rfl⟩
        have hnn1 : N2 ≤ 144 := by rw [HNN.out]; exact nn_le hN12
        rw [← HNN.out] at hcl
        have HBK : Hid (BM w4 pk NN RR) := hbk
        have HCL : Hid (w4.cell? ⟨g, mz, none⟩ = some (.slice (some ⟨pk, 0, none⟩) N2 ck)) := hcl
        have HEM4 : Hid (∀ j, w4.cell? ⟨B + 1 + 1, j, none⟩ = none) := by
          intro j
          rw [← HEM.out j]
          exact World.cell?_of_block (a := ⟨B + 1 + 1, j, none⟩) (HBX4.out.block (B + 1 + 1) (by have := HSW.out; omega))
        have HNE : Hid (g ≠ B + 1 + 1 ∧ pk ≠ B + 1 + 1 ∧ g < w4.heap.size) := by
          refine ⟨fun e => ?_, fun e => ?_, hgl⟩
          · rw [e, HEM4.out] at hcl; cases hcl
          · have := hbk.get hz1 hz1
            rw [e, HEM4.out] at this; cases this
        obtain ⟨Qz, HQz⟩ : ∃ k, Hid (k = z * NN) := ⟨_, rfl⟩
        have hqz : (z : Int) * (NN : Int) = (Qz : Int) := by rw [HQz.out]; simp
        have HO4 : Hid (w4.ownsRow (B + 2) 3 1 (.slice (some ⟨B + 1 + 1, 0, none⟩) 0 0) 0 []) := own_below HO.out HBX4.out
        have HB24 : Hid (B + 3 ≤ w4.heap.size) := by rw [← HSW.out]; exact HBX4.out.size
        have hmz : mz < 60 := by omega
        clear hcl hbk hRe HAL q0 g0 g1 hgl HEM HEM4 HNO HEND
        go_wp2
        go_loopw [9, 7] (fun i v wr => ∃ (k k' : Nat) (v7 : Value), i = .int .i64 k ∧ v7 = v ∧ k ≤ NN ∧ Hid ((endsL k RR z).length = k') ∧ Hid (wr.ownsRow (B + 2) 3 1 v7 k' (rowCells (endsL k RR z))) ∧ Hid (KeptP (fun c => c = B + 1 + 1 ∨ w4.heap.size ≤ c) w4 wr) ∧ Hid (∀ c, v7.ownBlock = some c → c = B + 1 + 1 ∨ w4.heap.size ≤ c)) (fun i _ _ => NN - (intOf i).toNat)
        case atStart => exact ⟨0, 0, _, rfl, rfl, by omega, rfl, HO4, KeptP.refl _ _, fun c hc => .inl (by simpa [Value.ownBlock] using hc.symm)⟩
        case round =>
          obtain ⟨k, k', v7, rfl, rfl, hk, HKL, HOW, HUS, HVB⟩ := hrel
          have HBR : Hid (Below (B + 2) w4 wr) := HUS.out.to_below (by have := HB24.out; omega) (fun c hc => by have := HB24.out; omega)
          have HGR : Hid (Blk wr B 2 (fun i => if i = 0 then .int .i64 (NN : Int) else .slice a n cap)) := (HG.out.of_block (HBX4.out.block _ HG.out.lt)).of_block (HBR.out.block _ (by omega))
          have HPBR : Hid (Blk wr (B + 1) 1 (fun _ => .slice b (mz + 1) mc)) := (HPB.out.of_block (HBX4.out.block _ HPB.out.lt)).of_block (HBR.out.block _ (by omega))
          have hk' : k' ≤ 12 := by rw [← HKL.out]; exact Nat.le_trans (endsL_len _ _ _) (by omega)
          obtain ⟨g0, g1⟩ := blk_pair_cells HGR.out
          have q0 := HPBR.out.cell (i := 0) (by omega)
          by_cases hlt : k < NN
          · have hlt1 : (k : Int) < (NN : Int) := by omega
            have hk0 : (0 : Int) ≤ (k : Int) := by omega
            have hcr := HUS.out.cell HCL.out HNE.out.2.2 (by rintro (h | h) <;> have := HNE.out <;> omega)
            have HBKR : Hid (BM wr pk NN RR) := HBK.out.of (HUS.out.block _ HBK.out.lt (by rintro (h | h) <;> have := HNE.out <;> have := HBK.out.lt <;> omega))
            have hco := HBKR.out.get hz1 hlt
            rw [← HQz.out] at hco
            have hb1 : Qz + k < N2 := by rw [HQz.out, HNN.out]; exact idx_lt hz1 hlt
            have hmz0 : (0 : Int) ≤ (mz : Int) := by omega
            have hmz1 : (mz : Int) < ((mz + 1 : Nat) : Int) := by omega
            have HSN := endsL_snoc RR z k
            obtain ⟨x, HX⟩ : ∃ x, Hid (x = RR z k) := ⟨_, rfl⟩
            rw [← HX.out] at hco HSN
            have hszr := HUS.out.size
            rcases Bool.eq_false_or_eq_true x with hr | hr
            · subst hr
              have HSN2 : Hid (endsL (k + 1) RR z = endsL k RR z ++ [(k : Int)]) := by show _ = _; simpa using HSN
              clear HSN
              go_wp2_with fail
              go_quiet (fail)
              obtain ⟨V, HVV⟩ : ∃ V, Hid (V = wr.drewN nq) := ⟨_, rfl⟩
              have HBV : Hid (Below wr.heap.size wr V) := by rw [HVV.out]; exact below_drewN (Below.refl _ _) _
              rw [← HVV.out]
              have HUV : Hid (KeptP (fun c => c = B + 1 + 1 ∨ w4.heap.size ≤ c) w4 V) := HUS.out.trans (KeptP.of_below HBV.out (fun _ hk _ => hk))
              have hown := (own_below HOW.out HBV.out).alloc (.cells #[.int .i64 (k : Int)] 3)
              have hszV := HUV.out.size
              have hB4 := HB24.out
              clear HVV hco hcr g0 g1 q0
              go_wp2_with (at_builtin; refine wpList_append_lies _ rfl (.tmp 52) (.tmp 54) 29 rfl (B + 2) 3 i3 (.int .i64 0) 1 8 Try.underlying29 hi3 hz30 hz31 hz32 rfl (by decide) _ k' (rowCells (endsL k RR z)) rfl hown ⟨V.heap.size, 0, none⟩ 1 1 [.int .i64 (k : Int)] rfl rfl (cell_one_new' V (.int .i64 (k : Int)) 3) (by simp [Value.oneCell']) (by decide) (by unfold maxLen; omega) (by omega) (by simp; omega) _ rfl ?_)
              intro g5 cap5 w6 hown5 hgrow5 hloc5 hg5
              have HO6 : Hid (w6.ownsRow (B + 2) 3 1 (.slice (some ⟨g5, 0, none⟩) (k' + 1) cap5) (k' + 1) (rowCells (endsL (k + 1) RR z))) := by rw [HSN2.out, rowCells_snoc]; exact hown5
              have HG6 : Hid (KeptP (fun c => v7.ownBlock = some c) V w6) := (KeptP.of_below (below1 V _) (fun _ hk _ => hk)).trans ⟨hgrow5.os, hgrow5.tape, hgrow5.output, hgrow5.size, fun k hk hn => hgrow5.block k hk (fun e => hn e.symm)⟩
              have HU6 : Hid (KeptP (fun c => c = B + 1 + 1 ∨ w4.heap.size ≤ c) w4 w6) := HUV.out.trans (HG6.out.mono HVB.out)
              have HK6 : Hid ((endsL (k + 1) RR z).length = k' + 1) := by show _ = _; rw [HSN2.out, List.length_append, HKL.out]; rfl
              have HV6 : Hid (∀ c, (Value.slice (some ⟨g5, 0, none⟩) (k' + 1) cap5).ownBlock = some c → c = B + 1 + 1 ∨ w4.heap.size ≤ c) := by
                intro c hcc
                have e5 : g5 = c := by simpa [Value.ownBlock] using hcc
                subst e5
                rcases hloc5 with h | h
                · exact HVB.out _ h
                · right; omega
              clear hown hown5 hgrow5 hloc5 hg5
              go_wp2
              go_roundw
              case rel => exact ⟨k + 1, k' + 1, _, by go_num, rfl, by omega, HK6, HO6, HU6, HV6⟩
              case measure => simp [intOf]; omega
            · subst hr
              have HSN2 : Hid (endsL (k + 1) RR z = endsL k RR z) := by show _ = _; simpa using HSN
              clear HSN
              go_wp2_with fail
              go_quiet (fail)
              go_wp2
              go_roundw
              case rel => exact ⟨k + 1, k', v7, by go_num, rfl, by omega, by rw [HSN2.out]; exact HKL, by rw [HSN2.out]; exact own_below HOW.out (below_drewN (Below.refl _ _) _), HUS.out.trans (KeptP.of_below (below_drewN (Below.refl _ _) _) (fun _ hk _ => hk)), HVB⟩
              case measure => simp [intOf]; omega
          · obtain rfl : k = NN := by omega
            obtain ⟨ra7, rc7, rfl, HRO⟩ := rowOwn_of HOW.out HKL.out
            have HRO7 : Hid (RowOwn (B + 2) wr.heap.size wr ra7 (endsL k RR z)) := HRO
            clear HRO
            go_wp2
            obtain rfl : FF = Try.f18 := HFF.out
            go_ret
            rw [HPP.out]
            exact ⟨ra7, k', rc7, rfl, HKL, HRO7.out.wide (by have := HB.out; omega) (Nat.le_refl _), (HBW2.out.trans (HB4.out.mono HBW2.out.size)).trans (HBR.out.mono (by have := HB.out; omega))⟩
      · subst hr
        go_wp2
        obtain rfl : FF = Try.f18 := HFF.out
        go_ret
        exact HEND.out _ HBX2.out (HNO.out (by simp))
    · subst hr
      go_wp2
      obtain rfl : FF = Try.f18 := HFF.out
      go_ret
      exact HEND.out _ HBX2.out (HNO.out (by simp))
  · subst hr
    go_wp2
    obtain rfl : FF = Try.f18 := HFF.out
    go_ret
    exact HEND.out _ HB1.out (HNO.out (by simp))
end Go.Proofs.Ytdbogikcmfnpdaa

/-
  The walk of FnExactPathEnds.
-/
namespace Go.Proofs.Ytdbogikcmfnpdaa
open Go.RowKit
set_option maxHeartbeats 400000 in
theorem szGraph_two (a : Option Addr) (n cap L : Nat) (s : Int) (w : World) (hm : n ≤ 9223372036854775807) (hL : L ≤ 1048576) :
    Calls Try.prog 16 #[.agg #[.int .i64 s, .slice a n cap], .int .i64 (L : Int)] w fun e w' => ∃ x : Int, e = .returned (.int .i64 x) ∧ Hid (x < 0 ∨ (n ≤ L ∧ ∃ m : Nat, x = (m : Int) ∧ m ≤ L)) ∧ Hid (Below w.heap.size w w') := by
  by_cases h : n ≤ L
  · have hn : ¬ ((L - n : Nat) : Int) < 0 := by omega
    go_enter Try.func16, Try.ntmps16
    go_wp2_with fail
    refine (szEdges_yes a n cap L _ hm hL h).mono ?_
    rintro e w' ⟨rfl, rfl⟩
    go_wp2
    go_ret
    exact ⟨_, rfl, .inr ⟨h, _, rfl, by omega⟩, (Below.refl _ _).alloc (Nat.le_refl _) _⟩
  · go_enter Try.func16, Try.ntmps16
    go_wp2_with fail
    refine (szEdges_no a n cap L _ hm hL (by omega)).mono ?_
    rintro e w' ⟨rfl, rfl⟩
    go_wp2
    go_ret
    exact ⟨-1, rfl, .inl (by omega), (Below.refl _ _).alloc (Nat.le_refl _) _⟩

set_option maxHeartbeats 16000000 in
set_option maxRecDepth 100000 in
theorem law_8 (s0 : Int) (a0 : Option Addr) (n0 cap0 : Nat) (l0 : List Ed) (a1 : Option Addr) (n1 cap1 : Nat) (l1 : List Pc) (z2 : Int) (w : World) (hm0 : n0 ≤ maxLen) (hl0 : l0.length = n0) (hr0 : EdgesIn 0 w.heap.size w a0 l0) (hm1 : n1 ≤ maxLen) (hl1 : l1.length = n1 ∧ ∀ i, i < n1 → (pat l1 i).2.2.length ≤ maxLen) (hr1 : PathIn 0 w.heap.size w a1 l1) (_hz2 : -9223372036854775808 ≤ z2 ∧ z2 ≤ 9223372036854775807) :
    Calls Try.prog 5 #[gv s0 a0 n0 cap0, pv a1 n1 cap1, .int .i64 z2] w fun e w' => e = .returned (.bool true) ∧ Below w.heap.size w w' := by
  have HR1 : Hid (PathIn 0 w.heap.size w a1 l1) := hr1
  have HL1 : Hid (l1.length = n1) := hl1.1
  have HLM1 : Hid (∀ i, i < n1 → (pat l1 i).2.2.length ≤ maxLen) := hl1.2
  have HMX1 : Hid (n1 ≤ maxLen) := hm1
  clear hr1 hl1 hm1
  have HR0 : Hid (EdgesIn 0 w.heap.size w a0 l0) := hr0
  have HL0 : Hid (l0.length = n0) := hl0
  have HMX : Hid (n0 ≤ 9223372036854775807) := by unfold maxLen at hm0; show _ ≤ _; omega
  clear hr0 hl0 hm0
  clear _hz2
  obtain ⟨LL, HLL⟩ : ∃ LL, Hid (LL = pEnds s0 l0 l1 z2) := ⟨_, rfl⟩
  have HLN : Hid (LL.length ≤ 12) := by
    show _ ≤ _
    rw [HLL.out]
    unfold pEnds
    split
    · rename_i h
      simp only [Bool.and_eq_true] at h
      have h12 := okG_12 h.1.2
      exact Nat.le_trans (endsL_len _ _ _) (by omega)
    · simp
  unfold pv
  go_enter Try.func5, Try.ntmps5
  go_wp2_with fail
  refine (szGraph_two a0 n0 cap0 1048576 s0 _ HMX.out (by omega)).mono ?_
  rintro e w1 ⟨x, rfl, HX, hb1⟩
  have HD_1 : Hid (Hold w w1 [(w.heap.size + 1, [.slice a1 n1 cap1]), (w.heap.size, [.int .i64 s0, .slice a0 n0 cap0])]) := by show Hold _ _ _; have h := (((Hold.none w).more [.int .i64 s0, .slice a0 n0 cap0] 42).more [.slice a1 n1 cap1] 45).below hb1.out; simpa using h
  clear hb1
  by_cases hx : x < 0
  · go_wp2
    go_ret
    exact ⟨rfl, HD_1.out.bel⟩
  obtain ⟨LX, rfl, HM, hlx⟩ : ∃ L : Nat, x = (L : Int) ∧ Hid (n0 ≤ 1048576) ∧ L ≤ 1048576 := by
    rcases HX.out with h | ⟨h1, m, h2, h3⟩
    · omega
    · exact ⟨m, h2, h1, h3⟩
  clear HX
  have ZZ2 : Hid (w.heap.size + 1 < w1.heap.size) := HD_1.out.lt (vs := [.slice a1 n1 cap1]) (by simp)
  have q_3 : w1.cell? ⟨w.heap.size + 1, 0, none⟩ = some (.slice a1 n1 cap1) := HD_1.out.cell (b := w.heap.size + 1) (vs := [.slice a1 n1 cap1]) (i := 0) (by simp) (by simp)
  go_wp2_with fail
  refine (szPath_any 0 w.heap.size a1 n1 cap1 LX l1 _ (HR1.out.below HD_1.out.bel (Nat.le_refl _)) HD_1.out.bel.size HL1.out HMX1.out HLM1.out hlx).mono ?_
  rintro e w2 ⟨y, rfl, HX1, B_4⟩
  clear q_3
  have HD_5 : Hid (Hold w w2 [(w.heap.size + 1, [.slice a1 n1 cap1]), (w.heap.size, [.int .i64 s0, .slice a0 n0 cap0])]) := HD_1.out.below B_4.out
  clear HD_1
  have ZZ6 : Hid (w1.heap.size ≤ w2.heap.size) := B_4.out.size
  clear B_4
  by_cases hy : y < 0
  · go_wp2
    go_ret
    exact ⟨rfl, HD_5.out.bel⟩
  have HM1 : Hid (n1 ≤ 1048576 ∧ (∀ i, i < n1 → (pat l1 i).2.2.length ≤ 1048576) ∧ kidsLen l1 n1 ≤ 1048576) := by
    rcases HX1.out with h | ⟨h1, h2⟩
    · omega
    · refine ⟨by omega, fun i hi => ?_, by omega⟩
      have := kids_le l1 hi
      omega
  clear HX1 HMX1 HLM1
  have q_7 : w2.cell? ⟨w.heap.size, 0, none⟩ = some (.int .i64 s0) := HD_5.out.cell (b := w.heap.size) (vs := [.int .i64 s0, .slice a0 n0 cap0]) (i := 0) (by simp) (by simp)
  have q_8 : w2.cell? ⟨w.heap.size, 1, none⟩ = some (.slice a0 n0 cap0) := HD_5.out.cell (b := w.heap.size) (vs := [.int .i64 s0, .slice a0 n0 cap0]) (i := 1) (by simp) (by simp)
  have q_9 : w2.cell? ⟨w.heap.size + 1, 0, none⟩ = some (.slice a1 n1 cap1) := HD_5.out.cell (b := w.heap.size + 1) (vs := [.slice a1 n1 cap1]) (i := 0) (by simp) (by simp)
  have HTG : Hid (∀ w0, Below w2.heap.size w2 w0 → Calls Try.prog 19 #[gv s0 a0 n0 cap0] w0 fun e w' => ∃ g : Nat, e = .returned (gv s0 (some ⟨g, 0, none⟩) n0 n0) ∧ Hid (EdgesIn w2.heap.size w'.heap.size w' (some ⟨g, 0, none⟩) l0) ∧ Hid (Below w2.heap.size w2 w') ∧ Hid (Below w0.heap.size w0 w') ∧ (w'.cell? ⟨w.heap.size, 0, none⟩ = some (.int .i64 s0) ∧ w'.cell? ⟨w.heap.size, 1, none⟩ = some (.slice a0 n0 cap0) ∧ w'.cell? ⟨w.heap.size + 1, 0, none⟩ = some (.slice a1 n1 cap1))) := fun w0 h =>
    (toGraph_any 0 w.heap.size s0 a0 n0 cap0 l0 w0 (HR0.out.below (HD_5.out.below h).bel (Nat.le_refl _)) (HD_5.out.below h).bel.size HL0.out HM.out).mono fun _ w' ⟨g, h1, h2, h4⟩ =>
      have h3 : Hid (Hold w w' [(w.heap.size + 1, [.slice a1 n1 cap1]), (w.heap.size, [.int .i64 s0, .slice a0 n0 cap0])]) := (HD_5.out.below h).below h4.out
      ⟨g, h1, h2.out.toIn.wide h.size (Nat.le_refl _), h.trans (h4.out.mono h.size), h4, h3.out.cell (b := w.heap.size) (vs := [.int .i64 s0, .slice a0 n0 cap0]) (i := 0) (by simp) (by simp), h3.out.cell (b := w.heap.size) (vs := [.int .i64 s0, .slice a0 n0 cap0]) (i := 1) (by simp) (by simp), h3.out.cell (b := w.heap.size + 1) (vs := [.slice a1 n1 cap1]) (i := 0) (by simp) (by simp)⟩
  have HTP : Hid (∀ w0, Below w2.heap.size w2 w0 → Calls Try.prog 20 #[.agg #[.slice a1 n1 cap1]] w0 fun e w' => ∃ g : Nat, e = .returned (.agg #[.slice (some ⟨g, 0, none⟩) n1 n1]) ∧ Hid (PathIn w2.heap.size w'.heap.size w' (some ⟨g, 0, none⟩) l1) ∧ Hid (Below w2.heap.size w2 w') ∧ Hid (Below w0.heap.size w0 w') ∧ (w'.cell? ⟨w.heap.size, 0, none⟩ = some (.int .i64 s0) ∧ w'.cell? ⟨w.heap.size, 1, none⟩ = some (.slice a0 n0 cap0) ∧ w'.cell? ⟨w.heap.size + 1, 0, none⟩ = some (.slice a1 n1 cap1))) := fun w0 h =>
    (toPath_any 0 w.heap.size a1 n1 cap1 l1 w0 (HR1.out.below (HD_5.out.below h).bel (Nat.le_refl _)) (HD_5.out.below h).bel.size HL1.out HM1.out.1 HM1.out.2.1).mono fun _ w' ⟨g, h1, h2, h4⟩ =>
      have h3 : Hid (Hold w w' [(w.heap.size + 1, [.slice a1 n1 cap1]), (w.heap.size, [.int .i64 s0, .slice a0 n0 cap0])]) := (HD_5.out.below h).below h4.out
      ⟨g, h1, h2.out.toIn.wide h.size (Nat.le_refl _), h.trans (h4.out.mono h.size), h4, h3.out.cell (b := w.heap.size) (vs := [.int .i64 s0, .slice a0 n0 cap0]) (i := 0) (by simp) (by simp), h3.out.cell (b := w.heap.size) (vs := [.int .i64 s0, .slice a0 n0 cap0]) (i := 1) (by simp) (by simp), h3.out.cell (b := w.heap.size + 1) (vs := [.slice a1 n1 cap1]) (i := 0) (by simp) (by simp)⟩
  have HTF : Hid (∀ w0 (g g' : Nat), Below w2.heap.size w2 w0 → EdgesIn w2.heap.size w0.heap.size w0 (some ⟨g, 0, none⟩) l0 → PathIn w2.heap.size w0.heap.size w0 (some ⟨g', 0, none⟩) l1 → Calls Try.prog 18 #[gv s0 (some ⟨g, 0, none⟩) n0 n0, .agg #[.slice (some ⟨g', 0, none⟩) n1 n1], .int .i64 z2] w0 fun e w' => ∃ (a' : Option Addr) (n' c' : Nat), e = .returned (.slice a' n' c') ∧ Hid (LL.length = n') ∧ Hid (RowOwn w2.heap.size w'.heap.size w' a' LL) ∧ Hid (Below w2.heap.size w2 w') ∧ (w'.cell? ⟨w.heap.size, 0, none⟩ = some (.int .i64 s0) ∧ w'.cell? ⟨w.heap.size, 1, none⟩ = some (.slice a0 n0 cap0) ∧ w'.cell? ⟨w.heap.size + 1, 0, none⟩ = some (.slice a1 n1 cap1))) := fun w0 g g' h h1 h2 =>
    (specEnds_any w2.heap.size w0.heap.size s0 (some ⟨g, 0, none⟩) n0 n0 l0 w2.heap.size w0.heap.size (some ⟨g', 0, none⟩) n1 n1 l1 z2 w0 h1 (Nat.le_refl _) HL0.out HM.out h2 (Nat.le_refl _) HL1.out HM1.out.1 HM1.out.2.1).mono fun _ w' ⟨a', n', c', e1, e2, e3, e4⟩ =>
      have h3 : Hid (Hold w w' [(w.heap.size + 1, [.slice a1 n1 cap1]), (w.heap.size, [.int .i64 s0, .slice a0 n0 cap0])]) := (HD_5.out.below h).below e4.out
      ⟨a', n', c', e1, by rw [HLL.out]; exact e2, by rw [HLL.out]; exact e3.out.wide h.size (Nat.le_refl _), h.trans (e4.out.mono h.size), h3.out.cell (b := w.heap.size) (vs := [.int .i64 s0, .slice a0 n0 cap0]) (i := 0) (by simp) (by simp), h3.out.cell (b := w.heap.size) (vs := [.int .i64 s0, .slice a0 n0 cap0]) (i := 1) (by simp) (by simp), h3.out.cell (b := w.heap.size + 1) (vs := [.slice a1 n1 cap1]) (i := 0) (by simp) (by simp)⟩
  go_upto_region 8 with fail
  go_cut [8] (fun v wc => ∃ (a : Option Addr) (n c : Nat), v = .slice a n c ∧ Hid (LL.length = n) ∧ Hid (RowOwn w2.heap.size wc.heap.size wc a LL) ∧ Hid (Below w2.heap.size w2 wc))
  case first =>
    go_region_held3 (fun w' => w'.cell? ⟨w.heap.size, 0, none⟩ = some (.int .i64 s0) ∧ w'.cell? ⟨w.heap.size, 1, none⟩ = some (.slice a0 n0 cap0) ∧ w'.cell? ⟨w.heap.size + 1, 0, none⟩ = some (.slice a1 n1 cap1)) (first | exact ⟨q_7, q_8, q_9⟩ | exact hk9 | exact hk10 | exact hk11) (first | (go_at_call 19; refine (HTG.out _ (by first | exact (Below.refl _ _).drew | exact B10.out)).mono ?_; rintro e w9 ⟨g9, rfl, X9, B9, C9, hk9⟩) | (go_at_call 20; refine (HTP.out _ (by first | exact (Below.refl _ _).drew | exact B9.out)).mono ?_; rintro e w10 ⟨g10, rfl, X10, B10, C10, hk10⟩) | (go_at_call 18; (first | refine (HTF.out _ _ _ B10.out ((X9.out.below C10.out (Nat.le_refl _)).wide (Nat.le_refl _) C10.out.size) X10.out).mono ?_ | refine (HTF.out _ _ _ B9.out X9.out ((X10.out.below C9.out (Nat.le_refl _)).wide (Nat.le_refl _) C9.out.size)).mono ?_); rintro e w11 ⟨a11, n11, c11, rfl, HN11, X11, B11, hk11⟩))
    all_goals first | (go_meet; case rel => exact ⟨_, _, _, rfl, HN11, X11, B11⟩) | (go_wp2_with fail; go_meet; case rel => exact ⟨_, _, _, rfl, HN11, X11, B11⟩)
  case rest =>
    obtain ⟨w3, rfl⟩ : ∃ V, V = wc := ⟨_, rfl⟩
    obtain ⟨a3, n3, cap3, rfl, HN3, X3, BC_w3⟩ := hcut
    clear q_7 q_8 q_9 HTG HTP HTF
    have HD_10 : Hid (Hold w w3 [(w.heap.size + 1, [.slice a1 n1 cap1]), (w.heap.size, [.int .i64 s0, .slice a0 n0 cap0])]) := HD_5.out.below BC_w3.out
    clear HD_5
    have ZZ11 : Hid (w2.heap.size ≤ w3.heap.size) := BC_w3.out.size
    clear BC_w3
    have W0_12 : Hid (RowOwn w2.heap.size w3.heap.size w3 a3 LL) := X3.out
    clear X3
    have HM3 : Hid (n3 ≤ 1048576) := by have := HLN.out; have := HN3.out; show _ ≤ _; omega
    have q_14 : w3.cell? ⟨w.heap.size, 0, none⟩ = some (.int .i64 s0) := HD_10.out.cell (b := w.heap.size) (vs := [.int .i64 s0, .slice a0 n0 cap0]) (i := 0) (by simp) (by simp)
    have q_15 : w3.cell? ⟨w.heap.size, 1, none⟩ = some (.slice a0 n0 cap0) := HD_10.out.cell (b := w.heap.size) (vs := [.int .i64 s0, .slice a0 n0 cap0]) (i := 1) (by simp) (by simp)
    go_wp2_with fail
    refine (toGraph_any 0 w.heap.size s0 a0 n0 cap0 l0 _ (HR0.out.below HD_10.out.bel (Nat.le_refl _)) HD_10.out.bel.size HL0.out HM.out).mono ?_
    rintro e w4 ⟨g4, rfl, X_13, B_16⟩
    clear q_14 q_15
    have HD_17 : Hid (Hold w w4 [(w.heap.size + 1, [.slice a1 n1 cap1]), (w.heap.size, [.int .i64 s0, .slice a0 n0 cap0])]) := HD_10.out.below B_16.out
    clear HD_10
    have ZZ18 : Hid (w3.heap.size ≤ w4.heap.size) := B_16.out.size
    have W0_18 : Hid (RowOwn w2.heap.size w3.heap.size w4 a3 LL) := W0_12.out.below B_16.out (by have y0 := ZZ2.out; have y1 := ZZ6.out; have y2 := ZZ11.out; have y3 := ZZ18.out; omega)
    clear W0_12
    clear B_16
    have X0_19 : Hid (EdgesOwn w3.heap.size w4.heap.size w4 (some ⟨g4, 0, none⟩) l0) := X_13.out
    clear X_13
    have BA_20 : Hid (Below w4.heap.size w4 (w4.alloc (.cells #[.int .i64 s0, .slice (some ⟨g4, 0, none⟩) n0 n0] 26))) := below1' w4 _
    have HD_21 : Hid (Hold w (w4.alloc (.cells #[.int .i64 s0, .slice (some ⟨g4, 0, none⟩) n0 n0] 26)) [(w4.heap.size, [.int .i64 s0, .slice (some ⟨g4, 0, none⟩) n0 n0]), (w.heap.size + 1, [.slice a1 n1 cap1]), (w.heap.size, [.int .i64 s0, .slice a0 n0 cap0])]) := HD_17.out.more [.int .i64 s0, .slice (some ⟨g4, 0, none⟩) n0 n0] 26
    clear HD_17
    have ZZ22 : Hid ((w4.alloc (.cells #[.int .i64 s0, .slice (some ⟨g4, 0, none⟩) n0 n0] 26)).heap.size = w4.heap.size + 1) := by show _ = _; simp
    have ZZ23 : Hid (w4.heap.size ≤ (w4.alloc (.cells #[.int .i64 s0, .slice (some ⟨g4, 0, none⟩) n0 n0] 26)).heap.size) := BA_20.out.size
    have W0_23 : Hid (RowOwn w2.heap.size w3.heap.size (w4.alloc (.cells #[.int .i64 s0, .slice (some ⟨g4, 0, none⟩) n0 n0] 26)) a3 LL) := W0_18.out.below BA_20.out (by have y0 := ZZ2.out; have y1 := ZZ6.out; have y2 := ZZ11.out; have y3 := ZZ18.out; have y4 := ZZ22.out; have y5 := ZZ23.out; omega)
    have X0_23 : Hid (EdgesOwn w3.heap.size w4.heap.size (w4.alloc (.cells #[.int .i64 s0, .slice (some ⟨g4, 0, none⟩) n0 n0] 26)) (some ⟨g4, 0, none⟩) l0) := X0_19.out.below BA_20.out (by have y0 := ZZ2.out; have y1 := ZZ6.out; have y2 := ZZ11.out; have y3 := ZZ18.out; have y4 := ZZ22.out; have y5 := ZZ23.out; omega)
    clear W0_18 X0_19
    clear BA_20
    have q_25 : (w4.alloc (.cells #[.int .i64 s0, .slice (some ⟨g4, 0, none⟩) n0 n0] 26)).cell? ⟨w.heap.size + 1, 0, none⟩ = some (.slice a1 n1 cap1) := HD_21.out.cell (b := w.heap.size + 1) (vs := [.slice a1 n1 cap1]) (i := 0) (by simp) (by simp)
    go_wp2_with fail
    refine (toPath_any 0 w.heap.size a1 n1 cap1 l1 _ (HR1.out.below HD_21.out.bel (Nat.le_refl _)) HD_21.out.bel.size HL1.out HM1.out.1 HM1.out.2.1).mono ?_
    rintro e w5 ⟨g5, rfl, X_24, B_26⟩
    clear q_25
    have HD_27 : Hid (Hold w w5 [(w4.heap.size, [.int .i64 s0, .slice (some ⟨g4, 0, none⟩) n0 n0]), (w.heap.size + 1, [.slice a1 n1 cap1]), (w.heap.size, [.int .i64 s0, .slice a0 n0 cap0])]) := HD_21.out.below B_26.out
    clear HD_21
    have ZZ28 : Hid ((w4.alloc (.cells #[.int .i64 s0, .slice (some ⟨g4, 0, none⟩) n0 n0] 26)).heap.size ≤ w5.heap.size) := B_26.out.size
    have W0_28 : Hid (RowOwn w2.heap.size w3.heap.size w5 a3 LL) := W0_23.out.below B_26.out (by have y0 := ZZ2.out; have y1 := ZZ6.out; have y2 := ZZ11.out; have y3 := ZZ18.out; have y4 := ZZ22.out; have y5 := ZZ23.out; have y6 := ZZ28.out; omega)
    have X0_28 : Hid (EdgesOwn w3.heap.size w4.heap.size w5 (some ⟨g4, 0, none⟩) l0) := X0_23.out.below B_26.out (by have y0 := ZZ2.out; have y1 := ZZ6.out; have y2 := ZZ11.out; have y3 := ZZ18.out; have y4 := ZZ22.out; have y5 := ZZ23.out; have y6 := ZZ28.out; omega)
    clear W0_23 X0_23
    clear B_26
    have X1_29 : Hid (PathOwn (w4.alloc (.cells #[.int .i64 s0, .slice (some ⟨g4, 0, none⟩) n0 n0] 26)).heap.size w5.heap.size w5 (some ⟨g5, 0, none⟩) l1) := X_24.out
    clear X_24
    have BA_30 : Hid (Below w5.heap.size w5 (w5.alloc (.cells #[.slice (some ⟨g5, 0, none⟩) n1 n1] 36))) := below1' w5 _
    have HD_31 : Hid (Hold w (w5.alloc (.cells #[.slice (some ⟨g5, 0, none⟩) n1 n1] 36)) [(w5.heap.size, [.slice (some ⟨g5, 0, none⟩) n1 n1]), (w4.heap.size, [.int .i64 s0, .slice (some ⟨g4, 0, none⟩) n0 n0]), (w.heap.size + 1, [.slice a1 n1 cap1]), (w.heap.size, [.int .i64 s0, .slice a0 n0 cap0])]) := HD_27.out.more [.slice (some ⟨g5, 0, none⟩) n1 n1] 36
    clear HD_27
    have ZZ32 : Hid ((w5.alloc (.cells #[.slice (some ⟨g5, 0, none⟩) n1 n1] 36)).heap.size = w5.heap.size + 1) := by show _ = _; simp
    have ZZ33 : Hid (w5.heap.size ≤ (w5.alloc (.cells #[.slice (some ⟨g5, 0, none⟩) n1 n1] 36)).heap.size) := BA_30.out.size
    have W0_33 : Hid (RowOwn w2.heap.size w3.heap.size (w5.alloc (.cells #[.slice (some ⟨g5, 0, none⟩) n1 n1] 36)) a3 LL) := W0_28.out.below BA_30.out (by have y0 := ZZ2.out; have y1 := ZZ6.out; have y2 := ZZ11.out; have y3 := ZZ18.out; have y4 := ZZ22.out; have y5 := ZZ23.out; have y6 := ZZ28.out; have y7 := ZZ32.out; have y8 := ZZ33.out; omega)
    have X0_33 : Hid (EdgesOwn w3.heap.size w4.heap.size (w5.alloc (.cells #[.slice (some ⟨g5, 0, none⟩) n1 n1] 36)) (some ⟨g4, 0, none⟩) l0) := X0_28.out.below BA_30.out (by have y0 := ZZ2.out; have y1 := ZZ6.out; have y2 := ZZ11.out; have y3 := ZZ18.out; have y4 := ZZ22.out; have y5 := ZZ23.out; have y6 := ZZ28.out; have y7 := ZZ32.out; have y8 := ZZ33.out; omega)
    have X1_33 : Hid (PathOwn (w4.alloc (.cells #[.int .i64 s0, .slice (some ⟨g4, 0, none⟩) n0 n0] 26)).heap.size w5.heap.size (w5.alloc (.cells #[.slice (some ⟨g5, 0, none⟩) n1 n1] 36)) (some ⟨g5, 0, none⟩) l1) := X1_29.out.below BA_30.out (by have y0 := ZZ2.out; have y1 := ZZ6.out; have y2 := ZZ11.out; have y3 := ZZ18.out; have y4 := ZZ22.out; have y5 := ZZ23.out; have y6 := ZZ28.out; have y7 := ZZ32.out; have y8 := ZZ33.out; omega)
    clear W0_28 X0_28 X1_29
    clear BA_30
    have q_34 : (w5.alloc (.cells #[.slice (some ⟨g5, 0, none⟩) n1 n1] 36)).cell? ⟨w4.heap.size, 0, none⟩ = some (.int .i64 s0) := HD_31.out.cell (b := w4.heap.size) (vs := [.int .i64 s0, .slice (some ⟨g4, 0, none⟩) n0 n0]) (i := 0) (by simp) (by simp)
    have q_35 : (w5.alloc (.cells #[.slice (some ⟨g5, 0, none⟩) n1 n1] 36)).cell? ⟨w4.heap.size, 1, none⟩ = some (.slice (some ⟨g4, 0, none⟩) n0 n0) := HD_31.out.cell (b := w4.heap.size) (vs := [.int .i64 s0, .slice (some ⟨g4, 0, none⟩) n0 n0]) (i := 1) (by simp) (by simp)
    have q_36 : (w5.alloc (.cells #[.slice (some ⟨g5, 0, none⟩) n1 n1] 36)).cell? ⟨w5.heap.size, 0, none⟩ = some (.slice (some ⟨g5, 0, none⟩) n1 n1) := HD_31.out.cell (b := w5.heap.size) (vs := [.slice (some ⟨g5, 0, none⟩) n1 n1]) (i := 0) (by simp) (by simp)
    go_wp2_with fail
    refine (pathEnds_any w3.heap.size w4.heap.size s0 (some ⟨g4, 0, none⟩) n0 n0 l0 (w4.alloc (.cells #[.int .i64 s0, .slice (some ⟨g4, 0, none⟩) n0 n0] 26)).heap.size w5.heap.size (some ⟨g5, 0, none⟩) n1 n1 l1 z2 _ X0_33.out.toIn (by have y0 := ZZ2.out; have y1 := ZZ6.out; have y2 := ZZ11.out; have y3 := ZZ18.out; have y4 := ZZ22.out; have y5 := ZZ23.out; have y6 := ZZ28.out; have y7 := ZZ32.out; have y8 := ZZ33.out; omega) HL0.out HM.out X1_33.out.toIn (by have y0 := ZZ2.out; have y1 := ZZ6.out; have y2 := ZZ11.out; have y3 := ZZ18.out; have y4 := ZZ22.out; have y5 := ZZ23.out; have y6 := ZZ28.out; have y7 := ZZ32.out; have y8 := ZZ33.out; omega) HL1.out HM1.out.1 HM1.out.2.1).mono ?_
    rintro e w6 ⟨a6, n6, cap6, rfl, HN6, X6, B_37⟩
    clear q_34 q_35 q_36
    have HD_38 : Hid (Hold w w6 [(w5.heap.size, [.slice (some ⟨g5, 0, none⟩) n1 n1]), (w4.heap.size, [.int .i64 s0, .slice (some ⟨g4, 0, none⟩) n0 n0]), (w.heap.size + 1, [.slice a1 n1 cap1]), (w.heap.size, [.int .i64 s0, .slice a0 n0 cap0])]) := HD_31.out.below B_37.out
    clear HD_31
    have ZZ39 : Hid ((w5.alloc (.cells #[.slice (some ⟨g5, 0, none⟩) n1 n1] 36)).heap.size ≤ w6.heap.size) := B_37.out.size
    have W0_39 : Hid (RowOwn w2.heap.size w3.heap.size w6 a3 LL) := W0_33.out.below B_37.out (by have y0 := ZZ2.out; have y1 := ZZ6.out; have y2 := ZZ11.out; have y3 := ZZ18.out; have y4 := ZZ22.out; have y5 := ZZ23.out; have y6 := ZZ28.out; have y7 := ZZ32.out; have y8 := ZZ33.out; have y9 := ZZ39.out; omega)
    have X0_39 : Hid (EdgesOwn w3.heap.size w4.heap.size w6 (some ⟨g4, 0, none⟩) l0) := X0_33.out.below B_37.out (by have y0 := ZZ2.out; have y1 := ZZ6.out; have y2 := ZZ11.out; have y3 := ZZ18.out; have y4 := ZZ22.out; have y5 := ZZ23.out; have y6 := ZZ28.out; have y7 := ZZ32.out; have y8 := ZZ33.out; have y9 := ZZ39.out; omega)
    have X1_39 : Hid (PathOwn (w4.alloc (.cells #[.int .i64 s0, .slice (some ⟨g4, 0, none⟩) n0 n0] 26)).heap.size w5.heap.size w6 (some ⟨g5, 0, none⟩) l1) := X1_33.out.below B_37.out (by have y0 := ZZ2.out; have y1 := ZZ6.out; have y2 := ZZ11.out; have y3 := ZZ18.out; have y4 := ZZ22.out; have y5 := ZZ23.out; have y6 := ZZ28.out; have y7 := ZZ32.out; have y8 := ZZ33.out; have y9 := ZZ39.out; omega)
    clear W0_33 X0_33 X1_33
    clear B_37
    rw [← HLL.out] at HN6 X6
    obtain rfl : n3 = n6 := by rw [← HN3.out, HN6.out]
    clear HN6
    have G0_40 : Hid (RowOwn (w5.alloc (.cells #[.slice (some ⟨g5, 0, none⟩) n1 n1] 36)).heap.size w6.heap.size w6 a6 LL) := X6.out
    clear X6
    go_wp2_with fail
    refine (eqInts_any (w5.alloc (.cells #[.slice (some ⟨g5, 0, none⟩) n1 n1] 36)).heap.size w6.heap.size w2.heap.size w3.heap.size a6 a3 n3 n3 cap6 cap3 LL LL true _ G0_40.out.toIn W0_39.out.toIn HN3.out HN3.out HM3.out (by simp)).mono ?_
    rintro e w7 ⟨rfl, b_41⟩
    have B_41 : Hid (Below w6.heap.size w6 w7) := b_41
    clear b_41
    have HD_42 : Hid (Hold w w7 [(w5.heap.size, [.slice (some ⟨g5, 0, none⟩) n1 n1]), (w4.heap.size, [.int .i64 s0, .slice (some ⟨g4, 0, none⟩) n0 n0]), (w.heap.size + 1, [.slice a1 n1 cap1]), (w.heap.size, [.int .i64 s0, .slice a0 n0 cap0])]) := HD_38.out.below B_41.out
    clear HD_38
    have ZZ43 : Hid (w6.heap.size ≤ w7.heap.size) := B_41.out.size
    have W0_43 : Hid (RowOwn w2.heap.size w3.heap.size w7 a3 LL) := W0_39.out.below B_41.out (by have y0 := ZZ2.out; have y1 := ZZ6.out; have y2 := ZZ11.out; have y3 := ZZ18.out; have y4 := ZZ22.out; have y5 := ZZ23.out; have y6 := ZZ28.out; have y7 := ZZ32.out; have y8 := ZZ33.out; have y9 := ZZ39.out; have y10 := ZZ43.out; omega)
    have X0_43 : Hid (EdgesOwn w3.heap.size w4.heap.size w7 (some ⟨g4, 0, none⟩) l0) := X0_39.out.below B_41.out (by have y0 := ZZ2.out; have y1 := ZZ6.out; have y2 := ZZ11.out; have y3 := ZZ18.out; have y4 := ZZ22.out; have y5 := ZZ23.out; have y6 := ZZ28.out; have y7 := ZZ32.out; have y8 := ZZ33.out; have y9 := ZZ39.out; have y10 := ZZ43.out; omega)
    have X1_43 : Hid (PathOwn (w4.alloc (.cells #[.int .i64 s0, .slice (some ⟨g4, 0, none⟩) n0 n0] 26)).heap.size w5.heap.size w7 (some ⟨g5, 0, none⟩) l1) := X1_39.out.below B_41.out (by have y0 := ZZ2.out; have y1 := ZZ6.out; have y2 := ZZ11.out; have y3 := ZZ18.out; have y4 := ZZ22.out; have y5 := ZZ23.out; have y6 := ZZ28.out; have y7 := ZZ32.out; have y8 := ZZ33.out; have y9 := ZZ39.out; have y10 := ZZ43.out; omega)
    have G0_43 : Hid (RowOwn (w5.alloc (.cells #[.slice (some ⟨g5, 0, none⟩) n1 n1] 36)).heap.size w6.heap.size w7 a6 LL) := G0_40.out.below B_41.out (by have y0 := ZZ2.out; have y1 := ZZ6.out; have y2 := ZZ11.out; have y3 := ZZ18.out; have y4 := ZZ22.out; have y5 := ZZ23.out; have y6 := ZZ28.out; have y7 := ZZ32.out; have y8 := ZZ33.out; have y9 := ZZ39.out; have y10 := ZZ43.out; omega)
    clear W0_39 X0_39 X1_39 G0_40
    clear B_41
    have q_44 : w7.cell? ⟨w4.heap.size, 0, none⟩ = some (.int .i64 s0) := HD_42.out.cell (b := w4.heap.size) (vs := [.int .i64 s0, .slice (some ⟨g4, 0, none⟩) n0 n0]) (i := 0) (by simp) (by simp)
    have q_45 : w7.cell? ⟨w4.heap.size, 1, none⟩ = some (.slice (some ⟨g4, 0, none⟩) n0 n0) := HD_42.out.cell (b := w4.heap.size) (vs := [.int .i64 s0, .slice (some ⟨g4, 0, none⟩) n0 n0]) (i := 1) (by simp) (by simp)
    have q_46 : w7.cell? ⟨w.heap.size, 0, none⟩ = some (.int .i64 s0) := HD_42.out.cell (b := w.heap.size) (vs := [.int .i64 s0, .slice a0 n0 cap0]) (i := 0) (by simp) (by simp)
    have q_47 : w7.cell? ⟨w.heap.size, 1, none⟩ = some (.slice a0 n0 cap0) := HD_42.out.cell (b := w.heap.size) (vs := [.int .i64 s0, .slice a0 n0 cap0]) (i := 1) (by simp) (by simp)
    have HC1 : Hid (∀ w0, Below w7.heap.size w7 w0 → Calls Try.prog 19 #[gv s0 a0 n0 cap0] w0 fun e w' => ∃ g : Nat, e = .returned (gv s0 (some ⟨g, 0, none⟩) n0 n0) ∧ Hid (EdgesIn w7.heap.size w'.heap.size w' (some ⟨g, 0, none⟩) l0) ∧ Hid (Below w7.heap.size w7 w') ∧ (w'.cell? ⟨w4.heap.size, 0, none⟩ = some (.int .i64 s0) ∧ w'.cell? ⟨w4.heap.size, 1, none⟩ = some (.slice (some ⟨g4, 0, none⟩) n0 n0) ∧ w'.cell? ⟨w.heap.size, 0, none⟩ = some (.int .i64 s0) ∧ w'.cell? ⟨w.heap.size, 1, none⟩ = some (.slice a0 n0 cap0))) := fun w0 h =>
      (toGraph_any 0 w.heap.size s0 a0 n0 cap0 l0 w0 (HR0.out.below (HD_42.out.below h).bel (Nat.le_refl _)) (HD_42.out.below h).bel.size HL0.out HM.out).mono fun _ w' ⟨g, h1, h2, h4⟩ =>
        have h3 : Hid (Hold w w' [(w5.heap.size, [.slice (some ⟨g5, 0, none⟩) n1 n1]), (w4.heap.size, [.int .i64 s0, .slice (some ⟨g4, 0, none⟩) n0 n0]), (w.heap.size + 1, [.slice a1 n1 cap1]), (w.heap.size, [.int .i64 s0, .slice a0 n0 cap0])]) := (HD_42.out.below h).below h4.out
        ⟨g, h1, h2.out.toIn.wide h.size (Nat.le_refl _), h.trans (h4.out.mono h.size), h3.out.cell (b := w4.heap.size) (vs := [.int .i64 s0, .slice (some ⟨g4, 0, none⟩) n0 n0]) (i := 0) (by simp) (by simp), h3.out.cell (b := w4.heap.size) (vs := [.int .i64 s0, .slice (some ⟨g4, 0, none⟩) n0 n0]) (i := 1) (by simp) (by simp), h3.out.cell (b := w.heap.size) (vs := [.int .i64 s0, .slice a0 n0 cap0]) (i := 0) (by simp) (by simp), h3.out.cell (b := w.heap.size) (vs := [.int .i64 s0, .slice a0 n0 cap0]) (i := 1) (by simp) (by simp)⟩
    have HC2 : Hid (∀ (g : Nat) w0, Below w7.heap.size w7 w0 → EdgesIn w7.heap.size w0.heap.size w0 (some ⟨g, 0, none⟩) l0 → Calls Try.prog 23 #[gv s0 (some ⟨g4, 0, none⟩) n0 n0, gv s0 (some ⟨g, 0, none⟩) n0 n0] w0 fun e w' => e = .returned (.bool true) ∧ Hid (Below w7.heap.size w7 w') ∧ (w'.cell? ⟨w4.heap.size, 0, none⟩ = some (.int .i64 s0) ∧ w'.cell? ⟨w4.heap.size, 1, none⟩ = some (.slice (some ⟨g4, 0, none⟩) n0 n0) ∧ w'.cell? ⟨w.heap.size, 0, none⟩ = some (.int .i64 s0) ∧ w'.cell? ⟨w.heap.size, 1, none⟩ = some (.slice a0 n0 cap0))) := fun g w0 h hx =>
      (eqGraph_any w3.heap.size w4.heap.size w7.heap.size w0.heap.size s0 s0 (some ⟨g4, 0, none⟩) (some ⟨g, 0, none⟩) n0 n0 n0 n0 l0 l0 true w0 (X0_43.out.toIn.below h (by have y0 := ZZ2.out; have y1 := ZZ6.out; have y2 := ZZ11.out; have y3 := ZZ18.out; have y4 := ZZ22.out; have y5 := ZZ23.out; have y6 := ZZ28.out; have y7 := ZZ32.out; have y8 := ZZ33.out; have y9 := ZZ39.out; have y10 := ZZ43.out; omega)) hx (by have yy := h.size; have y0 := ZZ2.out; have y1 := ZZ6.out; have y2 := ZZ11.out; have y3 := ZZ18.out; have y4 := ZZ22.out; have y5 := ZZ23.out; have y6 := ZZ28.out; have y7 := ZZ32.out; have y8 := ZZ33.out; have y9 := ZZ39.out; have y10 := ZZ43.out; omega) (Nat.le_refl _) HL0.out HL0.out HM.out (by simp)).mono fun _ w' ⟨h1, h4⟩ =>
        have h3 : Hid (Hold w w' [(w5.heap.size, [.slice (some ⟨g5, 0, none⟩) n1 n1]), (w4.heap.size, [.int .i64 s0, .slice (some ⟨g4, 0, none⟩) n0 n0]), (w.heap.size + 1, [.slice a1 n1 cap1]), (w.heap.size, [.int .i64 s0, .slice a0 n0 cap0])]) := (HD_42.out.below h).below h4.out
        ⟨h1, h.trans (h4.out.mono h.size), h3.out.cell (b := w4.heap.size) (vs := [.int .i64 s0, .slice (some ⟨g4, 0, none⟩) n0 n0]) (i := 0) (by simp) (by simp), h3.out.cell (b := w4.heap.size) (vs := [.int .i64 s0, .slice (some ⟨g4, 0, none⟩) n0 n0]) (i := 1) (by simp) (by simp), h3.out.cell (b := w.heap.size) (vs := [.int .i64 s0, .slice a0 n0 cap0]) (i := 0) (by simp) (by simp), h3.out.cell (b := w.heap.size) (vs := [.int .i64 s0, .slice a0 n0 cap0]) (i := 1) (by simp) (by simp)⟩
    go_wp2_with fail
    go_region_held3 (fun w' => w'.cell? ⟨w4.heap.size, 0, none⟩ = some (.int .i64 s0) ∧ w'.cell? ⟨w4.heap.size, 1, none⟩ = some (.slice (some ⟨g4, 0, none⟩) n0 n0) ∧ w'.cell? ⟨w.heap.size, 0, none⟩ = some (.int .i64 s0) ∧ w'.cell? ⟨w.heap.size, 1, none⟩ = some (.slice a0 n0 cap0)) (first | exact ⟨q_44, q_45, q_46, q_47⟩ | exact hk9 | exact hk10) (first | (go_at_call 19; refine (HC1.out _ ((Below.refl _ _).drew)).mono ?_; rintro e w8 ⟨g9, rfl, X9, B9, hk9⟩) | (go_at_call 23; refine (HC2.out _ _ B9.out X9.out).mono ?_; rintro e w12 ⟨rfl, B10, hk10⟩))
    clear q_44 q_45 q_46 q_47
    clear hk9 hk10 B9 X9 HC1 HC2
    have HD_48 : Hid (Hold w w12 [(w5.heap.size, [.slice (some ⟨g5, 0, none⟩) n1 n1]), (w4.heap.size, [.int .i64 s0, .slice (some ⟨g4, 0, none⟩) n0 n0]), (w.heap.size + 1, [.slice a1 n1 cap1]), (w.heap.size, [.int .i64 s0, .slice a0 n0 cap0])]) := HD_42.out.below B10.out
    clear HD_42
    have ZZ49 : Hid (w7.heap.size ≤ w12.heap.size) := B10.out.size
    have W0_49 : Hid (RowOwn w2.heap.size w3.heap.size w12 a3 LL) := W0_43.out.below B10.out (by have y0 := ZZ2.out; have y1 := ZZ6.out; have y2 := ZZ11.out; have y3 := ZZ18.out; have y4 := ZZ22.out; have y5 := ZZ23.out; have y6 := ZZ28.out; have y7 := ZZ32.out; have y8 := ZZ33.out; have y9 := ZZ39.out; have y10 := ZZ43.out; have y11 := ZZ49.out; omega)
    have X0_49 : Hid (EdgesOwn w3.heap.size w4.heap.size w12 (some ⟨g4, 0, none⟩) l0) := X0_43.out.below B10.out (by have y0 := ZZ2.out; have y1 := ZZ6.out; have y2 := ZZ11.out; have y3 := ZZ18.out; have y4 := ZZ22.out; have y5 := ZZ23.out; have y6 := ZZ28.out; have y7 := ZZ32.out; have y8 := ZZ33.out; have y9 := ZZ39.out; have y10 := ZZ43.out; have y11 := ZZ49.out; omega)
    have X1_49 : Hid (PathOwn (w4.alloc (.cells #[.int .i64 s0, .slice (some ⟨g4, 0, none⟩) n0 n0] 26)).heap.size w5.heap.size w12 (some ⟨g5, 0, none⟩) l1) := X1_43.out.below B10.out (by have y0 := ZZ2.out; have y1 := ZZ6.out; have y2 := ZZ11.out; have y3 := ZZ18.out; have y4 := ZZ22.out; have y5 := ZZ23.out; have y6 := ZZ28.out; have y7 := ZZ32.out; have y8 := ZZ33.out; have y9 := ZZ39.out; have y10 := ZZ43.out; have y11 := ZZ49.out; omega)
    have G0_49 : Hid (RowOwn (w5.alloc (.cells #[.slice (some ⟨g5, 0, none⟩) n1 n1] 36)).heap.size w6.heap.size w12 a6 LL) := G0_43.out.below B10.out (by have y0 := ZZ2.out; have y1 := ZZ6.out; have y2 := ZZ11.out; have y3 := ZZ18.out; have y4 := ZZ22.out; have y5 := ZZ23.out; have y6 := ZZ28.out; have y7 := ZZ32.out; have y8 := ZZ33.out; have y9 := ZZ39.out; have y10 := ZZ43.out; have y11 := ZZ49.out; omega)
    clear W0_43 X0_43 X1_43 G0_43
    clear B10
    have q_50 : w12.cell? ⟨w5.heap.size, 0, none⟩ = some (.slice (some ⟨g5, 0, none⟩) n1 n1) := HD_48.out.cell (b := w5.heap.size) (vs := [.slice (some ⟨g5, 0, none⟩) n1 n1]) (i := 0) (by simp) (by simp)
    have q_51 : w12.cell? ⟨w.heap.size + 1, 0, none⟩ = some (.slice a1 n1 cap1) := HD_48.out.cell (b := w.heap.size + 1) (vs := [.slice a1 n1 cap1]) (i := 0) (by simp) (by simp)
    have HC1 : Hid (∀ w0, Below w12.heap.size w12 w0 → Calls Try.prog 20 #[.agg #[.slice a1 n1 cap1]] w0 fun e w' => ∃ g : Nat, e = .returned (.agg #[.slice (some ⟨g, 0, none⟩) n1 n1]) ∧ Hid (PathIn w12.heap.size w'.heap.size w' (some ⟨g, 0, none⟩) l1) ∧ Hid (Below w12.heap.size w12 w') ∧ (w'.cell? ⟨w5.heap.size, 0, none⟩ = some (.slice (some ⟨g5, 0, none⟩) n1 n1) ∧ w'.cell? ⟨w.heap.size + 1, 0, none⟩ = some (.slice a1 n1 cap1))) := fun w0 h =>
      (toPath_any 0 w.heap.size a1 n1 cap1 l1 w0 (HR1.out.below (HD_48.out.below h).bel (Nat.le_refl _)) (HD_48.out.below h).bel.size HL1.out HM1.out.1 HM1.out.2.1).mono fun _ w' ⟨g, h1, h2, h4⟩ =>
        have h3 : Hid (Hold w w' [(w5.heap.size, [.slice (some ⟨g5, 0, none⟩) n1 n1]), (w4.heap.size, [.int .i64 s0, .slice (some ⟨g4, 0, none⟩) n0 n0]), (w.heap.size + 1, [.slice a1 n1 cap1]), (w.heap.size, [.int .i64 s0, .slice a0 n0 cap0])]) := (HD_48.out.below h).below h4.out
        ⟨g, h1, h2.out.toIn.wide h.size (Nat.le_refl _), h.trans (h4.out.mono h.size), h3.out.cell (b := w5.heap.size) (vs := [.slice (some ⟨g5, 0, none⟩) n1 n1]) (i := 0) (by simp) (by simp), h3.out.cell (b := w.heap.size + 1) (vs := [.slice a1 n1 cap1]) (i := 0) (by simp) (by simp)⟩
    have HC2 : Hid (∀ (g : Nat) w0, Below w12.heap.size w12 w0 → PathIn w12.heap.size w0.heap.size w0 (some ⟨g, 0, none⟩) l1 → Calls Try.prog 24 #[.agg #[.slice (some ⟨g5, 0, none⟩) n1 n1], .agg #[.slice (some ⟨g, 0, none⟩) n1 n1]] w0 fun e w' => e = .returned (.bool true) ∧ Hid (Below w12.heap.size w12 w') ∧ (w'.cell? ⟨w5.heap.size, 0, none⟩ = some (.slice (some ⟨g5, 0, none⟩) n1 n1) ∧ w'.cell? ⟨w.heap.size + 1, 0, none⟩ = some (.slice a1 n1 cap1))) := fun g w0 h hx =>
      (eqPath_any (w4.alloc (.cells #[.int .i64 s0, .slice (some ⟨g4, 0, none⟩) n0 n0] 26)).heap.size w5.heap.size w12.heap.size w0.heap.size (some ⟨g5, 0, none⟩) (some ⟨g, 0, none⟩) n1 n1 n1 n1 l1 l1 true w0 (X1_49.out.toIn.below h (by have y0 := ZZ2.out; have y1 := ZZ6.out; have y2 := ZZ11.out; have y3 := ZZ18.out; have y4 := ZZ22.out; have y5 := ZZ23.out; have y6 := ZZ28.out; have y7 := ZZ32.out; have y8 := ZZ33.out; have y9 := ZZ39.out; have y10 := ZZ43.out; have y11 := ZZ49.out; omega)) hx (by have yy := h.size; have y0 := ZZ2.out; have y1 := ZZ6.out; have y2 := ZZ11.out; have y3 := ZZ18.out; have y4 := ZZ22.out; have y5 := ZZ23.out; have y6 := ZZ28.out; have y7 := ZZ32.out; have y8 := ZZ33.out; have y9 := ZZ39.out; have y10 := ZZ43.out; have y11 := ZZ49.out; omega) (Nat.le_refl _) HL1.out HL1.out HM1.out.1 HM1.out.2.1 (by simp)).mono fun _ w' ⟨h1, h4⟩ =>
        have h3 : Hid (Hold w w' [(w5.heap.size, [.slice (some ⟨g5, 0, none⟩) n1 n1]), (w4.heap.size, [.int .i64 s0, .slice (some ⟨g4, 0, none⟩) n0 n0]), (w.heap.size + 1, [.slice a1 n1 cap1]), (w.heap.size, [.int .i64 s0, .slice a0 n0 cap0])]) := (HD_48.out.below h).below h4.out
        ⟨h1, h.trans (h4.out.mono h.size), h3.out.cell (b := w5.heap.size) (vs := [.slice (some ⟨g5, 0, none⟩) n1 n1]) (i := 0) (by simp) (by simp), h3.out.cell (b := w.heap.size + 1) (vs := [.slice a1 n1 cap1]) (i := 0) (by simp) (by simp)⟩
    go_wp2_with fail
    go_region_held3 (fun w' => w'.cell? ⟨w5.heap.size, 0, none⟩ = some (.slice (some ⟨g5, 0, none⟩) n1 n1) ∧ w'.cell? ⟨w.heap.size + 1, 0, none⟩ = some (.slice a1 n1 cap1)) (first | exact ⟨q_50, q_51⟩ | exact hk9 | exact hk10) (first | (go_at_call 20; refine (HC1.out _ ((Below.refl _ _).drew)).mono ?_; rintro e w13 ⟨g9, rfl, X9, B9, hk9⟩) | (go_at_call 24; refine (HC2.out _ _ B9.out X9.out).mono ?_; rintro e w14 ⟨rfl, B10, hk10⟩))
    clear q_50 q_51
    clear hk9 hk10 B9 X9 HC1 HC2
    have HD_52 : Hid (Hold w w14 [(w5.heap.size, [.slice (some ⟨g5, 0, none⟩) n1 n1]), (w4.heap.size, [.int .i64 s0, .slice (some ⟨g4, 0, none⟩) n0 n0]), (w.heap.size + 1, [.slice a1 n1 cap1]), (w.heap.size, [.int .i64 s0, .slice a0 n0 cap0])]) := HD_48.out.below B10.out
    clear HD_48
    have ZZ53 : Hid (w12.heap.size ≤ w14.heap.size) := B10.out.size
    have W0_53 : Hid (RowOwn w2.heap.size w3.heap.size w14 a3 LL) := W0_49.out.below B10.out (by have y0 := ZZ2.out; have y1 := ZZ6.out; have y2 := ZZ11.out; have y3 := ZZ18.out; have y4 := ZZ22.out; have y5 := ZZ23.out; have y6 := ZZ28.out; have y7 := ZZ32.out; have y8 := ZZ33.out; have y9 := ZZ39.out; have y10 := ZZ43.out; have y11 := ZZ49.out; have y12 := ZZ53.out; omega)
    have X0_53 : Hid (EdgesOwn w3.heap.size w4.heap.size w14 (some ⟨g4, 0, none⟩) l0) := X0_49.out.below B10.out (by have y0 := ZZ2.out; have y1 := ZZ6.out; have y2 := ZZ11.out; have y3 := ZZ18.out; have y4 := ZZ22.out; have y5 := ZZ23.out; have y6 := ZZ28.out; have y7 := ZZ32.out; have y8 := ZZ33.out; have y9 := ZZ39.out; have y10 := ZZ43.out; have y11 := ZZ49.out; have y12 := ZZ53.out; omega)
    have X1_53 : Hid (PathOwn (w4.alloc (.cells #[.int .i64 s0, .slice (some ⟨g4, 0, none⟩) n0 n0] 26)).heap.size w5.heap.size w14 (some ⟨g5, 0, none⟩) l1) := X1_49.out.below B10.out (by have y0 := ZZ2.out; have y1 := ZZ6.out; have y2 := ZZ11.out; have y3 := ZZ18.out; have y4 := ZZ22.out; have y5 := ZZ23.out; have y6 := ZZ28.out; have y7 := ZZ32.out; have y8 := ZZ33.out; have y9 := ZZ39.out; have y10 := ZZ43.out; have y11 := ZZ49.out; have y12 := ZZ53.out; omega)
    have G0_53 : Hid (RowOwn (w5.alloc (.cells #[.slice (some ⟨g5, 0, none⟩) n1 n1] 36)).heap.size w6.heap.size w14 a6 LL) := G0_49.out.below B10.out (by have y0 := ZZ2.out; have y1 := ZZ6.out; have y2 := ZZ11.out; have y3 := ZZ18.out; have y4 := ZZ22.out; have y5 := ZZ23.out; have y6 := ZZ28.out; have y7 := ZZ32.out; have y8 := ZZ33.out; have y9 := ZZ39.out; have y10 := ZZ43.out; have y11 := ZZ49.out; have y12 := ZZ53.out; omega)
    clear W0_49 X0_49 X1_49 G0_49
    clear B10
    have q_54 : w14.cell? ⟨w4.heap.size, 0, none⟩ = some (.int .i64 s0) := HD_52.out.cell (b := w4.heap.size) (vs := [.int .i64 s0, .slice (some ⟨g4, 0, none⟩) n0 n0]) (i := 0) (by simp) (by simp)
    have q_55 : w14.cell? ⟨w4.heap.size, 1, none⟩ = some (.slice (some ⟨g4, 0, none⟩) n0 n0) := HD_52.out.cell (b := w4.heap.size) (vs := [.int .i64 s0, .slice (some ⟨g4, 0, none⟩) n0 n0]) (i := 1) (by simp) (by simp)
    go_wp2_with fail
    refine (markGraph_any w3.heap.size w4.heap.size s0 (some ⟨g4, 0, none⟩) n0 n0 1 l0 _ X0_53.out (by have y0 := ZZ2.out; have y1 := ZZ6.out; have y2 := ZZ11.out; have y3 := ZZ18.out; have y4 := ZZ22.out; have y5 := ZZ23.out; have y6 := ZZ28.out; have y7 := ZZ32.out; have y8 := ZZ33.out; have y9 := ZZ39.out; have y10 := ZZ43.out; have y11 := ZZ49.out; have y12 := ZZ53.out; omega) HL0.out HM.out (by omega)).mono ?_
    rintro e w15 ⟨m15, rfl, HM_m15, X_56, K_56⟩
    clear q_54 q_55
    have HD_57 : Hid (Hold w w15 [(w5.heap.size, [.slice (some ⟨g5, 0, none⟩) n1 n1]), (w4.heap.size, [.int .i64 s0, .slice (some ⟨g4, 0, none⟩) n0 n0]), (w.heap.size + 1, [.slice a1 n1 cap1]), (w.heap.size, [.int .i64 s0, .slice a0 n0 cap0])]) := HD_52.out.kept K_56.out (by intro x hx; simp only [List.mem_cons, List.not_mem_nil, or_false] at hx; have y0 := ZZ2.out; have y1 := ZZ6.out; have y2 := ZZ11.out; have y3 := ZZ18.out; have y4 := ZZ22.out; have y5 := ZZ23.out; have y6 := ZZ28.out; have y7 := ZZ32.out; have y8 := ZZ33.out; have y9 := ZZ39.out; have y10 := ZZ43.out; have y11 := ZZ49.out; have y12 := ZZ53.out; rcases hx with rfl | rfl | rfl | rfl <;> dsimp only <;> omega) (fun k hk => by have y0 := ZZ2.out; have y1 := ZZ6.out; have y2 := ZZ11.out; have y3 := ZZ18.out; have y4 := ZZ22.out; have y5 := ZZ23.out; have y6 := ZZ28.out; have y7 := ZZ32.out; have y8 := ZZ33.out; have y9 := ZZ39.out; have y10 := ZZ43.out; have y11 := ZZ49.out; have y12 := ZZ53.out; omega)
    clear HD_52
    have ZZ58 : Hid (w14.heap.size ≤ w15.heap.size) := K_56.out.size
    have W0_58 : Hid (RowOwn w2.heap.size w3.heap.size w15 a3 LL) := W0_53.out.kept K_56.out (fun c h1 h2 h3 => by have y0 := ZZ2.out; have y1 := ZZ6.out; have y2 := ZZ11.out; have y3 := ZZ18.out; have y4 := ZZ22.out; have y5 := ZZ23.out; have y6 := ZZ28.out; have y7 := ZZ32.out; have y8 := ZZ33.out; have y9 := ZZ39.out; have y10 := ZZ43.out; have y11 := ZZ49.out; have y12 := ZZ53.out; have y13 := ZZ58.out; omega)
    have X1_58 : Hid (PathOwn (w4.alloc (.cells #[.int .i64 s0, .slice (some ⟨g4, 0, none⟩) n0 n0] 26)).heap.size w5.heap.size w15 (some ⟨g5, 0, none⟩) l1) := X1_53.out.kept K_56.out (by have y0 := ZZ2.out; have y1 := ZZ6.out; have y2 := ZZ11.out; have y3 := ZZ18.out; have y4 := ZZ22.out; have y5 := ZZ23.out; have y6 := ZZ28.out; have y7 := ZZ32.out; have y8 := ZZ33.out; have y9 := ZZ39.out; have y10 := ZZ43.out; have y11 := ZZ49.out; have y12 := ZZ53.out; have y13 := ZZ58.out; omega) (fun c h1 h2 h3 => by have y0 := ZZ2.out; have y1 := ZZ6.out; have y2 := ZZ11.out; have y3 := ZZ18.out; have y4 := ZZ22.out; have y5 := ZZ23.out; have y6 := ZZ28.out; have y7 := ZZ32.out; have y8 := ZZ33.out; have y9 := ZZ39.out; have y10 := ZZ43.out; have y11 := ZZ49.out; have y12 := ZZ53.out; have y13 := ZZ58.out; omega)
    have G0_58 : Hid (RowOwn (w5.alloc (.cells #[.slice (some ⟨g5, 0, none⟩) n1 n1] 36)).heap.size w6.heap.size w15 a6 LL) := G0_53.out.kept K_56.out (fun c h1 h2 h3 => by have y0 := ZZ2.out; have y1 := ZZ6.out; have y2 := ZZ11.out; have y3 := ZZ18.out; have y4 := ZZ22.out; have y5 := ZZ23.out; have y6 := ZZ28.out; have y7 := ZZ32.out; have y8 := ZZ33.out; have y9 := ZZ39.out; have y10 := ZZ43.out; have y11 := ZZ49.out; have y12 := ZZ53.out; have y13 := ZZ58.out; omega)
    clear W0_53 X0_53 X1_53 G0_53
    clear K_56
    have hk15 : m15 ≤ 1000000000 := by have := HM_m15.out; have := HM.out; omega
    have q_59 : w15.cell? ⟨w5.heap.size, 0, none⟩ = some (.slice (some ⟨g5, 0, none⟩) n1 n1) := HD_57.out.cell (b := w5.heap.size) (vs := [.slice (some ⟨g5, 0, none⟩) n1 n1]) (i := 0) (by simp) (by simp)
    go_wp2_with fail
    refine (markPath_any (w4.alloc (.cells #[.int .i64 s0, .slice (some ⟨g4, 0, none⟩) n0 n0] 26)).heap.size w5.heap.size (some ⟨g5, 0, none⟩) n1 n1 m15 l1 _ X1_58.out (by have y0 := ZZ2.out; have y1 := ZZ6.out; have y2 := ZZ11.out; have y3 := ZZ18.out; have y4 := ZZ22.out; have y5 := ZZ23.out; have y6 := ZZ28.out; have y7 := ZZ32.out; have y8 := ZZ33.out; have y9 := ZZ39.out; have y10 := ZZ43.out; have y11 := ZZ49.out; have y12 := ZZ53.out; have y13 := ZZ58.out; omega) HL1.out HM1.out.1 HM1.out.2.2 (by omega)).mono ?_
    rintro e w16 ⟨m16, rfl, HM_m16, X_60, K_60⟩
    clear q_59
    have HD_61 : Hid (Hold w w16 [(w5.heap.size, [.slice (some ⟨g5, 0, none⟩) n1 n1]), (w4.heap.size, [.int .i64 s0, .slice (some ⟨g4, 0, none⟩) n0 n0]), (w.heap.size + 1, [.slice a1 n1 cap1]), (w.heap.size, [.int .i64 s0, .slice a0 n0 cap0])]) := HD_57.out.kept K_60.out (by intro x hx; simp only [List.mem_cons, List.not_mem_nil, or_false] at hx; have y0 := ZZ2.out; have y1 := ZZ6.out; have y2 := ZZ11.out; have y3 := ZZ18.out; have y4 := ZZ22.out; have y5 := ZZ23.out; have y6 := ZZ28.out; have y7 := ZZ32.out; have y8 := ZZ33.out; have y9 := ZZ39.out; have y10 := ZZ43.out; have y11 := ZZ49.out; have y12 := ZZ53.out; have y13 := ZZ58.out; rcases hx with rfl | rfl | rfl | rfl <;> dsimp only <;> omega) (fun k hk => by have y0 := ZZ2.out; have y1 := ZZ6.out; have y2 := ZZ11.out; have y3 := ZZ18.out; have y4 := ZZ22.out; have y5 := ZZ23.out; have y6 := ZZ28.out; have y7 := ZZ32.out; have y8 := ZZ33.out; have y9 := ZZ39.out; have y10 := ZZ43.out; have y11 := ZZ49.out; have y12 := ZZ53.out; have y13 := ZZ58.out; omega)
    clear HD_57
    have ZZ62 : Hid (w15.heap.size ≤ w16.heap.size) := K_60.out.size
    have W0_62 : Hid (RowOwn w2.heap.size w3.heap.size w16 a3 LL) := W0_58.out.kept K_60.out (fun c h1 h2 h3 => by have y0 := ZZ2.out; have y1 := ZZ6.out; have y2 := ZZ11.out; have y3 := ZZ18.out; have y4 := ZZ22.out; have y5 := ZZ23.out; have y6 := ZZ28.out; have y7 := ZZ32.out; have y8 := ZZ33.out; have y9 := ZZ39.out; have y10 := ZZ43.out; have y11 := ZZ49.out; have y12 := ZZ53.out; have y13 := ZZ58.out; have y14 := ZZ62.out; omega)
    have G0_62 : Hid (RowOwn (w5.alloc (.cells #[.slice (some ⟨g5, 0, none⟩) n1 n1] 36)).heap.size w6.heap.size w16 a6 LL) := G0_58.out.kept K_60.out (fun c h1 h2 h3 => by have y0 := ZZ2.out; have y1 := ZZ6.out; have y2 := ZZ11.out; have y3 := ZZ18.out; have y4 := ZZ22.out; have y5 := ZZ23.out; have y6 := ZZ28.out; have y7 := ZZ32.out; have y8 := ZZ33.out; have y9 := ZZ39.out; have y10 := ZZ43.out; have y11 := ZZ49.out; have y12 := ZZ53.out; have y13 := ZZ58.out; have y14 := ZZ62.out; omega)
    clear W0_58 X1_58 G0_58
    clear K_60
    have hn_m16 : ¬ ((m16 : Nat) : Int) < 0 := by omega
    go_wp2_with fail
    refine (eqInts_any (w5.alloc (.cells #[.slice (some ⟨g5, 0, none⟩) n1 n1] 36)).heap.size w6.heap.size w2.heap.size w3.heap.size a6 a3 n3 n3 cap6 cap3 LL LL true _ G0_62.out.toIn W0_62.out.toIn HN3.out HN3.out HM3.out (by simp)).mono ?_
    rintro e w17 ⟨rfl, b_63⟩
    have B_63 : Hid (Below w16.heap.size w16 w17) := b_63
    clear b_63
    have HD_64 : Hid (Hold w w17 [(w5.heap.size, [.slice (some ⟨g5, 0, none⟩) n1 n1]), (w4.heap.size, [.int .i64 s0, .slice (some ⟨g4, 0, none⟩) n0 n0]), (w.heap.size + 1, [.slice a1 n1 cap1]), (w.heap.size, [.int .i64 s0, .slice a0 n0 cap0])]) := HD_61.out.below B_63.out
    clear HD_61
    have ZZ65 : Hid (w16.heap.size ≤ w17.heap.size) := B_63.out.size
    have W0_65 : Hid (RowOwn w2.heap.size w3.heap.size w17 a3 LL) := W0_62.out.below B_63.out (by have y0 := ZZ2.out; have y1 := ZZ6.out; have y2 := ZZ11.out; have y3 := ZZ18.out; have y4 := ZZ22.out; have y5 := ZZ23.out; have y6 := ZZ28.out; have y7 := ZZ32.out; have y8 := ZZ33.out; have y9 := ZZ39.out; have y10 := ZZ43.out; have y11 := ZZ49.out; have y12 := ZZ53.out; have y13 := ZZ58.out; have y14 := ZZ62.out; have y15 := ZZ65.out; omega)
    have G0_65 : Hid (RowOwn (w5.alloc (.cells #[.slice (some ⟨g5, 0, none⟩) n1 n1] 36)).heap.size w6.heap.size w17 a6 LL) := G0_62.out.below B_63.out (by have y0 := ZZ2.out; have y1 := ZZ6.out; have y2 := ZZ11.out; have y3 := ZZ18.out; have y4 := ZZ22.out; have y5 := ZZ23.out; have y6 := ZZ28.out; have y7 := ZZ32.out; have y8 := ZZ33.out; have y9 := ZZ39.out; have y10 := ZZ43.out; have y11 := ZZ49.out; have y12 := ZZ53.out; have y13 := ZZ58.out; have y14 := ZZ62.out; have y15 := ZZ65.out; omega)
    clear W0_62 G0_62
    clear B_63
    go_wp2_with fail
    refine (markInts_any (fun c => (w5.alloc (.cells #[.slice (some ⟨g5, 0, none⟩) n1 n1] 36)).heap.size ≤ c ∧ c < w6.heap.size) (w5.alloc (.cells #[.slice (some ⟨g5, 0, none⟩) n1 n1] 36)).heap.size w6.heap.size a6 n3 cap6 1 LL _ G0_65.out HN3.out HM3.out (by omega) (fun b hb hne => ?_)).mono ?_
    · rcases G0_65.out with h | ⟨b', e', h1, h2, _⟩
      · exact absurd h hne
      · rw [hb] at e'
        simp only [Option.some.injEq, Addr.mk.injEq] at e'
        obtain ⟨rfl, _⟩ := e'
        exact ⟨h1, h2⟩
    rintro e w18 ⟨rfl, x18, k18, _⟩
    have K18 : Hid (KeptP (fun c => (w5.alloc (.cells #[.slice (some ⟨g5, 0, none⟩) n1 n1] 36)).heap.size ≤ c ∧ c < w6.heap.size) w17 w18) := k18
    have X18 : Hid (RowOwn (w5.alloc (.cells #[.slice (some ⟨g5, 0, none⟩) n1 n1] 36)).heap.size w6.heap.size w18 a6 (marks 1 n3)) := x18
    clear k18 x18
    have HD_66 : Hid (Hold w w18 [(w5.heap.size, [.slice (some ⟨g5, 0, none⟩) n1 n1]), (w4.heap.size, [.int .i64 s0, .slice (some ⟨g4, 0, none⟩) n0 n0]), (w.heap.size + 1, [.slice a1 n1 cap1]), (w.heap.size, [.int .i64 s0, .slice a0 n0 cap0])]) := HD_64.out.kept K18.out (by intro x hx; simp only [List.mem_cons, List.not_mem_nil, or_false] at hx; have y0 := ZZ2.out; have y1 := ZZ6.out; have y2 := ZZ11.out; have y3 := ZZ18.out; have y4 := ZZ22.out; have y5 := ZZ23.out; have y6 := ZZ28.out; have y7 := ZZ32.out; have y8 := ZZ33.out; have y9 := ZZ39.out; have y10 := ZZ43.out; have y11 := ZZ49.out; have y12 := ZZ53.out; have y13 := ZZ58.out; have y14 := ZZ62.out; have y15 := ZZ65.out; rcases hx with rfl | rfl | rfl | rfl <;> dsimp only <;> omega) (fun k hk => by have y0 := ZZ2.out; have y1 := ZZ6.out; have y2 := ZZ11.out; have y3 := ZZ18.out; have y4 := ZZ22.out; have y5 := ZZ23.out; have y6 := ZZ28.out; have y7 := ZZ32.out; have y8 := ZZ33.out; have y9 := ZZ39.out; have y10 := ZZ43.out; have y11 := ZZ49.out; have y12 := ZZ53.out; have y13 := ZZ58.out; have y14 := ZZ62.out; have y15 := ZZ65.out; omega)
    clear HD_64
    have ZZ67 : Hid (w17.heap.size ≤ w18.heap.size) := K18.out.size
    have W0_67 : Hid (RowOwn w2.heap.size w3.heap.size w18 a3 LL) := W0_65.out.kept K18.out (fun c h1 h2 h3 => by have y0 := ZZ2.out; have y1 := ZZ6.out; have y2 := ZZ11.out; have y3 := ZZ18.out; have y4 := ZZ22.out; have y5 := ZZ23.out; have y6 := ZZ28.out; have y7 := ZZ32.out; have y8 := ZZ33.out; have y9 := ZZ39.out; have y10 := ZZ43.out; have y11 := ZZ49.out; have y12 := ZZ53.out; have y13 := ZZ58.out; have y14 := ZZ62.out; have y15 := ZZ65.out; have y16 := ZZ67.out; omega)
    clear W0_65 G0_65
    clear K18
    have G0_68 : Hid (RowOwn (w5.alloc (.cells #[.slice (some ⟨g5, 0, none⟩) n1 n1] 36)).heap.size w6.heap.size w18 a6 (marks 1 n3)) := X18.out
    clear X18
    obtain ⟨m18, HM18⟩ : ∃ m : Nat, Hid (m = 1 + n3) := ⟨_, rfl⟩
    rw [← HM18.out]
    have hn_m18 : ¬ ((m18 : Nat) : Int) < 0 := by omega
    go_wp2_with fail
    refine (heldInts_any (w5.alloc (.cells #[.slice (some ⟨g5, 0, none⟩) n1 n1] 36)).heap.size w6.heap.size a6 n3 cap6 1 _ G0_68.out.toIn HM3.out (by omega)).mono ?_
    rintro e w_69 ⟨rfl, rfl⟩
    rw [← HM18.out]
    have q_70 : w18.cell? ⟨w.heap.size, 0, none⟩ = some (.int .i64 s0) := HD_66.out.cell (b := w.heap.size) (vs := [.int .i64 s0, .slice a0 n0 cap0]) (i := 0) (by simp) (by simp)
    have q_71 : w18.cell? ⟨w.heap.size, 1, none⟩ = some (.slice a0 n0 cap0) := HD_66.out.cell (b := w.heap.size) (vs := [.int .i64 s0, .slice a0 n0 cap0]) (i := 1) (by simp) (by simp)
    have q_72 : w18.cell? ⟨w.heap.size + 1, 0, none⟩ = some (.slice a1 n1 cap1) := HD_66.out.cell (b := w.heap.size + 1) (vs := [.slice a1 n1 cap1]) (i := 0) (by simp) (by simp)
    have HTG : Hid (∀ w0, Below w18.heap.size w18 w0 → Calls Try.prog 19 #[gv s0 a0 n0 cap0] w0 fun e w' => ∃ g : Nat, e = .returned (gv s0 (some ⟨g, 0, none⟩) n0 n0) ∧ Hid (EdgesIn w18.heap.size w'.heap.size w' (some ⟨g, 0, none⟩) l0) ∧ Hid (Below w18.heap.size w18 w') ∧ Hid (Below w0.heap.size w0 w') ∧ (w'.cell? ⟨w.heap.size, 0, none⟩ = some (.int .i64 s0) ∧ w'.cell? ⟨w.heap.size, 1, none⟩ = some (.slice a0 n0 cap0) ∧ w'.cell? ⟨w.heap.size + 1, 0, none⟩ = some (.slice a1 n1 cap1))) := fun w0 h =>
      (toGraph_any 0 w.heap.size s0 a0 n0 cap0 l0 w0 (HR0.out.below (HD_66.out.below h).bel (Nat.le_refl _)) (HD_66.out.below h).bel.size HL0.out HM.out).mono fun _ w' ⟨g, h1, h2, h4⟩ =>
        have h3 : Hid (Hold w w' [(w5.heap.size, [.slice (some ⟨g5, 0, none⟩) n1 n1]), (w4.heap.size, [.int .i64 s0, .slice (some ⟨g4, 0, none⟩) n0 n0]), (w.heap.size + 1, [.slice a1 n1 cap1]), (w.heap.size, [.int .i64 s0, .slice a0 n0 cap0])]) := (HD_66.out.below h).below h4.out
        ⟨g, h1, h2.out.toIn.wide h.size (Nat.le_refl _), h.trans (h4.out.mono h.size), h4, h3.out.cell (b := w.heap.size) (vs := [.int .i64 s0, .slice a0 n0 cap0]) (i := 0) (by simp) (by simp), h3.out.cell (b := w.heap.size) (vs := [.int .i64 s0, .slice a0 n0 cap0]) (i := 1) (by simp) (by simp), h3.out.cell (b := w.heap.size + 1) (vs := [.slice a1 n1 cap1]) (i := 0) (by simp) (by simp)⟩
    have HTP : Hid (∀ w0, Below w18.heap.size w18 w0 → Calls Try.prog 20 #[.agg #[.slice a1 n1 cap1]] w0 fun e w' => ∃ g : Nat, e = .returned (.agg #[.slice (some ⟨g, 0, none⟩) n1 n1]) ∧ Hid (PathIn w18.heap.size w'.heap.size w' (some ⟨g, 0, none⟩) l1) ∧ Hid (Below w18.heap.size w18 w') ∧ Hid (Below w0.heap.size w0 w') ∧ (w'.cell? ⟨w.heap.size, 0, none⟩ = some (.int .i64 s0) ∧ w'.cell? ⟨w.heap.size, 1, none⟩ = some (.slice a0 n0 cap0) ∧ w'.cell? ⟨w.heap.size + 1, 0, none⟩ = some (.slice a1 n1 cap1))) := fun w0 h =>
      (toPath_any 0 w.heap.size a1 n1 cap1 l1 w0 (HR1.out.below (HD_66.out.below h).bel (Nat.le_refl _)) (HD_66.out.below h).bel.size HL1.out HM1.out.1 HM1.out.2.1).mono fun _ w' ⟨g, h1, h2, h4⟩ =>
        have h3 : Hid (Hold w w' [(w5.heap.size, [.slice (some ⟨g5, 0, none⟩) n1 n1]), (w4.heap.size, [.int .i64 s0, .slice (some ⟨g4, 0, none⟩) n0 n0]), (w.heap.size + 1, [.slice a1 n1 cap1]), (w.heap.size, [.int .i64 s0, .slice a0 n0 cap0])]) := (HD_66.out.below h).below h4.out
        ⟨g, h1, h2.out.toIn.wide h.size (Nat.le_refl _), h.trans (h4.out.mono h.size), h4, h3.out.cell (b := w.heap.size) (vs := [.int .i64 s0, .slice a0 n0 cap0]) (i := 0) (by simp) (by simp), h3.out.cell (b := w.heap.size) (vs := [.int .i64 s0, .slice a0 n0 cap0]) (i := 1) (by simp) (by simp), h3.out.cell (b := w.heap.size + 1) (vs := [.slice a1 n1 cap1]) (i := 0) (by simp) (by simp)⟩
    have HTF : Hid (∀ w0 (g g' : Nat), Below w18.heap.size w18 w0 → EdgesIn w18.heap.size w0.heap.size w0 (some ⟨g, 0, none⟩) l0 → PathIn w18.heap.size w0.heap.size w0 (some ⟨g', 0, none⟩) l1 → Calls Try.prog 21 #[gv s0 (some ⟨g, 0, none⟩) n0 n0, .agg #[.slice (some ⟨g', 0, none⟩) n1 n1], .int .i64 z2] w0 fun e w' => ∃ (a' : Option Addr) (n' c' : Nat), e = .returned (.slice a' n' c') ∧ Hid (LL.length = n') ∧ Hid (RowOwn w18.heap.size w'.heap.size w' a' LL) ∧ Hid (Below w18.heap.size w18 w') ∧ (w'.cell? ⟨w.heap.size, 0, none⟩ = some (.int .i64 s0) ∧ w'.cell? ⟨w.heap.size, 1, none⟩ = some (.slice a0 n0 cap0) ∧ w'.cell? ⟨w.heap.size + 1, 0, none⟩ = some (.slice a1 n1 cap1))) := fun w0 g g' h h1 h2 =>
      (pathEnds_any w18.heap.size w0.heap.size s0 (some ⟨g, 0, none⟩) n0 n0 l0 w18.heap.size w0.heap.size (some ⟨g', 0, none⟩) n1 n1 l1 z2 w0 h1 (Nat.le_refl _) HL0.out HM.out h2 (Nat.le_refl _) HL1.out HM1.out.1 HM1.out.2.1).mono fun _ w' ⟨a', n', c', e1, e2, e3, e4⟩ =>
        have h3 : Hid (Hold w w' [(w5.heap.size, [.slice (some ⟨g5, 0, none⟩) n1 n1]), (w4.heap.size, [.int .i64 s0, .slice (some ⟨g4, 0, none⟩) n0 n0]), (w.heap.size + 1, [.slice a1 n1 cap1]), (w.heap.size, [.int .i64 s0, .slice a0 n0 cap0])]) := (HD_66.out.below h).below e4.out
        ⟨a', n', c', e1, by rw [HLL.out]; exact e2, by rw [HLL.out]; exact e3.out.wide h.size (Nat.le_refl _), h.trans (e4.out.mono h.size), h3.out.cell (b := w.heap.size) (vs := [.int .i64 s0, .slice a0 n0 cap0]) (i := 0) (by simp) (by simp), h3.out.cell (b := w.heap.size) (vs := [.int .i64 s0, .slice a0 n0 cap0]) (i := 1) (by simp) (by simp), h3.out.cell (b := w.heap.size + 1) (vs := [.slice a1 n1 cap1]) (i := 0) (by simp) (by simp)⟩
    go_upto_region 31 with fail
    go_cut [15] (fun v wc => ∃ (a : Option Addr) (n c : Nat), v = .slice a n c ∧ Hid (LL.length = n) ∧ Hid (RowOwn w18.heap.size wc.heap.size wc a LL) ∧ Hid (Below w18.heap.size w18 wc))
    case first =>
      go_region_held3 (fun w' => w'.cell? ⟨w.heap.size, 0, none⟩ = some (.int .i64 s0) ∧ w'.cell? ⟨w.heap.size, 1, none⟩ = some (.slice a0 n0 cap0) ∧ w'.cell? ⟨w.heap.size + 1, 0, none⟩ = some (.slice a1 n1 cap1)) (first | exact ⟨q_70, q_71, q_72⟩ | exact hk9 | exact hk10 | exact hk11) (first | (go_at_call 19; refine (HTG.out _ (by first | exact (Below.refl _ _).drew | exact B10.out)).mono ?_; rintro e w9 ⟨g9, rfl, X9, B9, C9, hk9⟩) | (go_at_call 20; refine (HTP.out _ (by first | exact (Below.refl _ _).drew | exact B9.out)).mono ?_; rintro e w10 ⟨g10, rfl, X10, B10, C10, hk10⟩) | (go_at_call 21; (first | refine (HTF.out _ _ _ B10.out ((X9.out.below C10.out (Nat.le_refl _)).wide (Nat.le_refl _) C10.out.size) X10.out).mono ?_ | refine (HTF.out _ _ _ B9.out X9.out ((X10.out.below C9.out (Nat.le_refl _)).wide (Nat.le_refl _) C9.out.size)).mono ?_); rintro e w11 ⟨a11, n11, c11, rfl, HN11, X11, B11, hk11⟩))
      all_goals first | (go_meet; case rel => exact ⟨_, _, _, rfl, HN11, X11, B11⟩) | (go_wp2_with fail; go_meet; case rel => exact ⟨_, _, _, rfl, HN11, X11, B11⟩)
    case rest =>
      obtain ⟨w20, rfl⟩ : ∃ V, V = wc := ⟨_, rfl⟩
      obtain ⟨a20, n20, cap20, rfl, HN20, X20, BC_w20⟩ := hcut
      clear q_70 q_71 q_72 HTG HTP HTF
      have HD_73 : Hid (Hold w w20 [(w5.heap.size, [.slice (some ⟨g5, 0, none⟩) n1 n1]), (w4.heap.size, [.int .i64 s0, .slice (some ⟨g4, 0, none⟩) n0 n0]), (w.heap.size + 1, [.slice a1 n1 cap1]), (w.heap.size, [.int .i64 s0, .slice a0 n0 cap0])]) := HD_66.out.below BC_w20.out
      clear HD_66
      have ZZ74 : Hid (w18.heap.size ≤ w20.heap.size) := BC_w20.out.size
      have W0_74 : Hid (RowOwn w2.heap.size w3.heap.size w20 a3 LL) := W0_67.out.below BC_w20.out (by have y0 := ZZ2.out; have y1 := ZZ6.out; have y2 := ZZ11.out; have y3 := ZZ18.out; have y4 := ZZ22.out; have y5 := ZZ23.out; have y6 := ZZ28.out; have y7 := ZZ32.out; have y8 := ZZ33.out; have y9 := ZZ39.out; have y10 := ZZ43.out; have y11 := ZZ49.out; have y12 := ZZ53.out; have y13 := ZZ58.out; have y14 := ZZ62.out; have y15 := ZZ65.out; have y16 := ZZ67.out; have y17 := ZZ74.out; omega)
      have G0_74 : Hid (RowOwn (w5.alloc (.cells #[.slice (some ⟨g5, 0, none⟩) n1 n1] 36)).heap.size w6.heap.size w20 a6 (marks 1 n3)) := G0_68.out.below BC_w20.out (by have y0 := ZZ2.out; have y1 := ZZ6.out; have y2 := ZZ11.out; have y3 := ZZ18.out; have y4 := ZZ22.out; have y5 := ZZ23.out; have y6 := ZZ28.out; have y7 := ZZ32.out; have y8 := ZZ33.out; have y9 := ZZ39.out; have y10 := ZZ43.out; have y11 := ZZ49.out; have y12 := ZZ53.out; have y13 := ZZ58.out; have y14 := ZZ62.out; have y15 := ZZ65.out; have y16 := ZZ67.out; have y17 := ZZ74.out; omega)
      clear W0_67 G0_68
      clear BC_w20
      obtain rfl : n3 = n20 := by rw [← HN3.out, HN20.out]
      clear HN20
      have H0_75 : Hid (RowOwn w18.heap.size w20.heap.size w20 a20 LL) := X20.out
      clear X20
      go_wp2_with fail
      refine (eqInts_any w18.heap.size w20.heap.size w2.heap.size w3.heap.size a20 a3 n3 n3 cap20 cap3 LL LL true _ H0_75.out.toIn W0_74.out.toIn HN3.out HN3.out HM3.out (by simp)).mono ?_
      rintro e w21 ⟨rfl, b_76⟩
      have B_76 : Hid (Below w20.heap.size w20 w21) := b_76
      clear b_76
      have HD_77 : Hid (Hold w w21 [(w5.heap.size, [.slice (some ⟨g5, 0, none⟩) n1 n1]), (w4.heap.size, [.int .i64 s0, .slice (some ⟨g4, 0, none⟩) n0 n0]), (w.heap.size + 1, [.slice a1 n1 cap1]), (w.heap.size, [.int .i64 s0, .slice a0 n0 cap0])]) := HD_73.out.below B_76.out
      clear HD_73
      have ZZ78 : Hid (w20.heap.size ≤ w21.heap.size) := B_76.out.size
      have W0_78 : Hid (RowOwn w2.heap.size w3.heap.size w21 a3 LL) := W0_74.out.below B_76.out (by have y0 := ZZ2.out; have y1 := ZZ6.out; have y2 := ZZ11.out; have y3 := ZZ18.out; have y4 := ZZ22.out; have y5 := ZZ23.out; have y6 := ZZ28.out; have y7 := ZZ32.out; have y8 := ZZ33.out; have y9 := ZZ39.out; have y10 := ZZ43.out; have y11 := ZZ49.out; have y12 := ZZ53.out; have y13 := ZZ58.out; have y14 := ZZ62.out; have y15 := ZZ65.out; have y16 := ZZ67.out; have y17 := ZZ74.out; have y18 := ZZ78.out; omega)
      have G0_78 : Hid (RowOwn (w5.alloc (.cells #[.slice (some ⟨g5, 0, none⟩) n1 n1] 36)).heap.size w6.heap.size w21 a6 (marks 1 n3)) := G0_74.out.below B_76.out (by have y0 := ZZ2.out; have y1 := ZZ6.out; have y2 := ZZ11.out; have y3 := ZZ18.out; have y4 := ZZ22.out; have y5 := ZZ23.out; have y6 := ZZ28.out; have y7 := ZZ32.out; have y8 := ZZ33.out; have y9 := ZZ39.out; have y10 := ZZ43.out; have y11 := ZZ49.out; have y12 := ZZ53.out; have y13 := ZZ58.out; have y14 := ZZ62.out; have y15 := ZZ65.out; have y16 := ZZ67.out; have y17 := ZZ74.out; have y18 := ZZ78.out; omega)
      have H0_78 : Hid (RowOwn w18.heap.size w20.heap.size w21 a20 LL) := H0_75.out.below B_76.out (by have y0 := ZZ2.out; have y1 := ZZ6.out; have y2 := ZZ11.out; have y3 := ZZ18.out; have y4 := ZZ22.out; have y5 := ZZ23.out; have y6 := ZZ28.out; have y7 := ZZ32.out; have y8 := ZZ33.out; have y9 := ZZ39.out; have y10 := ZZ43.out; have y11 := ZZ49.out; have y12 := ZZ53.out; have y13 := ZZ58.out; have y14 := ZZ62.out; have y15 := ZZ65.out; have y16 := ZZ67.out; have y17 := ZZ74.out; have y18 := ZZ78.out; omega)
      clear W0_74 G0_74 H0_75
      clear B_76
      go_wp2_with fail
      refine (heldInts_any (w5.alloc (.cells #[.slice (some ⟨g5, 0, none⟩) n1 n1] 36)).heap.size w6.heap.size a6 n3 cap6 1 _ G0_78.out.toIn HM3.out (by omega)).mono ?_
      rintro e w_79 ⟨rfl, rfl⟩
      rw [← HM18.out]
      go_wp2
      go_ret
      exact ⟨rfl, HD_77.out.bel⟩
end Go.Proofs.Ytdbogikcmfnpdaa

namespace Go.Proofs.Ytdbogikcmfnpdaa.fnExactPathEnds
open Go.ChangeShapes Go.WideShapes Go.ChangeAt Go.RowKit
open Go.ChangeMaps (open_string shut_string)
set_option linter.unusedVariables false

theorem own : ownKnob Try.prog.godebug = none := by kernel_rfl
theorem laidOut : laidOutB Try.prog = true := by kernel_rfl

set_option maxRecDepth 100000 in
theorem lifted (os : Os) (started : os.Started) (H : Type) (enc : TypeId × Value → H) :
    ReturnsInHanded {} Try.checked os 5 .any (Rows.fnExactPathEndsSpec.pre6 enc Try.prog Try.f5 Rows.fnExactPathEndsRow.domain false) (Rows.fnExactPathEndsSpec.post enc Try.prog Try.f5 false true false false) := by
  refine returnsInHanded_of_change (C := Try.checked) own started (by kernel_rfl) Try.func5
    (ChangeSpec.witness6 (enc := enc) (C := Try.checked) false ⟨#[], #[.agg #[.int .i64 0, .slice none 0 0], .agg #[.slice none 0 0], .int .i64 0], []⟩ 8 (by kernel_rfl) (by kernel_rfl) (by kernel_rfl) (by kernel_rfl)) ?_
  intro W base args ds gs before hval0 hW hcnd _
  have hval : ∀ (j : Nat) t v, Try.f5.params[j]? = some t → args[j]? = some v → Value.okWide Try.prog W .any base t v := hval0
  have hW' := hW
  obtain ⟨p, q, hA0, hV, rfl, hfz, hnd⟩ := hW
  have hA : DataW.TrodAll enc Try.prog W 0 (fun _ => true) true Try.f5.params.toList args.toList ds p := hA0
  rw [Try.params5] at hA hval
  obtain ⟨v0, vs0, d0, ds0, p0, q0, hargs, rfl, rfl, h0, r0⟩ := trodAll_cons hA
  obtain ⟨v1, vs1, d1, ds1, p1, q1, rfl, rfl, rfl, h1, r1⟩ := trodAll_cons r0
  obtain ⟨v2, vs2, d2, ds2, p2, q2, rfl, rfl, rfl, h2, r2⟩ := trodAll_cons r1
  obtain ⟨rfl, rfl, rfl⟩ := trodAll_nil r2
  obtain rfl : args = #[v0, v1, v2] := by cases args; simp_all
  obtain ⟨rfl, rfl⟩ := trodVars_none hV
  have k0 := h0
  have lt0 : ∀ x ∈ p0, x.block < W.heap.size := by obtain ⟨m, hm⟩ := k0; exact DataW.trod_lt m _ _ _ hm
  have k1 := h1
  have lt1 : ∀ x ∈ p1, x.block < W.heap.size := by obtain ⟨m, hm⟩ := k1; exact DataW.trod_lt m _ _ _ hm
  have k2 := h2
  have lt2 : ∀ x ∈ p2, x.block < W.heap.size := by obtain ⟨m, hm⟩ := k2; exact DataW.trod_lt m _ _ _ hm
  obtain ⟨s0, a0, n0, cap0, l0, rfl, hm0, hl0, hr0⟩ := graph_in (hval 0 42 v0 rfl rfl) k0
  obtain ⟨a1, n1, cap1, l1, rfl, hm1, hl1, hr1⟩ := path_in (hval 1 45 v1 rfl rfl) k1
  obtain ⟨z2, rfl, rfl, rfl, hw2⟩ := open_int Try.underlying3 (hval 2 3 v2 rfl rfl) h2
  have hz2 : -9223372036854775808 ≤ z2 ∧ z2 ≤ 9223372036854775807 := by simpa [Lit.wf, IntKind.min, IntKind.max, IntKind.signed, IntKind.bits] using hw2
  clear hA0 hval0
  refine (law_8 s0 a0 n0 cap0 l0 a1 n1 cap1 l1 z2 W hm0 hl0 hr0 hm1 hl1 hr1 hz2).mono fun e W' ⟨he, bel⟩ => ?_
  subst he
  exact ⟨_, rfl, _, _, _, [], _, [], hW', trodAll_mk1 (shut_bool Try.underlying4 _), (trodAll_cons_mk (Below.trod laidOut (by kernel_rfl) (of_decide_eq_true (by kernel_rfl)) k0 bel lt0) (trodAll_cons_mk (Below.trod laidOut (by kernel_rfl) (of_decide_eq_true (by kernel_rfl)) k1 bel lt1) (trodAll_cons_mk (Below.trod laidOut (by kernel_rfl) (of_decide_eq_true (by kernel_rfl)) k2 bel lt2) trodAll_mk0))), rfl, bel.frame _, fun h => by cases h⟩

theorem over : Rows.fnExactPathEndsRow.holds Try.pinned (OpenSpec.ofChange Rows.fnExactPathEndsSpec) :=
  OpenClaim.holds_of_wide 5 Try.f5 rfl rfl rfl rfl rfl rfl rfl ⟨rfl, rfl, rfl, rfl, rfl⟩ rfl rfl rfl rfl rfl (by kernel_rfl) Try.func5 (by kernel_rfl)
    (of_decide_eq_true (by kernel_rfl)) (by unfold Func.isWrapper; first | (rw [if_pos (by decide +kernel)]; kernel_rfl) | (rw [if_neg (by decide +kernel)]; exact ⟨rfl, rfl⟩))
    (fun os started H enc _ => lifted os started H enc)

end Go.Proofs.Ytdbogikcmfnpdaa.fnExactPathEnds
namespace Go.Proofs.Ytdbogikcmfnpdaa

theorem fnExactPathEnds_holds : Rows.FnExactPathEndsSaid := fnExactPathEnds.over
#print axioms fnExactPathEnds_holds
end Go.Proofs.Ytdbogikcmfnpdaa
