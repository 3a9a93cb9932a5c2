/-
  Proved: at every graph and every path, FnExactPathPairs answers true: impl.PathPairs answers as spec.PathPairs does, pair by pair; it writes into no argument and keeps nothing of one; its answer owns its memory, behind another call too (for a graph and a path that hold more than the law's own bound the law asks nothing); nothing that was in memory is changed. No condition.
-/
import Derived.Test.YtdbogikcmfnpdaaEdC
import Derived.Test.YtdbogikcmfnpdaaFuB
import Derived.Test.YtdbogikcmfnpdaaQLf
import Derived.Test.YtdbogikcmfnpdaaLay
import Derived.Test.YtdbogikcmfnpdaaBmB
import Derived.Deep.RegionHeld3
import Derived.Deep.DeepCutAuto
import Derived.Test.YtdbogikcmfnpdaaHld
import Derived.Test.YtdbogikcmfnpdaaPtC
import Derived.WalkKit
import Derived.ProofKit
import Derived.OpenShut
import Derived.ShutString
import Derived.ChangeOld
import Derived.Below
/-
  spec.GraphOk.
-/
namespace Go.Proofs.Ytdbogikcmfnpdaa
open Go.RowKit

theorem okE_split (s : Int) (x : Ed) : okE s x = (inV s x.1 && inV s x.2.2 && decide (97 ≤ x.2.1) && decide (x.2.1 ≤ 100)) := rfl
theorem inV_in (s v : Int) : (decide (0 ≤ v) && decide (v ≤ s - 1)) = inV s v := by unfold inV; congr 1; rw [decide_eq_decide]; omega

set_option maxHeartbeats 8000000 in
set_option maxRecDepth 100000 in
theorem specGOk_any (lo hi : Nat) (s : Int) (a : Option Addr) (n cap : Nat) (l : List Ed) (r : Bool) (w : World) (ha : EdgesIn lo hi w a l) (hh : hi ≤ w.heap.size) (hn : l.length = n) (hm : n ≤ 1048576) (hr : r = okG s l) :
    Calls Try.prog 44 #[gv s a n cap] w fun e w' => e = .returned (.bool r) ∧ Hid (Below w.heap.size w w') := by
  have HN : Hid (l.length = n) := hn
  have HA : Hid (EdgesIn lo hi w a l) := ha
  have HH : Hid (hi ≤ w.heap.size) := hh
  have HR : Hid (r = okG s l) := hr
  clear ha hh hn hr
  obtain ⟨tk, HTK⟩ : ∃ tk : Bool, Hid (tk = (decide (1 ≤ s) && decide (s ≤ 12))) := ⟨_, rfl⟩
  have HIN : Hid (∀ w0, Calls Try.prog 46 #[.int .i64 s, .int .i64 1, .int .i64 12] w0 fun e w' => e = .returned (.bool tk) ∧ w0 = w') := fun w0 => by rw [HTK.out]; exact l01In_any s 1 12 w0
  rcases Bool.eq_false_or_eq_true tk with ht | ht
  · subst ht
    have h12 : 1 ≤ s ∧ s ≤ 12 := by have := HTK.out; simp at this; exact this
    have hws : IntKind.i64.wrap (s - 1) = s - 1 := by simp [IntKind.wrap, IntKind.bits, IntKind.signed]; omega
    by_cases h3 : n ≤ 40
    · have hd3 : decide ((40 : Int) < (n : Int)) = false := by simp; omega
      go_enter Try.func44, Try.ntmps44
      go_wp2_with (go_at_call 46; refine (HIN.out _).mono ?_; rintro e w1' ⟨rfl, rfl⟩)
      go_loopw [3] (fun i wr => ∃ k : Nat, i = .int .i64 k ∧ k ≤ n ∧ Hid (okGTo s l k = true) ∧ Hid (Below w.heap.size w wr) ∧ Hid (Blk wr w.heap.size 2 (fun i => if i = 0 then .int .i64 s else .slice a n cap))) (fun i _ => n - (intOf i).toNat)
      case atStart => exact ⟨0, rfl, by omega, rfl, below1 _ _, blk_two w _ rfl _ _ _⟩
      case round =>
        obtain ⟨k, rfl, hk, HE, HL, HX⟩ := hrel
        have gg0 : wr.cell? ⟨w.heap.size, 0, none⟩ = some (.int .i64 s) := HX.out.cell (i := 0) (by omega)
        have gg1 : wr.cell? ⟨w.heap.size, 1, none⟩ = some (.slice a n cap) := HX.out.cell (i := 1) (by omega)
        by_cases hlt : k < n
        · have hlt1 : (k : Int) < (n : Int) := by omega
          have hlt0 : 0 ≤ (k : Int) := by omega
          have HBW : Hid (EdgesIn lo hi wr a l) := HA.out.below HL.out HH.out
          obtain ⟨b, o, rfl, _, _, hx⟩ := HBW.out.edge (k := k) (by rw [HN.out]; exact hlt)
          obtain ⟨x, HXX⟩ : ∃ x : Ed, Hid (x = eat l k) := ⟨_, rfl⟩
          rw [← HXX.out] at hx
          have HXK : Hid (w.heap.size < wr.heap.size) := HX.out.lt
          obtain ⟨x0, x1, x2⟩ := x
          obtain ⟨u, HU⟩ : ∃ u : Bool, Hid (u = inV s x0) := ⟨_, rfl⟩
          obtain ⟨v, HV⟩ : ∃ u : Bool, Hid (u = inV s x2) := ⟨_, rfl⟩
          have HOE : Hid (okE s (eat l k) = (u && v && decide (97 ≤ x1) && decide (x1 ≤ 100))) := by show _ = _; rw [← HXX.out, okE_split, HU.out, HV.out]
          obtain ⟨p0, p1, p2⟩ := hx
          dsimp only at p0 p1 p2
          have HC0 : Hid (∀ w0, Calls Try.prog 46 #[.int .i64 x0, .int .i64 0, .int .i64 (s - 1)] w0 fun e w' => e = .returned (.bool u) ∧ w0 = w') := fun w0 => by rw [HU.out, ← inV_in]; exact l01In_any x0 0 (s - 1) w0
          have HC1 : Hid (∀ w0, Calls Try.prog 46 #[.int .i64 x2, .int .i64 0, .int .i64 (s - 1)] w0 fun e w' => e = .returned (.bool v) ∧ w0 = w') := fun w0 => by rw [HV.out, ← inV_in]; exact l01In_any x2 0 (s - 1) w0
          obtain ⟨W, HW⟩ : ∃ W, Hid (W = wr.alloc (.cells #[.int .i64 x0, .int .u8 x1, .int .i64 x2] 99)) := ⟨_, rfl⟩
          have HWB : Hid (Below wr.heap.size wr W) := by rw [HW.out]; exact below1 _ _
          obtain ⟨e0, e1, e2⟩ := box_cells wr (.int .i64 x0) (.int .u8 x1) (.int .i64 x2) 99 _ rfl
          rw [← HW.out] at e0 e1 e2
          have g0 : W.cell? ⟨w.heap.size, 0, none⟩ = some (.int .i64 s) := cell_below gg0 HWB.out HXK.out
          have g1 : W.cell? ⟨w.heap.size, 1, none⟩ = some (.slice (some ⟨b, o, none⟩) n cap) := cell_below gg1 HWB.out HXK.out
          have HLW : Hid (Below w.heap.size w W) := HL.out.trans (HWB.out.mono HL.out.size)
          have HXW : Hid (Blk W w.heap.size 2 (fun i => if i = 0 then .int .i64 s else .slice (some ⟨b, o, none⟩) n cap)) := HX.out.of_block (HWB.out.block _ HXK.out)
          go_wp2_with fail
          rw [← HW.out]
          clear p0 p1 p2 gg0 gg1
          rcases Bool.eq_false_or_eq_true u with hu | hu
          · subst hu
            rcases Bool.eq_false_or_eq_true v with hv | hv
            · subst hv
              by_cases h97 : 97 ≤ x1
              · have hd7 : decide (x1 < 97) = false := by simp; omega
                by_cases h100 : x1 ≤ 100
                · have hd8 : decide ((100 : Int) < x1) = false := by simp; omega
                  have HOT : Hid (okE s (eat l k) = true) := by show _ = _; rw [HOE.out]; simp [h97, h100]
                  by_cases hk0 : k = 0
                  · subst hk0
                    have HKS : Hid (∀ w', Below W.heap.size W w' → ((w'.cell? ⟨w.heap.size, 0, none⟩ = some (.int .i64 s) ∧ w'.cell? ⟨w.heap.size, 1, none⟩ = some (.slice (some ⟨b, o, none⟩) n cap)) ∧ (w'.cell? ⟨wr.heap.size, 0, none⟩ = some (.int .i64 x0) ∧ w'.cell? ⟨wr.heap.size, 1, none⟩ = some (.int .u8 x1) ∧ w'.cell? ⟨wr.heap.size, 2, none⟩ = some (.int .i64 x2)))) := fun w' h => ⟨⟨cell_below g0 h (lt_of_cell g0), cell_below g1 h (lt_of_cell g1)⟩, ⟨cell_below e0 h (lt_of_cell e0), cell_below e1 h (lt_of_cell e1), cell_below e2 h (lt_of_cell e2)⟩⟩
                    refine wp_region_held_drew (S := fun w' => (w'.cell? ⟨w.heap.size, 0, none⟩ = some (.int .i64 s) ∧ w'.cell? ⟨w.heap.size, 1, none⟩ = some (.slice (some ⟨b, o, none⟩) n cap)) ∧ (w'.cell? ⟨wr.heap.size, 0, none⟩ = some (.int .i64 x0) ∧ w'.cell? ⟨wr.heap.size, 1, none⟩ = some (.int .u8 x1) ∧ w'.cell? ⟨wr.heap.size, 2, none⟩ = some (.int .i64 x2))) (by kernel_rfl) (HKS.out _ ((Below.refl _ _).drew)) (fun hHeld => ?_)
                    refine wpAnyH_take (i := 0) (oi := { dst := some 27, op := Go.Op.fieldAddr 99 (Go.Operand.tmp 4) 0, type := 0, pos := "l04_graph.go:21", after := #[], guard := none }) (v := ?_) rfl (by kernel_rfl) (by kernel_rfl) (by kernel_rfl) (fun _ _ _ h => h) (Or.inl ⟨by kernel_rfl, ?_⟩) (by assumption) ?_
                    rotate_left
                    · intro w hSw; (try dsimp only at hSw); go_simp; try with_reducible rfl
                    simp only [Act.put, List.setIfInBounds_toArray, List.set_cons_zero, List.set_cons_succ]
                    refine wpAnyH_take (i := 1) (oi := { dst := some 28, op := Go.Op.load 3 (Go.Operand.tmp 27), type := 3, pos := "l04_graph.go:21", after := #[{ on := 0, ground := Go.Ground.data }], guard := none }) (v := ?_) rfl (by kernel_rfl) (by kernel_rfl) (by kernel_rfl) (fun _ _ _ h => h) (Or.inl ⟨by kernel_rfl, ?_⟩) (by assumption) ?_
                    rotate_left
                    · intro w hSw; (try dsimp only at hSw); go_simp; try with_reducible rfl
                    simp only [Act.put, List.setIfInBounds_toArray, List.set_cons_zero, List.set_cons_succ]
                    refine wpAnyH_take (i := 2) (oi := { dst := some 29, op := Go.Op.fieldAddr 26 (Go.Operand.tmp 1) 0, type := 0, pos := "l04_graph.go:21", after := #[], guard := none }) (v := ?_) rfl (by kernel_rfl) (by kernel_rfl) (by kernel_rfl) (fun _ _ _ h => h) (Or.inl ⟨by kernel_rfl, ?_⟩) (by assumption) ?_
                    rotate_left
                    · intro w hSw; (try dsimp only at hSw); go_simp; try with_reducible rfl
                    simp only [Act.put, List.setIfInBounds_toArray, List.set_cons_zero, List.set_cons_succ]
                    refine wpAnyH_take (i := 3) (oi := { dst := some 30, op := Go.Op.load 3 (Go.Operand.tmp 29), type := 3, pos := "l04_graph.go:21", after := #[{ on := 2, ground := Go.Ground.data }], guard := none }) (v := ?_) rfl (by kernel_rfl) (by kernel_rfl) (by kernel_rfl) (fun _ _ _ h => h) (Or.inl ⟨by kernel_rfl, ?_⟩) (by assumption) ?_
                    rotate_left
                    · intro w hSw; (try dsimp only at hSw); go_simp; try with_reducible rfl
                    simp only [Act.put, List.setIfInBounds_toArray, List.set_cons_zero, List.set_cons_succ]
                    refine wpAnyH_take (i := 4) (oi := { dst := some 31, op := Go.Op.binOp Go.BinOp.sub 3 (Go.Operand.tmp 30) (Go.Operand.const (Go.Value.int Go.IntKind.i64 1)) 3, type := 3, pos := "l04_graph.go:21", after := #[{ on := 3, ground := Go.Ground.data }], guard := none }) (v := ?_) rfl (by kernel_rfl) (by kernel_rfl) (by kernel_rfl) (fun _ _ _ h => h) (Or.inl ⟨by kernel_rfl, ?_⟩) (by assumption) ?_
                    rotate_left
                    · intro w hSw; (try dsimp only at hSw); go_simp; try with_reducible rfl
                    simp only [Act.put, List.setIfInBounds_toArray, List.set_cons_zero, List.set_cons_succ]
                    refine wpAnyH_ready (rs := [5]) (by kernel_rfl) (by simp) ?_
                    refine AllReadyH.cons (o := { dst := some 32, op := Go.Op.call { callee := Go.Callee.value (Go.Operand.func 46), args := #[Go.Operand.tmp 28, Go.Operand.const (Go.Value.int Go.IntKind.i64 0), Go.Operand.tmp 31], argTypes := #[3, 3, 3] }, type := 4, pos := "l04_graph.go:21", after := #[{ on := 1, ground := Go.Ground.data }, { on := 4, ground := Go.Ground.data }], guard := none }) rfl (fun K hK => ?_) ?_
                    · go_simp
                      go_wp2_with (go_at_call 46; refine (HC0.out _).mono ?_; rintro e w1 ⟨rfl, rfl⟩)
                      refine hK.out _ _ hHeld (fun hHeld => ?_)
                      clear hK K
                      try simp only [Act.put, List.setIfInBounds_toArray, List.set_cons_zero, List.set_cons_succ]
                      refine wpAnyH_take (i := 6) (oi := { dst := some 33, op := Go.Op.unOp Go.UnOp.not 4 (Go.Operand.tmp 32), type := 4, pos := "l04_graph.go:21", after := #[{ on := 5, ground := Go.Ground.data }], guard := none }) (v := ?_) rfl (by kernel_rfl) (by kernel_rfl) (by kernel_rfl) (fun _ _ _ h => h) (Or.inl ⟨by kernel_rfl, ?_⟩) (by assumption) ?_
                      rotate_left
                      · intro w hSw; (try dsimp only at hSw); go_simp; try with_reducible rfl
                      simp only [Act.put, List.setIfInBounds_toArray, List.set_cons_zero, List.set_cons_succ]
                      refine wpAnyH_take (i := 7) (oi := { dst := some 34, op := Go.Op.move (Go.Operand.tmp 33), type := 4, pos := "l04_graph.go:21", after := #[{ on := 6, ground := Go.Ground.data }, { on := 5, ground := Go.Ground.chain }], guard := none }) (v := ?_) rfl (by kernel_rfl) (by kernel_rfl) (by kernel_rfl) (fun _ _ _ h => h) (Or.inl ⟨by kernel_rfl, ?_⟩) (by assumption) ?_
                      rotate_left
                      · intro w hSw; (try dsimp only at hSw); go_simp; try with_reducible rfl
                      simp only [Act.put, List.setIfInBounds_toArray, List.set_cons_zero, List.set_cons_succ]
                      refine wpAnyH_take (i := 8) (oi := { dst := some 35, op := Go.Op.fieldAddr 99 (Go.Operand.tmp 4) 2, type := 0, pos := "l04_graph.go:21", after := #[{ on := 7, ground := Go.Ground.guard }], guard := some (7, false) }) (v := ?_) rfl (by kernel_rfl) (by kernel_rfl) (by kernel_rfl) (fun _ _ _ h => h) (Or.inl ⟨by kernel_rfl, ?_⟩) (by assumption) ?_
                      rotate_left
                      · intro w hSw; (try dsimp only at hSw); go_simp; try with_reducible rfl
                      simp only [Act.put, List.setIfInBounds_toArray, List.set_cons_zero, List.set_cons_succ]
                      refine wpAnyH_take (i := 9) (oi := { dst := some 36, op := Go.Op.load 3 (Go.Operand.tmp 35), type := 3, pos := "l04_graph.go:21", after := #[{ on := 8, ground := Go.Ground.data }, { on := 7, ground := Go.Ground.guard }], guard := some (7, false) }) (v := ?_) rfl (by kernel_rfl) (by kernel_rfl) (by kernel_rfl) (fun _ _ _ h => h) (Or.inl ⟨by kernel_rfl, ?_⟩) (by assumption) ?_
                      rotate_left
                      · intro w hSw; (try dsimp only at hSw); go_simp; try with_reducible rfl
                      simp only [Act.put, List.setIfInBounds_toArray, List.set_cons_zero, List.set_cons_succ]
                      refine wpAnyH_take (i := 10) (oi := { dst := some 37, op := Go.Op.fieldAddr 26 (Go.Operand.tmp 1) 0, type := 0, pos := "l04_graph.go:21", after := #[{ on := 7, ground := Go.Ground.guard }], guard := some (7, false) }) (v := ?_) rfl (by kernel_rfl) (by kernel_rfl) (by kernel_rfl) (fun _ _ _ h => h) (Or.inl ⟨by kernel_rfl, ?_⟩) (by assumption) ?_
                      rotate_left
                      · intro w hSw; (try dsimp only at hSw); go_simp; try with_reducible rfl
                      simp only [Act.put, List.setIfInBounds_toArray, List.set_cons_zero, List.set_cons_succ]
                      refine wpAnyH_take (i := 11) (oi := { dst := some 38, op := Go.Op.load 3 (Go.Operand.tmp 37), type := 3, pos := "l04_graph.go:21", after := #[{ on := 10, ground := Go.Ground.data }, { on := 7, ground := Go.Ground.guard }], guard := some (7, false) }) (v := ?_) rfl (by kernel_rfl) (by kernel_rfl) (by kernel_rfl) (fun _ _ _ h => h) (Or.inl ⟨by kernel_rfl, ?_⟩) (by assumption) ?_
                      rotate_left
                      · intro w hSw; (try dsimp only at hSw); go_simp; try with_reducible rfl
                      simp only [Act.put, List.setIfInBounds_toArray, List.set_cons_zero, List.set_cons_succ]
                      refine wpAnyH_take (i := 12) (oi := { dst := some 39, op := Go.Op.binOp Go.BinOp.sub 3 (Go.Operand.tmp 38) (Go.Operand.const (Go.Value.int Go.IntKind.i64 1)) 3, type := 3, pos := "l04_graph.go:21", after := #[{ on := 11, ground := Go.Ground.data }, { on := 7, ground := Go.Ground.guard }], guard := some (7, false) }) (v := ?_) rfl (by kernel_rfl) (by kernel_rfl) (by kernel_rfl) (fun _ _ _ h => h) (Or.inl ⟨by kernel_rfl, ?_⟩) (by assumption) ?_
                      rotate_left
                      · intro w hSw; (try dsimp only at hSw); go_simp; try with_reducible rfl
                      simp only [Act.put, List.setIfInBounds_toArray, List.set_cons_zero, List.set_cons_succ]
                      refine wpAnyH_ready (rs := [13]) (by kernel_rfl) (by simp) ?_
                      refine AllReadyH.cons (o := { dst := some 40, op := Go.Op.call { callee := Go.Callee.value (Go.Operand.func 46), args := #[Go.Operand.tmp 36, Go.Operand.const (Go.Value.int Go.IntKind.i64 0), Go.Operand.tmp 39], argTypes := #[3, 3, 3] }, type := 4, pos := "l04_graph.go:21", after := #[{ on := 9, ground := Go.Ground.data }, { on := 12, ground := Go.Ground.data }, { on := 7, ground := Go.Ground.chain }, { on := 7, ground := Go.Ground.guard }], guard := some (7, false) }) rfl (fun K hK => ?_) ?_
                      · go_simp
                        go_wp2_with (go_at_call 46; refine (HC1.out _).mono ?_; rintro e w1 ⟨rfl, rfl⟩)
                        refine hK.out _ _ hHeld (fun hHeld => ?_)
                        clear hK K
                        try simp only [Act.put, List.setIfInBounds_toArray, List.set_cons_zero, List.set_cons_succ]
                        refine wpAnyH_take (i := 14) (oi := { dst := some 41, op := Go.Op.unOp Go.UnOp.not 4 (Go.Operand.tmp 40), type := 4, pos := "l04_graph.go:21", after := #[{ on := 13, ground := Go.Ground.data }, { on := 7, ground := Go.Ground.guard }], guard := some (7, false) }) (v := ?_) rfl (by kernel_rfl) (by kernel_rfl) (by kernel_rfl) (fun _ _ _ h => h) (Or.inl ⟨by kernel_rfl, ?_⟩) (by assumption) ?_
                        rotate_left
                        · intro w hSw; (try dsimp only at hSw); go_simp; try with_reducible rfl
                        simp only [Act.put, List.setIfInBounds_toArray, List.set_cons_zero, List.set_cons_succ]
                        refine wpAnyH_take (i := 15) (oi := { dst := some 42, op := Go.Op.pick (Go.Operand.tmp 34) (Go.Operand.const (Go.Value.bool true)) (Go.Operand.tmp 41), type := 4, pos := "l04_graph.go:21", after := #[{ on := 7, ground := Go.Ground.data }, { on := 14, ground := Go.Ground.data }], guard := none }) (v := ?_) rfl (by kernel_rfl) (by kernel_rfl) (by kernel_rfl) (fun _ _ _ h => h) (Or.inl ⟨by kernel_rfl, ?_⟩) (by assumption) ?_
                        rotate_left
                        · intro w hSw; (try dsimp only at hSw); go_simp; try with_reducible rfl
                        simp only [Act.put, List.setIfInBounds_toArray, List.set_cons_zero, List.set_cons_succ]
                        refine wpAnyH_take (i := 16) (oi := { dst := some 43, op := Go.Op.move (Go.Operand.tmp 42), type := 4, pos := "l04_graph.go:21", after := #[{ on := 15, ground := Go.Ground.data }, { on := 13, ground := Go.Ground.chain }], guard := none }) (v := ?_) rfl (by kernel_rfl) (by kernel_rfl) (by kernel_rfl) (fun _ _ _ h => h) (Or.inl ⟨by kernel_rfl, ?_⟩) (by assumption) ?_
                        rotate_left
                        · intro w hSw; (try dsimp only at hSw); go_simp; try with_reducible rfl
                        simp only [Act.put, List.setIfInBounds_toArray, List.set_cons_zero, List.set_cons_succ]
                        refine wpAnyH_take (i := 17) (oi := { dst := some 44, op := Go.Op.fieldAddr 99 (Go.Operand.tmp 4) 1, type := 0, pos := "l04_graph.go:21", after := #[{ on := 16, ground := Go.Ground.guard }], guard := some (16, false) }) (v := ?_) rfl (by kernel_rfl) (by kernel_rfl) (by kernel_rfl) (fun _ _ _ h => h) (Or.inl ⟨by kernel_rfl, ?_⟩) (by assumption) ?_
                        rotate_left
                        · intro w hSw; (try dsimp only at hSw); go_simp; try with_reducible rfl
                        simp only [Act.put, List.setIfInBounds_toArray, List.set_cons_zero, List.set_cons_succ]
                        refine wpAnyH_take (i := 18) (oi := { dst := some 45, op := Go.Op.load 5 (Go.Operand.tmp 44), type := 5, pos := "l04_graph.go:21", after := #[{ on := 17, ground := Go.Ground.data }, { on := 16, ground := Go.Ground.guard }], guard := some (16, false) }) (v := ?_) rfl (by kernel_rfl) (by kernel_rfl) (by kernel_rfl) (fun _ _ _ h => h) (Or.inl ⟨by kernel_rfl, ?_⟩) (by assumption) ?_
                        rotate_left
                        · intro w hSw; (try dsimp only at hSw); go_simp; try with_reducible rfl
                        simp only [Act.put, List.setIfInBounds_toArray, List.set_cons_zero, List.set_cons_succ]
                        refine wpAnyH_take (i := 19) (oi := { dst := some 46, op := Go.Op.binOp Go.BinOp.lss 5 (Go.Operand.tmp 45) (Go.Operand.const (Go.Value.int Go.IntKind.u8 97)) 5, type := 4, pos := "l04_graph.go:21", after := #[{ on := 18, ground := Go.Ground.data }, { on := 16, ground := Go.Ground.guard }], guard := some (16, false) }) (v := ?_) rfl (by kernel_rfl) (by kernel_rfl) (by kernel_rfl) (fun _ _ _ h => h) (Or.inl ⟨by kernel_rfl, ?_⟩) (by assumption) ?_
                        rotate_left
                        · intro w hSw; (try dsimp only at hSw); go_simp; try with_reducible rfl
                        simp only [Act.put, List.setIfInBounds_toArray, List.set_cons_zero, List.set_cons_succ]
                        refine wpAnyH_take (i := 20) (oi := { dst := some 47, op := Go.Op.pick (Go.Operand.tmp 43) (Go.Operand.const (Go.Value.bool true)) (Go.Operand.tmp 46), type := 4, pos := "l04_graph.go:21", after := #[{ on := 16, ground := Go.Ground.data }, { on := 19, ground := Go.Ground.data }], guard := none }) (v := ?_) rfl (by kernel_rfl) (by kernel_rfl) (by kernel_rfl) (fun _ _ _ h => h) (Or.inl ⟨by kernel_rfl, ?_⟩) (by assumption) ?_
                        rotate_left
                        · intro w hSw; (try dsimp only at hSw); go_simp; try with_reducible rfl
                        simp only [Act.put, List.setIfInBounds_toArray, List.set_cons_zero, List.set_cons_succ]
                        refine wpAnyH_take (i := 21) (oi := { dst := some 48, op := Go.Op.move (Go.Operand.tmp 47), type := 4, pos := "l04_graph.go:21", after := #[{ on := 20, ground := Go.Ground.data }, { on := 16, ground := Go.Ground.chain }], guard := none }) (v := ?_) rfl (by kernel_rfl) (by kernel_rfl) (by kernel_rfl) (fun _ _ _ h => h) (Or.inl ⟨by kernel_rfl, ?_⟩) (by assumption) ?_
                        rotate_left
                        · intro w hSw; (try dsimp only at hSw); go_simp; try with_reducible rfl
                        simp only [Act.put, List.setIfInBounds_toArray, List.set_cons_zero, List.set_cons_succ]
                        refine wpAnyH_take (i := 22) (oi := { dst := some 49, op := Go.Op.fieldAddr 99 (Go.Operand.tmp 4) 1, type := 0, pos := "l04_graph.go:21", after := #[{ on := 21, ground := Go.Ground.guard }], guard := some (21, false) }) (v := ?_) rfl (by kernel_rfl) (by kernel_rfl) (by kernel_rfl) (fun _ _ _ h => h) (Or.inl ⟨by kernel_rfl, ?_⟩) (by assumption) ?_
                        rotate_left
                        · intro w hSw; (try dsimp only at hSw); go_simp; try with_reducible rfl
                        simp only [Act.put, List.setIfInBounds_toArray, List.set_cons_zero, List.set_cons_succ]
                        refine wpAnyH_take (i := 23) (oi := { dst := some 50, op := Go.Op.load 5 (Go.Operand.tmp 49), type := 5, pos := "l04_graph.go:21", after := #[{ on := 22, ground := Go.Ground.data }, { on := 21, ground := Go.Ground.guard }], guard := some (21, false) }) (v := ?_) rfl (by kernel_rfl) (by kernel_rfl) (by kernel_rfl) (fun _ _ _ h => h) (Or.inl ⟨by kernel_rfl, ?_⟩) (by assumption) ?_
                        rotate_left
                        · intro w hSw; (try dsimp only at hSw); go_simp; try with_reducible rfl
                        simp only [Act.put, List.setIfInBounds_toArray, List.set_cons_zero, List.set_cons_succ]
                        refine wpAnyH_take (i := 24) (oi := { dst := some 51, op := Go.Op.binOp Go.BinOp.gtr 5 (Go.Operand.tmp 50) (Go.Operand.const (Go.Value.int Go.IntKind.u8 100)) 5, type := 4, pos := "l04_graph.go:21", after := #[{ on := 23, ground := Go.Ground.data }, { on := 21, ground := Go.Ground.guard }], guard := some (21, false) }) (v := ?_) rfl (by kernel_rfl) (by kernel_rfl) (by kernel_rfl) (fun _ _ _ h => h) (Or.inl ⟨by kernel_rfl, ?_⟩) (by assumption) ?_
                        rotate_left
                        · intro w hSw; (try dsimp only at hSw); go_simp; try with_reducible rfl
                        simp only [Act.put, List.setIfInBounds_toArray, List.set_cons_zero, List.set_cons_succ]
                        refine wpAnyH_take (i := 25) (oi := { dst := some 52, op := Go.Op.pick (Go.Operand.tmp 48) (Go.Operand.const (Go.Value.bool true)) (Go.Operand.tmp 51), type := 4, pos := "l04_graph.go:21", after := #[{ on := 21, ground := Go.Ground.data }, { on := 24, ground := Go.Ground.data }], guard := none }) (v := ?_) rfl (by kernel_rfl) (by kernel_rfl) (by kernel_rfl) (fun _ _ _ h => h) (Or.inl ⟨by kernel_rfl, ?_⟩) (by assumption) ?_
                        rotate_left
                        · intro w hSw; (try dsimp only at hSw); go_simp; try with_reducible rfl
                        simp only [Act.put, List.setIfInBounds_toArray, List.set_cons_zero, List.set_cons_succ]
                        refine wpAnyH_take (i := 26) (oi := { dst := some 53, op := Go.Op.move (Go.Operand.tmp 52), type := 4, pos := "l04_graph.go:21", after := #[{ on := 25, ground := Go.Ground.data }, { on := 21, ground := Go.Ground.chain }], guard := none }) (v := ?_) rfl (by kernel_rfl) (by kernel_rfl) (by kernel_rfl) (fun _ _ _ h => h) (Or.inl ⟨by kernel_rfl, ?_⟩) (by assumption) ?_
                        rotate_left
                        · intro w hSw; (try dsimp only at hSw); go_simp; try with_reducible rfl
                        simp only [Act.put, List.setIfInBounds_toArray, List.set_cons_zero, List.set_cons_succ]
                        refine wpAnyH_take (i := 27) (oi := { dst := some 54, op := Go.Op.move (Go.Operand.tmp 3), type := 3, pos := "l04_graph.go:21", after := #[{ on := 26, ground := Go.Ground.guard }], guard := some (26, false) }) (v := ?_) rfl (by kernel_rfl) (by kernel_rfl) (by kernel_rfl) (fun _ _ _ h => h) (Or.inl ⟨by kernel_rfl, ?_⟩) (by assumption) ?_
                        rotate_left
                        · intro w hSw; (try dsimp only at hSw); go_simp; try with_reducible rfl
                        simp only [Act.put, List.setIfInBounds_toArray, List.set_cons_zero, List.set_cons_succ]
                        refine wpAnyH_take (i := 28) (oi := { dst := some 55, op := Go.Op.binOp Go.BinOp.gtr 3 (Go.Operand.tmp 54) (Go.Operand.const (Go.Value.int Go.IntKind.i64 0)) 3, type := 4, pos := "l04_graph.go:21", after := #[{ on := 27, ground := Go.Ground.data }, { on := 26, ground := Go.Ground.guard }], guard := some (26, false) }) (v := ?_) rfl (by kernel_rfl) (by kernel_rfl) (by kernel_rfl) (fun _ _ _ h => h) (Or.inl ⟨by kernel_rfl, ?_⟩) (by assumption) ?_
                        rotate_left
                        · intro w hSw; (try dsimp only at hSw); go_simp; try with_reducible rfl
                        simp only [Act.put, List.setIfInBounds_toArray, List.set_cons_zero, List.set_cons_succ]
                        refine wpAnyH_take (i := 29) (oi := { dst := some 56, op := Go.Op.move (Go.Operand.tmp 55), type := 4, pos := "l04_graph.go:21", after := #[{ on := 28, ground := Go.Ground.data }, { on := 26, ground := Go.Ground.chain }, { on := 26, ground := Go.Ground.guard }], guard := some (26, false) }) (v := ?_) rfl (by kernel_rfl) (by kernel_rfl) (by kernel_rfl) (fun _ _ _ h => h) (Or.inl ⟨by kernel_rfl, ?_⟩) (by assumption) ?_
                        rotate_left
                        · intro w hSw; (try dsimp only at hSw); go_simp; try with_reducible rfl
                        simp only [Act.put, List.setIfInBounds_toArray, List.set_cons_zero, List.set_cons_succ]
                        refine wpAnyH_take (i := 30) (oi := { dst := some 57, op := Go.Op.fieldAddr 26 (Go.Operand.tmp 1) 1, type := 0, pos := "l04_graph.go:21", after := #[{ on := 29, ground := Go.Ground.guard }], guard := some (29, true) }) (v := undef) rfl (by kernel_rfl) (by kernel_rfl) (by kernel_rfl) (fun _ _ _ h => h) (Or.inr ⟨by kernel_rfl, rfl⟩) (by assumption) ?_
                        simp only [Act.put, List.setIfInBounds_toArray, List.set_cons_zero, List.set_cons_succ]
                        refine wpAnyH_take (i := 31) (oi := { dst := some 58, op := Go.Op.load 24 (Go.Operand.tmp 57), type := 24, pos := "l04_graph.go:21", after := #[{ on := 30, ground := Go.Ground.data }, { on := 29, ground := Go.Ground.guard }], guard := some (29, true) }) (v := undef) rfl (by kernel_rfl) (by kernel_rfl) (by kernel_rfl) (fun _ _ _ h => h) (Or.inr ⟨by kernel_rfl, rfl⟩) (by assumption) ?_
                        simp only [Act.put, List.setIfInBounds_toArray, List.set_cons_zero, List.set_cons_succ]
                        refine wpAnyH_take (i := 32) (oi := { dst := some 59, op := Go.Op.move (Go.Operand.tmp 3), type := 3, pos := "l04_graph.go:21", after := #[{ on := 29, ground := Go.Ground.guard }], guard := some (29, true) }) (v := undef) rfl (by kernel_rfl) (by kernel_rfl) (by kernel_rfl) (fun _ _ _ h => h) (Or.inr ⟨by kernel_rfl, rfl⟩) (by assumption) ?_
                        simp only [Act.put, List.setIfInBounds_toArray, List.set_cons_zero, List.set_cons_succ]
                        refine wpAnyH_take (i := 33) (oi := { dst := some 60, op := Go.Op.binOp Go.BinOp.sub 3 (Go.Operand.tmp 59) (Go.Operand.const (Go.Value.int Go.IntKind.i64 1)) 3, type := 3, pos := "l04_graph.go:21", after := #[{ on := 32, ground := Go.Ground.data }, { on := 29, ground := Go.Ground.guard }], guard := some (29, true) }) (v := undef) rfl (by kernel_rfl) (by kernel_rfl) (by kernel_rfl) (fun _ _ _ h => h) (Or.inr ⟨by kernel_rfl, rfl⟩) (by assumption) ?_
                        simp only [Act.put, List.setIfInBounds_toArray, List.set_cons_zero, List.set_cons_succ]
                        refine wpAnyH_take (i := 34) (oi := { dst := some 61, op := Go.Op.indexAddr 24 (Go.Operand.tmp 58) (Go.Operand.tmp 60), type := 0, pos := "l04_graph.go:21", after := #[{ on := 31, ground := Go.Ground.data }, { on := 33, ground := Go.Ground.data }, { on := 29, ground := Go.Ground.guard }], guard := some (29, true) }) (v := undef) rfl (by kernel_rfl) (by kernel_rfl) (by kernel_rfl) (fun _ _ _ h => h) (Or.inr ⟨by kernel_rfl, rfl⟩) (by assumption) ?_
                        simp only [Act.put, List.setIfInBounds_toArray, List.set_cons_zero, List.set_cons_succ]
                        refine wpAnyH_take (i := 35) (oi := { dst := some 62, op := Go.Op.load 99 (Go.Operand.tmp 61), type := 99, pos := "l04_graph.go:21", after := #[{ on := 34, ground := Go.Ground.data }, { on := 29, ground := Go.Ground.guard }], guard := some (29, true) }) (v := undef) rfl (by kernel_rfl) (by kernel_rfl) (by kernel_rfl) (fun _ _ _ h => h) (Or.inr ⟨by kernel_rfl, rfl⟩) (by assumption) ?_
                        simp only [Act.put, List.setIfInBounds_toArray, List.set_cons_zero, List.set_cons_succ]
                        refine wpAnyH_take (i := 36) (oi := { dst := some 63, op := Go.Op.load 99 (Go.Operand.tmp 4), type := 99, pos := "l04_graph.go:21", after := #[{ on := 29, ground := Go.Ground.guard }], guard := some (29, true) }) (v := undef) rfl (by kernel_rfl) (by kernel_rfl) (by kernel_rfl) (fun _ _ _ h => h) (Or.inr ⟨by kernel_rfl, rfl⟩) (by assumption) ?_
                        simp only [Act.put, List.setIfInBounds_toArray, List.set_cons_zero, List.set_cons_succ]
                        refine wpAnyH_ready (rs := [37]) (by kernel_rfl) (by simp) ?_
                        refine AllReadyH.cons (o := { dst := some 64, op := Go.Op.call { callee := Go.Callee.value (Go.Operand.func 66), args := #[Go.Operand.tmp 62, Go.Operand.tmp 63], argTypes := #[99, 99] }, type := 4, pos := "l04_graph.go:21", after := #[{ on := 35, ground := Go.Ground.data }, { on := 36, ground := Go.Ground.data }, { on := 29, ground := Go.Ground.chain }, { on := 29, ground := Go.Ground.guard }], guard := some (29, true) }) rfl (fun K hK => ?_) ?_
                        · rw [if_neg (by refine Bool.eq_false_iff.1 ?_; kernel_rfl)]
                          refine hK.out _ _ hHeld (fun hHeld => ?_)
                          clear hK K
                          try simp only [Act.put, List.setIfInBounds_toArray, List.set_cons_zero, List.set_cons_succ]
                          refine wpAnyH_take (i := 38) (oi := { dst := some 65, op := Go.Op.unOp Go.UnOp.not 4 (Go.Operand.tmp 64), type := 4, pos := "l04_graph.go:21", after := #[{ on := 37, ground := Go.Ground.data }, { on := 29, ground := Go.Ground.guard }], guard := some (29, true) }) (v := undef) rfl (by kernel_rfl) (by kernel_rfl) (by kernel_rfl) (fun _ _ _ h => h) (Or.inr ⟨by kernel_rfl, rfl⟩) (by assumption) ?_
                          simp only [Act.put, List.setIfInBounds_toArray, List.set_cons_zero, List.set_cons_succ]
                          refine wpAnyH_take (i := 39) (oi := { dst := some 66, op := Go.Op.pick (Go.Operand.tmp 56) (Go.Operand.tmp 65) (Go.Operand.const (Go.Value.bool false)), type := 4, pos := "l04_graph.go:21", after := #[{ on := 29, ground := Go.Ground.data }, { on := 38, ground := Go.Ground.data }, { on := 26, ground := Go.Ground.guard }], guard := some (26, false) }) (v := ?_) rfl (by kernel_rfl) (by kernel_rfl) (by kernel_rfl) (fun _ _ _ h => h) (Or.inl ⟨by kernel_rfl, ?_⟩) (by assumption) ?_
                          rotate_left
                          · intro w hSw; (try dsimp only at hSw); go_simp; try with_reducible rfl
                          simp only [Act.put, List.setIfInBounds_toArray, List.set_cons_zero, List.set_cons_succ]
                          refine wpAnyH_take (i := 40) (oi := { dst := some 67, op := Go.Op.pick (Go.Operand.tmp 53) (Go.Operand.const (Go.Value.bool true)) (Go.Operand.tmp 66), type := 4, pos := "l04_graph.go:21", after := #[{ on := 26, ground := Go.Ground.data }, { on := 39, ground := Go.Ground.data }], guard := none }) (v := ?_) rfl (by kernel_rfl) (by kernel_rfl) (by kernel_rfl) (fun _ _ _ h => h) (Or.inl ⟨by kernel_rfl, ?_⟩) (by assumption) ?_
                          rotate_left
                          · intro w hSw; (try dsimp only at hSw); go_simp; try with_reducible rfl
                          simp only [Act.put, List.setIfInBounds_toArray, List.set_cons_zero, List.set_cons_succ]
                          refine wpAnyH_done (by kernel_rfl) ?_ _
                          clear hHeld
                          go_wp2
                          go_roundw
                          case rel => exact ⟨1, by go_num, by omega, by show _ = _; simp only [okGTo]; rw [okGAt_zero HOT.out]; rfl, HLW.out.drew, HXW⟩
                          case measure => simp [intOf]; omega
                        exact AllReadyH.nil
                      exact AllReadyH.nil
                    exact AllReadyH.nil
                  · obtain ⟨m, rfl⟩ : ∃ m, k = m + 1 := ⟨k - 1, by omega⟩
                    obtain ⟨b2, o2, eq2, _, _, hy⟩ := HBW.out.edge (k := m) (by rw [HN.out]; omega)
                    simp only [Option.some.injEq, Addr.mk.injEq, and_true] at eq2
                    obtain ⟨rfl, rfl⟩ := eq2
                    obtain ⟨y, HYY⟩ : ∃ x : Ed, Hid (x = eat l m) := ⟨_, rfl⟩
                    rw [← HYY.out] at hy
                    obtain ⟨v, HV⟩ : ∃ v : Bool, Hid (v = ltE y (x0, x1, x2)) := ⟨_, rfl⟩
                    have HOK : Hid (okGAt s l (m + 1) = v) := by show _ = _; rw [okGAt_pos HOT.out (by omega), Nat.add_sub_cancel, ← HXX.out, ← HYY.out, HV.out]
                    have hyW : EdgeAt W b (o + m * 3) y := hy.below HWB.out (lt_of_cell hy.1)
                    obtain ⟨y0, y1, y2⟩ := y
                    obtain ⟨y0', y1', y2'⟩ := hyW
                    dsimp only at y0' y1' y2'
                    have HC2 : Hid (∀ w0, Calls Try.prog 66 #[ev (y0, y1, y2), ev (x0, x1, x2)] w0 fun e w' => e = .returned (.bool v) ∧ Hid (Below w0.heap.size w0 w')) := fun w0 => specLess_edge _ _ v w0 HV.out
                    have hlt2 : (m : Int) < (n : Int) := by omega
                    have hm1 : (0 : Int) < (m : Int) + 1 := by omega
                    have hm2 : IntKind.i64.wrap ((m : Int) + 1 - 1) = (m : Int) := by simp [IntKind.wrap, IntKind.bits, IntKind.signed]; omega
                    have hm3 : IntKind.i64.wrap (m : Int) = (m : Int) := by simp [IntKind.wrap, IntKind.bits, IntKind.signed]; omega
                    have hm4 : (0 : Int) ≤ (m : Int) := by omega
                    clear hk0 hy
                    have HKS : Hid (∀ w', Below W.heap.size W w' → ((w'.cell? ⟨w.heap.size, 0, none⟩ = some (.int .i64 s) ∧ w'.cell? ⟨w.heap.size, 1, none⟩ = some (.slice (some ⟨b, o, none⟩) n cap)) ∧ (w'.cell? ⟨wr.heap.size, 0, none⟩ = some (.int .i64 x0) ∧ w'.cell? ⟨wr.heap.size, 1, none⟩ = some (.int .u8 x1) ∧ w'.cell? ⟨wr.heap.size, 2, none⟩ = some (.int .i64 x2)) ∧ (w'.cell? ⟨b, o + m * 3, none⟩ = some (.int .i64 y0) ∧ w'.cell? ⟨b, o + m * 3 + 1, none⟩ = some (.int .u8 y1) ∧ w'.cell? ⟨b, o + m * 3 + 2, none⟩ = some (.int .i64 y2)))) := fun w' h => ⟨⟨cell_below g0 h (lt_of_cell g0), cell_below g1 h (lt_of_cell g1)⟩, ⟨cell_below e0 h (lt_of_cell e0), cell_below e1 h (lt_of_cell e1), cell_below e2 h (lt_of_cell e2)⟩, ⟨cell_below y0' h (lt_of_cell y0'), cell_below y1' h (lt_of_cell y1'), cell_below y2' h (lt_of_cell y2')⟩⟩
                    refine wp_region_held_drew (S := fun w' => (w'.cell? ⟨w.heap.size, 0, none⟩ = some (.int .i64 s) ∧ w'.cell? ⟨w.heap.size, 1, none⟩ = some (.slice (some ⟨b, o, none⟩) n cap)) ∧ (w'.cell? ⟨wr.heap.size, 0, none⟩ = some (.int .i64 x0) ∧ w'.cell? ⟨wr.heap.size, 1, none⟩ = some (.int .u8 x1) ∧ w'.cell? ⟨wr.heap.size, 2, none⟩ = some (.int .i64 x2)) ∧ (w'.cell? ⟨b, o + m * 3, none⟩ = some (.int .i64 y0) ∧ w'.cell? ⟨b, o + m * 3 + 1, none⟩ = some (.int .u8 y1) ∧ w'.cell? ⟨b, o + m * 3 + 2, none⟩ = some (.int .i64 y2))) (by kernel_rfl) (HKS.out _ ((Below.refl _ _).drew)) (fun hHeld => ?_)
                    refine wpAnyH_take (i := 0) (oi := { dst := some 27, op := Go.Op.fieldAddr 99 (Go.Operand.tmp 4) 0, type := 0, pos := "l04_graph.go:21", after := #[], guard := none }) (v := ?_) rfl (by kernel_rfl) (by kernel_rfl) (by kernel_rfl) (fun _ _ _ h => h) (Or.inl ⟨by kernel_rfl, ?_⟩) (by assumption) ?_
                    rotate_left
                    · intro w hSw; (try dsimp only at hSw); go_simp; try with_reducible rfl
                    simp only [Act.put, List.setIfInBounds_toArray, List.set_cons_zero, List.set_cons_succ]
                    refine wpAnyH_take (i := 1) (oi := { dst := some 28, op := Go.Op.load 3 (Go.Operand.tmp 27), type := 3, pos := "l04_graph.go:21", after := #[{ on := 0, ground := Go.Ground.data }], guard := none }) (v := ?_) rfl (by kernel_rfl) (by kernel_rfl) (by kernel_rfl) (fun _ _ _ h => h) (Or.inl ⟨by kernel_rfl, ?_⟩) (by assumption) ?_
                    rotate_left
                    · intro w hSw; (try dsimp only at hSw); go_simp; try with_reducible rfl
                    simp only [Act.put, List.setIfInBounds_toArray, List.set_cons_zero, List.set_cons_succ]
                    refine wpAnyH_take (i := 2) (oi := { dst := some 29, op := Go.Op.fieldAddr 26 (Go.Operand.tmp 1) 0, type := 0, pos := "l04_graph.go:21", after := #[], guard := none }) (v := ?_) rfl (by kernel_rfl) (by kernel_rfl) (by kernel_rfl) (fun _ _ _ h => h) (Or.inl ⟨by kernel_rfl, ?_⟩) (by assumption) ?_
                    rotate_left
                    · intro w hSw; (try dsimp only at hSw); go_simp; try with_reducible rfl
                    simp only [Act.put, List.setIfInBounds_toArray, List.set_cons_zero, List.set_cons_succ]
                    refine wpAnyH_take (i := 3) (oi := { dst := some 30, op := Go.Op.load 3 (Go.Operand.tmp 29), type := 3, pos := "l04_graph.go:21", after := #[{ on := 2, ground := Go.Ground.data }], guard := none }) (v := ?_) rfl (by kernel_rfl) (by kernel_rfl) (by kernel_rfl) (fun _ _ _ h => h) (Or.inl ⟨by kernel_rfl, ?_⟩) (by assumption) ?_
                    rotate_left
                    · intro w hSw; (try dsimp only at hSw); go_simp; try with_reducible rfl
                    simp only [Act.put, List.setIfInBounds_toArray, List.set_cons_zero, List.set_cons_succ]
                    refine wpAnyH_take (i := 4) (oi := { dst := some 31, op := Go.Op.binOp Go.BinOp.sub 3 (Go.Operand.tmp 30) (Go.Operand.const (Go.Value.int Go.IntKind.i64 1)) 3, type := 3, pos := "l04_graph.go:21", after := #[{ on := 3, ground := Go.Ground.data }], guard := none }) (v := ?_) rfl (by kernel_rfl) (by kernel_rfl) (by kernel_rfl) (fun _ _ _ h => h) (Or.inl ⟨by kernel_rfl, ?_⟩) (by assumption) ?_
                    rotate_left
                    · intro w hSw; (try dsimp only at hSw); go_simp; try with_reducible rfl
                    simp only [Act.put, List.setIfInBounds_toArray, List.set_cons_zero, List.set_cons_succ]
                    refine wpAnyH_ready (rs := [5]) (by kernel_rfl) (by simp) ?_
                    refine AllReadyH.cons (o := { dst := some 32, op := Go.Op.call { callee := Go.Callee.value (Go.Operand.func 46), args := #[Go.Operand.tmp 28, Go.Operand.const (Go.Value.int Go.IntKind.i64 0), Go.Operand.tmp 31], argTypes := #[3, 3, 3] }, type := 4, pos := "l04_graph.go:21", after := #[{ on := 1, ground := Go.Ground.data }, { on := 4, ground := Go.Ground.data }], guard := none }) rfl (fun K hK => ?_) ?_
                    · go_simp
                      go_wp2_with (go_at_call 46; refine (HC0.out _).mono ?_; rintro e w1 ⟨rfl, rfl⟩)
                      refine hK.out _ _ hHeld (fun hHeld => ?_)
                      clear hK K
                      try simp only [Act.put, List.setIfInBounds_toArray, List.set_cons_zero, List.set_cons_succ]
                      refine wpAnyH_take (i := 6) (oi := { dst := some 33, op := Go.Op.unOp Go.UnOp.not 4 (Go.Operand.tmp 32), type := 4, pos := "l04_graph.go:21", after := #[{ on := 5, ground := Go.Ground.data }], guard := none }) (v := ?_) rfl (by kernel_rfl) (by kernel_rfl) (by kernel_rfl) (fun _ _ _ h => h) (Or.inl ⟨by kernel_rfl, ?_⟩) (by assumption) ?_
                      rotate_left
                      · intro w hSw; (try dsimp only at hSw); go_simp; try with_reducible rfl
                      simp only [Act.put, List.setIfInBounds_toArray, List.set_cons_zero, List.set_cons_succ]
                      refine wpAnyH_take (i := 7) (oi := { dst := some 34, op := Go.Op.move (Go.Operand.tmp 33), type := 4, pos := "l04_graph.go:21", after := #[{ on := 6, ground := Go.Ground.data }, { on := 5, ground := Go.Ground.chain }], guard := none }) (v := ?_) rfl (by kernel_rfl) (by kernel_rfl) (by kernel_rfl) (fun _ _ _ h => h) (Or.inl ⟨by kernel_rfl, ?_⟩) (by assumption) ?_
                      rotate_left
                      · intro w hSw; (try dsimp only at hSw); go_simp; try with_reducible rfl
                      simp only [Act.put, List.setIfInBounds_toArray, List.set_cons_zero, List.set_cons_succ]
                      refine wpAnyH_take (i := 8) (oi := { dst := some 35, op := Go.Op.fieldAddr 99 (Go.Operand.tmp 4) 2, type := 0, pos := "l04_graph.go:21", after := #[{ on := 7, ground := Go.Ground.guard }], guard := some (7, false) }) (v := ?_) rfl (by kernel_rfl) (by kernel_rfl) (by kernel_rfl) (fun _ _ _ h => h) (Or.inl ⟨by kernel_rfl, ?_⟩) (by assumption) ?_
                      rotate_left
                      · intro w hSw; (try dsimp only at hSw); go_simp; try with_reducible rfl
                      simp only [Act.put, List.setIfInBounds_toArray, List.set_cons_zero, List.set_cons_succ]
                      refine wpAnyH_take (i := 9) (oi := { dst := some 36, op := Go.Op.load 3 (Go.Operand.tmp 35), type := 3, pos := "l04_graph.go:21", after := #[{ on := 8, ground := Go.Ground.data }, { on := 7, ground := Go.Ground.guard }], guard := some (7, false) }) (v := ?_) rfl (by kernel_rfl) (by kernel_rfl) (by kernel_rfl) (fun _ _ _ h => h) (Or.inl ⟨by kernel_rfl, ?_⟩) (by assumption) ?_
                      rotate_left
                      · intro w hSw; (try dsimp only at hSw); go_simp; try with_reducible rfl
                      simp only [Act.put, List.setIfInBounds_toArray, List.set_cons_zero, List.set_cons_succ]
                      refine wpAnyH_take (i := 10) (oi := { dst := some 37, op := Go.Op.fieldAddr 26 (Go.Operand.tmp 1) 0, type := 0, pos := "l04_graph.go:21", after := #[{ on := 7, ground := Go.Ground.guard }], guard := some (7, false) }) (v := ?_) rfl (by kernel_rfl) (by kernel_rfl) (by kernel_rfl) (fun _ _ _ h => h) (Or.inl ⟨by kernel_rfl, ?_⟩) (by assumption) ?_
                      rotate_left
                      · intro w hSw; (try dsimp only at hSw); go_simp; try with_reducible rfl
                      simp only [Act.put, List.setIfInBounds_toArray, List.set_cons_zero, List.set_cons_succ]
                      refine wpAnyH_take (i := 11) (oi := { dst := some 38, op := Go.Op.load 3 (Go.Operand.tmp 37), type := 3, pos := "l04_graph.go:21", after := #[{ on := 10, ground := Go.Ground.data }, { on := 7, ground := Go.Ground.guard }], guard := some (7, false) }) (v := ?_) rfl (by kernel_rfl) (by kernel_rfl) (by kernel_rfl) (fun _ _ _ h => h) (Or.inl ⟨by kernel_rfl, ?_⟩) (by assumption) ?_
                      rotate_left
                      · intro w hSw; (try dsimp only at hSw); go_simp; try with_reducible rfl
                      simp only [Act.put, List.setIfInBounds_toArray, List.set_cons_zero, List.set_cons_succ]
                      refine wpAnyH_take (i := 12) (oi := { dst := some 39, op := Go.Op.binOp Go.BinOp.sub 3 (Go.Operand.tmp 38) (Go.Operand.const (Go.Value.int Go.IntKind.i64 1)) 3, type := 3, pos := "l04_graph.go:21", after := #[{ on := 11, ground := Go.Ground.data }, { on := 7, ground := Go.Ground.guard }], guard := some (7, false) }) (v := ?_) rfl (by kernel_rfl) (by kernel_rfl) (by kernel_rfl) (fun _ _ _ h => h) (Or.inl ⟨by kernel_rfl, ?_⟩) (by assumption) ?_
                      rotate_left
                      · intro w hSw; (try dsimp only at hSw); go_simp; try with_reducible rfl
                      simp only [Act.put, List.setIfInBounds_toArray, List.set_cons_zero, List.set_cons_succ]
                      refine wpAnyH_ready (rs := [13]) (by kernel_rfl) (by simp) ?_
                      refine AllReadyH.cons (o := { dst := some 40, op := Go.Op.call { callee := Go.Callee.value (Go.Operand.func 46), args := #[Go.Operand.tmp 36, Go.Operand.const (Go.Value.int Go.IntKind.i64 0), Go.Operand.tmp 39], argTypes := #[3, 3, 3] }, type := 4, pos := "l04_graph.go:21", after := #[{ on := 9, ground := Go.Ground.data }, { on := 12, ground := Go.Ground.data }, { on := 7, ground := Go.Ground.chain }, { on := 7, ground := Go.Ground.guard }], guard := some (7, false) }) rfl (fun K hK => ?_) ?_
                      · go_simp
                        go_wp2_with (go_at_call 46; refine (HC1.out _).mono ?_; rintro e w1 ⟨rfl, rfl⟩)
                        refine hK.out _ _ hHeld (fun hHeld => ?_)
                        clear hK K
                        try simp only [Act.put, List.setIfInBounds_toArray, List.set_cons_zero, List.set_cons_succ]
                        refine wpAnyH_take (i := 14) (oi := { dst := some 41, op := Go.Op.unOp Go.UnOp.not 4 (Go.Operand.tmp 40), type := 4, pos := "l04_graph.go:21", after := #[{ on := 13, ground := Go.Ground.data }, { on := 7, ground := Go.Ground.guard }], guard := some (7, false) }) (v := ?_) rfl (by kernel_rfl) (by kernel_rfl) (by kernel_rfl) (fun _ _ _ h => h) (Or.inl ⟨by kernel_rfl, ?_⟩) (by assumption) ?_
                        rotate_left
                        · intro w hSw; (try dsimp only at hSw); go_simp; try with_reducible rfl
                        simp only [Act.put, List.setIfInBounds_toArray, List.set_cons_zero, List.set_cons_succ]
                        refine wpAnyH_take (i := 15) (oi := { dst := some 42, op := Go.Op.pick (Go.Operand.tmp 34) (Go.Operand.const (Go.Value.bool true)) (Go.Operand.tmp 41), type := 4, pos := "l04_graph.go:21", after := #[{ on := 7, ground := Go.Ground.data }, { on := 14, ground := Go.Ground.data }], guard := none }) (v := ?_) rfl (by kernel_rfl) (by kernel_rfl) (by kernel_rfl) (fun _ _ _ h => h) (Or.inl ⟨by kernel_rfl, ?_⟩) (by assumption) ?_
                        rotate_left
                        · intro w hSw; (try dsimp only at hSw); go_simp; try with_reducible rfl
                        simp only [Act.put, List.setIfInBounds_toArray, List.set_cons_zero, List.set_cons_succ]
                        refine wpAnyH_take (i := 16) (oi := { dst := some 43, op := Go.Op.move (Go.Operand.tmp 42), type := 4, pos := "l04_graph.go:21", after := #[{ on := 15, ground := Go.Ground.data }, { on := 13, ground := Go.Ground.chain }], guard := none }) (v := ?_) rfl (by kernel_rfl) (by kernel_rfl) (by kernel_rfl) (fun _ _ _ h => h) (Or.inl ⟨by kernel_rfl, ?_⟩) (by assumption) ?_
                        rotate_left
                        · intro w hSw; (try dsimp only at hSw); go_simp; try with_reducible rfl
                        simp only [Act.put, List.setIfInBounds_toArray, List.set_cons_zero, List.set_cons_succ]
                        refine wpAnyH_take (i := 17) (oi := { dst := some 44, op := Go.Op.fieldAddr 99 (Go.Operand.tmp 4) 1, type := 0, pos := "l04_graph.go:21", after := #[{ on := 16, ground := Go.Ground.guard }], guard := some (16, false) }) (v := ?_) rfl (by kernel_rfl) (by kernel_rfl) (by kernel_rfl) (fun _ _ _ h => h) (Or.inl ⟨by kernel_rfl, ?_⟩) (by assumption) ?_
                        rotate_left
                        · intro w hSw; (try dsimp only at hSw); go_simp; try with_reducible rfl
                        simp only [Act.put, List.setIfInBounds_toArray, List.set_cons_zero, List.set_cons_succ]
                        refine wpAnyH_take (i := 18) (oi := { dst := some 45, op := Go.Op.load 5 (Go.Operand.tmp 44), type := 5, pos := "l04_graph.go:21", after := #[{ on := 17, ground := Go.Ground.data }, { on := 16, ground := Go.Ground.guard }], guard := some (16, false) }) (v := ?_) rfl (by kernel_rfl) (by kernel_rfl) (by kernel_rfl) (fun _ _ _ h => h) (Or.inl ⟨by kernel_rfl, ?_⟩) (by assumption) ?_
                        rotate_left
                        · intro w hSw; (try dsimp only at hSw); go_simp; try with_reducible rfl
                        simp only [Act.put, List.setIfInBounds_toArray, List.set_cons_zero, List.set_cons_succ]
                        refine wpAnyH_take (i := 19) (oi := { dst := some 46, op := Go.Op.binOp Go.BinOp.lss 5 (Go.Operand.tmp 45) (Go.Operand.const (Go.Value.int Go.IntKind.u8 97)) 5, type := 4, pos := "l04_graph.go:21", after := #[{ on := 18, ground := Go.Ground.data }, { on := 16, ground := Go.Ground.guard }], guard := some (16, false) }) (v := ?_) rfl (by kernel_rfl) (by kernel_rfl) (by kernel_rfl) (fun _ _ _ h => h) (Or.inl ⟨by kernel_rfl, ?_⟩) (by assumption) ?_
                        rotate_left
                        · intro w hSw; (try dsimp only at hSw); go_simp; try with_reducible rfl
                        simp only [Act.put, List.setIfInBounds_toArray, List.set_cons_zero, List.set_cons_succ]
                        refine wpAnyH_take (i := 20) (oi := { dst := some 47, op := Go.Op.pick (Go.Operand.tmp 43) (Go.Operand.const (Go.Value.bool true)) (Go.Operand.tmp 46), type := 4, pos := "l04_graph.go:21", after := #[{ on := 16, ground := Go.Ground.data }, { on := 19, ground := Go.Ground.data }], guard := none }) (v := ?_) rfl (by kernel_rfl) (by kernel_rfl) (by kernel_rfl) (fun _ _ _ h => h) (Or.inl ⟨by kernel_rfl, ?_⟩) (by assumption) ?_
                        rotate_left
                        · intro w hSw; (try dsimp only at hSw); go_simp; try with_reducible rfl
                        simp only [Act.put, List.setIfInBounds_toArray, List.set_cons_zero, List.set_cons_succ]
                        refine wpAnyH_take (i := 21) (oi := { dst := some 48, op := Go.Op.move (Go.Operand.tmp 47), type := 4, pos := "l04_graph.go:21", after := #[{ on := 20, ground := Go.Ground.data }, { on := 16, ground := Go.Ground.chain }], guard := none }) (v := ?_) rfl (by kernel_rfl) (by kernel_rfl) (by kernel_rfl) (fun _ _ _ h => h) (Or.inl ⟨by kernel_rfl, ?_⟩) (by assumption) ?_
                        rotate_left
                        · intro w hSw; (try dsimp only at hSw); go_simp; try with_reducible rfl
                        simp only [Act.put, List.setIfInBounds_toArray, List.set_cons_zero, List.set_cons_succ]
                        refine wpAnyH_take (i := 22) (oi := { dst := some 49, op := Go.Op.fieldAddr 99 (Go.Operand.tmp 4) 1, type := 0, pos := "l04_graph.go:21", after := #[{ on := 21, ground := Go.Ground.guard }], guard := some (21, false) }) (v := ?_) rfl (by kernel_rfl) (by kernel_rfl) (by kernel_rfl) (fun _ _ _ h => h) (Or.inl ⟨by kernel_rfl, ?_⟩) (by assumption) ?_
                        rotate_left
                        · intro w hSw; (try dsimp only at hSw); go_simp; try with_reducible rfl
                        simp only [Act.put, List.setIfInBounds_toArray, List.set_cons_zero, List.set_cons_succ]
                        refine wpAnyH_take (i := 23) (oi := { dst := some 50, op := Go.Op.load 5 (Go.Operand.tmp 49), type := 5, pos := "l04_graph.go:21", after := #[{ on := 22, ground := Go.Ground.data }, { on := 21, ground := Go.Ground.guard }], guard := some (21, false) }) (v := ?_) rfl (by kernel_rfl) (by kernel_rfl) (by kernel_rfl) (fun _ _ _ h => h) (Or.inl ⟨by kernel_rfl, ?_⟩) (by assumption) ?_
                        rotate_left
                        · intro w hSw; (try dsimp only at hSw); go_simp; try with_reducible rfl
                        simp only [Act.put, List.setIfInBounds_toArray, List.set_cons_zero, List.set_cons_succ]
                        refine wpAnyH_take (i := 24) (oi := { dst := some 51, op := Go.Op.binOp Go.BinOp.gtr 5 (Go.Operand.tmp 50) (Go.Operand.const (Go.Value.int Go.IntKind.u8 100)) 5, type := 4, pos := "l04_graph.go:21", after := #[{ on := 23, ground := Go.Ground.data }, { on := 21, ground := Go.Ground.guard }], guard := some (21, false) }) (v := ?_) rfl (by kernel_rfl) (by kernel_rfl) (by kernel_rfl) (fun _ _ _ h => h) (Or.inl ⟨by kernel_rfl, ?_⟩) (by assumption) ?_
                        rotate_left
                        · intro w hSw; (try dsimp only at hSw); go_simp; try with_reducible rfl
                        simp only [Act.put, List.setIfInBounds_toArray, List.set_cons_zero, List.set_cons_succ]
                        refine wpAnyH_take (i := 25) (oi := { dst := some 52, op := Go.Op.pick (Go.Operand.tmp 48) (Go.Operand.const (Go.Value.bool true)) (Go.Operand.tmp 51), type := 4, pos := "l04_graph.go:21", after := #[{ on := 21, ground := Go.Ground.data }, { on := 24, ground := Go.Ground.data }], guard := none }) (v := ?_) rfl (by kernel_rfl) (by kernel_rfl) (by kernel_rfl) (fun _ _ _ h => h) (Or.inl ⟨by kernel_rfl, ?_⟩) (by assumption) ?_
                        rotate_left
                        · intro w hSw; (try dsimp only at hSw); go_simp; try with_reducible rfl
                        simp only [Act.put, List.setIfInBounds_toArray, List.set_cons_zero, List.set_cons_succ]
                        refine wpAnyH_take (i := 26) (oi := { dst := some 53, op := Go.Op.move (Go.Operand.tmp 52), type := 4, pos := "l04_graph.go:21", after := #[{ on := 25, ground := Go.Ground.data }, { on := 21, ground := Go.Ground.chain }], guard := none }) (v := ?_) rfl (by kernel_rfl) (by kernel_rfl) (by kernel_rfl) (fun _ _ _ h => h) (Or.inl ⟨by kernel_rfl, ?_⟩) (by assumption) ?_
                        rotate_left
                        · intro w hSw; (try dsimp only at hSw); go_simp; try with_reducible rfl
                        simp only [Act.put, List.setIfInBounds_toArray, List.set_cons_zero, List.set_cons_succ]
                        refine wpAnyH_take (i := 27) (oi := { dst := some 54, op := Go.Op.move (Go.Operand.tmp 3), type := 3, pos := "l04_graph.go:21", after := #[{ on := 26, ground := Go.Ground.guard }], guard := some (26, false) }) (v := ?_) rfl (by kernel_rfl) (by kernel_rfl) (by kernel_rfl) (fun _ _ _ h => h) (Or.inl ⟨by kernel_rfl, ?_⟩) (by assumption) ?_
                        rotate_left
                        · intro w hSw; (try dsimp only at hSw); go_simp; try with_reducible rfl
                        simp only [Act.put, List.setIfInBounds_toArray, List.set_cons_zero, List.set_cons_succ]
                        refine wpAnyH_take (i := 28) (oi := { dst := some 55, op := Go.Op.binOp Go.BinOp.gtr 3 (Go.Operand.tmp 54) (Go.Operand.const (Go.Value.int Go.IntKind.i64 0)) 3, type := 4, pos := "l04_graph.go:21", after := #[{ on := 27, ground := Go.Ground.data }, { on := 26, ground := Go.Ground.guard }], guard := some (26, false) }) (v := ?_) rfl (by kernel_rfl) (by kernel_rfl) (by kernel_rfl) (fun _ _ _ h => h) (Or.inl ⟨by kernel_rfl, ?_⟩) (by assumption) ?_
                        rotate_left
                        · intro w hSw; (try dsimp only at hSw); go_simp; try with_reducible rfl
                        simp only [Act.put, List.setIfInBounds_toArray, List.set_cons_zero, List.set_cons_succ]
                        refine wpAnyH_take (i := 29) (oi := { dst := some 56, op := Go.Op.move (Go.Operand.tmp 55), type := 4, pos := "l04_graph.go:21", after := #[{ on := 28, ground := Go.Ground.data }, { on := 26, ground := Go.Ground.chain }, { on := 26, ground := Go.Ground.guard }], guard := some (26, false) }) (v := ?_) rfl (by kernel_rfl) (by kernel_rfl) (by kernel_rfl) (fun _ _ _ h => h) (Or.inl ⟨by kernel_rfl, ?_⟩) (by assumption) ?_
                        rotate_left
                        · intro w hSw; (try dsimp only at hSw); go_simp; try with_reducible rfl
                        simp only [Act.put, List.setIfInBounds_toArray, List.set_cons_zero, List.set_cons_succ]
                        refine wpAnyH_take (i := 30) (oi := { dst := some 57, op := Go.Op.fieldAddr 26 (Go.Operand.tmp 1) 1, type := 0, pos := "l04_graph.go:21", after := #[{ on := 29, ground := Go.Ground.guard }], guard := some (29, true) }) (v := ?_) rfl (by kernel_rfl) (by kernel_rfl) (by kernel_rfl) (fun _ _ _ h => h) (Or.inl ⟨by kernel_rfl, ?_⟩) (by assumption) ?_
                        rotate_left
                        · intro w hSw; (try dsimp only at hSw); go_simp; try with_reducible rfl
                        simp only [Act.put, List.setIfInBounds_toArray, List.set_cons_zero, List.set_cons_succ]
                        refine wpAnyH_take (i := 31) (oi := { dst := some 58, op := Go.Op.load 24 (Go.Operand.tmp 57), type := 24, pos := "l04_graph.go:21", after := #[{ on := 30, ground := Go.Ground.data }, { on := 29, ground := Go.Ground.guard }], guard := some (29, true) }) (v := ?_) rfl (by kernel_rfl) (by kernel_rfl) (by kernel_rfl) (fun _ _ _ h => h) (Or.inl ⟨by kernel_rfl, ?_⟩) (by assumption) ?_
                        rotate_left
                        · intro w hSw; (try dsimp only at hSw); go_simp; try with_reducible rfl
                        simp only [Act.put, List.setIfInBounds_toArray, List.set_cons_zero, List.set_cons_succ]
                        refine wpAnyH_take (i := 32) (oi := { dst := some 59, op := Go.Op.move (Go.Operand.tmp 3), type := 3, pos := "l04_graph.go:21", after := #[{ on := 29, ground := Go.Ground.guard }], guard := some (29, true) }) (v := ?_) rfl (by kernel_rfl) (by kernel_rfl) (by kernel_rfl) (fun _ _ _ h => h) (Or.inl ⟨by kernel_rfl, ?_⟩) (by assumption) ?_
                        rotate_left
                        · intro w hSw; (try dsimp only at hSw); go_simp; try with_reducible rfl
                        simp only [Act.put, List.setIfInBounds_toArray, List.set_cons_zero, List.set_cons_succ]
                        refine wpAnyH_take (i := 33) (oi := { dst := some 60, op := Go.Op.binOp Go.BinOp.sub 3 (Go.Operand.tmp 59) (Go.Operand.const (Go.Value.int Go.IntKind.i64 1)) 3, type := 3, pos := "l04_graph.go:21", after := #[{ on := 32, ground := Go.Ground.data }, { on := 29, ground := Go.Ground.guard }], guard := some (29, true) }) (v := ?_) rfl (by kernel_rfl) (by kernel_rfl) (by kernel_rfl) (fun _ _ _ h => h) (Or.inl ⟨by kernel_rfl, ?_⟩) (by assumption) ?_
                        rotate_left
                        · intro w hSw; (try dsimp only at hSw); go_simp; try with_reducible rfl
                        simp only [Act.put, List.setIfInBounds_toArray, List.set_cons_zero, List.set_cons_succ]
                        refine wpAnyH_take (i := 34) (oi := { dst := some 61, op := Go.Op.indexAddr 24 (Go.Operand.tmp 58) (Go.Operand.tmp 60), type := 0, pos := "l04_graph.go:21", after := #[{ on := 31, ground := Go.Ground.data }, { on := 33, ground := Go.Ground.data }, { on := 29, ground := Go.Ground.guard }], guard := some (29, true) }) (v := ?_) rfl (by kernel_rfl) (by kernel_rfl) (by kernel_rfl) (fun _ _ _ h => h) (Or.inl ⟨by kernel_rfl, ?_⟩) (by assumption) ?_
                        rotate_left
                        · intro w hSw; (try dsimp only at hSw); go_simp; try with_reducible rfl
                        simp only [Act.put, List.setIfInBounds_toArray, List.set_cons_zero, List.set_cons_succ]
                        refine wpAnyH_take (i := 35) (oi := { dst := some 62, op := Go.Op.load 99 (Go.Operand.tmp 61), type := 99, pos := "l04_graph.go:21", after := #[{ on := 34, ground := Go.Ground.data }, { on := 29, ground := Go.Ground.guard }], guard := some (29, true) }) (v := ?_) rfl (by kernel_rfl) (by kernel_rfl) (by kernel_rfl) (fun _ _ _ h => h) (Or.inl ⟨by kernel_rfl, ?_⟩) (by assumption) ?_
                        rotate_left
                        · intro w hSw; (try dsimp only at hSw); go_simp; try with_reducible rfl
                        simp only [Act.put, List.setIfInBounds_toArray, List.set_cons_zero, List.set_cons_succ]
                        refine wpAnyH_take (i := 36) (oi := { dst := some 63, op := Go.Op.load 99 (Go.Operand.tmp 4), type := 99, pos := "l04_graph.go:21", after := #[{ on := 29, ground := Go.Ground.guard }], guard := some (29, true) }) (v := ?_) rfl (by kernel_rfl) (by kernel_rfl) (by kernel_rfl) (fun _ _ _ h => h) (Or.inl ⟨by kernel_rfl, ?_⟩) (by assumption) ?_
                        rotate_left
                        · intro w hSw; (try dsimp only at hSw); go_simp; try with_reducible rfl
                        simp only [Act.put, List.setIfInBounds_toArray, List.set_cons_zero, List.set_cons_succ]
                        refine wpAnyH_ready (rs := [37]) (by kernel_rfl) (by simp) ?_
                        refine AllReadyH.cons (o := { dst := some 64, op := Go.Op.call { callee := Go.Callee.value (Go.Operand.func 66), args := #[Go.Operand.tmp 62, Go.Operand.tmp 63], argTypes := #[99, 99] }, type := 4, pos := "l04_graph.go:21", after := #[{ on := 35, ground := Go.Ground.data }, { on := 36, ground := Go.Ground.data }, { on := 29, ground := Go.Ground.chain }, { on := 29, ground := Go.Ground.guard }], guard := some (29, true) }) rfl (fun K hK => ?_) ?_
                        · go_simp
                          go_wp2_with (go_at_call 66; refine (HC2.out _).mono ?_; rintro e w2 ⟨rfl, B2⟩)
                          have HB2 : Hid (Below W.heap.size W w2) := ((Below.refl _ _).drew).trans (B2.out.mono (Nat.le_refl _))
                          have hk2 := HKS.out _ HB2.out
                          clear B2
                          refine hK.out _ _ hk2 (fun hHeld => ?_)
                          clear hK K
                          try simp only [Act.put, List.setIfInBounds_toArray, List.set_cons_zero, List.set_cons_succ]
                          refine wpAnyH_take (i := 38) (oi := { dst := some 65, op := Go.Op.unOp Go.UnOp.not 4 (Go.Operand.tmp 64), type := 4, pos := "l04_graph.go:21", after := #[{ on := 37, ground := Go.Ground.data }, { on := 29, ground := Go.Ground.guard }], guard := some (29, true) }) (v := ?_) rfl (by kernel_rfl) (by kernel_rfl) (by kernel_rfl) (fun _ _ _ h => h) (Or.inl ⟨by kernel_rfl, ?_⟩) (by assumption) ?_
                          rotate_left
                          · intro w hSw; (try dsimp only at hSw); go_simp; try with_reducible rfl
                          simp only [Act.put, List.setIfInBounds_toArray, List.set_cons_zero, List.set_cons_succ]
                          refine wpAnyH_take (i := 39) (oi := { dst := some 66, op := Go.Op.pick (Go.Operand.tmp 56) (Go.Operand.tmp 65) (Go.Operand.const (Go.Value.bool false)), type := 4, pos := "l04_graph.go:21", after := #[{ on := 29, ground := Go.Ground.data }, { on := 38, ground := Go.Ground.data }, { on := 26, ground := Go.Ground.guard }], guard := some (26, false) }) (v := ?_) rfl (by kernel_rfl) (by kernel_rfl) (by kernel_rfl) (fun _ _ _ h => h) (Or.inl ⟨by kernel_rfl, ?_⟩) (by assumption) ?_
                          rotate_left
                          · intro w hSw; (try dsimp only at hSw); go_simp; try with_reducible rfl
                          simp only [Act.put, List.setIfInBounds_toArray, List.set_cons_zero, List.set_cons_succ]
                          refine wpAnyH_take (i := 40) (oi := { dst := some 67, op := Go.Op.pick (Go.Operand.tmp 53) (Go.Operand.const (Go.Value.bool true)) (Go.Operand.tmp 66), type := 4, pos := "l04_graph.go:21", after := #[{ on := 26, ground := Go.Ground.data }, { on := 39, ground := Go.Ground.data }], guard := none }) (v := ?_) rfl (by kernel_rfl) (by kernel_rfl) (by kernel_rfl) (fun _ _ _ h => h) (Or.inl ⟨by kernel_rfl, ?_⟩) (by assumption) ?_
                          rotate_left
                          · intro w hSw; (try dsimp only at hSw); go_simp; try with_reducible rfl
                          simp only [Act.put, List.setIfInBounds_toArray, List.set_cons_zero, List.set_cons_succ]
                          refine wpAnyH_done (by kernel_rfl) ?_ _
                          clear hHeld
                          rcases Bool.eq_false_or_eq_true v with hv | hv
                          · subst hv
                            go_wp2
                            go_roundw
                            case rel => exact ⟨m + 1 + 1, by go_num, by omega, by show _ = _; rw [okGTo, HE.out, HOK.out]; rfl, HLW.out.trans (HB2.out.mono HLW.out.size), HXW.out.of_block (HB2.out.block _ HXW.out.lt)⟩
                            case measure => simp [intOf]; omega
                          · subst hv
                            go_wp2
                            go_ret
                            refine ⟨?_, HLW.out.trans (HB2.out.mono HLW.out.size)⟩
                            have : r = false := by rw [HR.out]; exact okG_no (k := m + 1) (by rw [HN.out]; exact hlt) HOK.out
                            rw [this]; rfl
                        exact AllReadyH.nil
                      exact AllReadyH.nil
                    exact AllReadyH.nil
                · have hd8 : decide ((100 : Int) < x1) = true := by simp; omega
                  rw [decide_eq_false h100] at HOE
                  rw [Bool.and_false] at HOE
                  have HKS : Hid (∀ w', Below W.heap.size W w' → ((w'.cell? ⟨w.heap.size, 0, none⟩ = some (.int .i64 s) ∧ w'.cell? ⟨w.heap.size, 1, none⟩ = some (.slice (some ⟨b, o, none⟩) n cap)) ∧ (w'.cell? ⟨wr.heap.size, 0, none⟩ = some (.int .i64 x0) ∧ w'.cell? ⟨wr.heap.size, 1, none⟩ = some (.int .u8 x1) ∧ w'.cell? ⟨wr.heap.size, 2, none⟩ = some (.int .i64 x2)))) := fun w' h => ⟨⟨cell_below g0 h (lt_of_cell g0), cell_below g1 h (lt_of_cell g1)⟩, ⟨cell_below e0 h (lt_of_cell e0), cell_below e1 h (lt_of_cell e1), cell_below e2 h (lt_of_cell e2)⟩⟩
                  refine wp_region_held_drew (S := fun w' => (w'.cell? ⟨w.heap.size, 0, none⟩ = some (.int .i64 s) ∧ w'.cell? ⟨w.heap.size, 1, none⟩ = some (.slice (some ⟨b, o, none⟩) n cap)) ∧ (w'.cell? ⟨wr.heap.size, 0, none⟩ = some (.int .i64 x0) ∧ w'.cell? ⟨wr.heap.size, 1, none⟩ = some (.int .u8 x1) ∧ w'.cell? ⟨wr.heap.size, 2, none⟩ = some (.int .i64 x2))) (by kernel_rfl) (HKS.out _ ((Below.refl _ _).drew)) (fun hHeld => ?_)
                  refine wpAnyH_take (i := 0) (oi := { dst := some 27, op := Go.Op.fieldAddr 99 (Go.Operand.tmp 4) 0, type := 0, pos := "l04_graph.go:21", after := #[], guard := none }) (v := ?_) rfl (by kernel_rfl) (by kernel_rfl) (by kernel_rfl) (fun _ _ _ h => h) (Or.inl ⟨by kernel_rfl, ?_⟩) (by assumption) ?_
                  rotate_left
                  · intro w hSw; (try dsimp only at hSw); go_simp; try with_reducible rfl
                  simp only [Act.put, List.setIfInBounds_toArray, List.set_cons_zero, List.set_cons_succ]
                  refine wpAnyH_take (i := 1) (oi := { dst := some 28, op := Go.Op.load 3 (Go.Operand.tmp 27), type := 3, pos := "l04_graph.go:21", after := #[{ on := 0, ground := Go.Ground.data }], guard := none }) (v := ?_) rfl (by kernel_rfl) (by kernel_rfl) (by kernel_rfl) (fun _ _ _ h => h) (Or.inl ⟨by kernel_rfl, ?_⟩) (by assumption) ?_
                  rotate_left
                  · intro w hSw; (try dsimp only at hSw); go_simp; try with_reducible rfl
                  simp only [Act.put, List.setIfInBounds_toArray, List.set_cons_zero, List.set_cons_succ]
                  refine wpAnyH_take (i := 2) (oi := { dst := some 29, op := Go.Op.fieldAddr 26 (Go.Operand.tmp 1) 0, type := 0, pos := "l04_graph.go:21", after := #[], guard := none }) (v := ?_) rfl (by kernel_rfl) (by kernel_rfl) (by kernel_rfl) (fun _ _ _ h => h) (Or.inl ⟨by kernel_rfl, ?_⟩) (by assumption) ?_
                  rotate_left
                  · intro w hSw; (try dsimp only at hSw); go_simp; try with_reducible rfl
                  simp only [Act.put, List.setIfInBounds_toArray, List.set_cons_zero, List.set_cons_succ]
                  refine wpAnyH_take (i := 3) (oi := { dst := some 30, op := Go.Op.load 3 (Go.Operand.tmp 29), type := 3, pos := "l04_graph.go:21", after := #[{ on := 2, ground := Go.Ground.data }], guard := none }) (v := ?_) rfl (by kernel_rfl) (by kernel_rfl) (by kernel_rfl) (fun _ _ _ h => h) (Or.inl ⟨by kernel_rfl, ?_⟩) (by assumption) ?_
                  rotate_left
                  · intro w hSw; (try dsimp only at hSw); go_simp; try with_reducible rfl
                  simp only [Act.put, List.setIfInBounds_toArray, List.set_cons_zero, List.set_cons_succ]
                  refine wpAnyH_take (i := 4) (oi := { dst := some 31, op := Go.Op.binOp Go.BinOp.sub 3 (Go.Operand.tmp 30) (Go.Operand.const (Go.Value.int Go.IntKind.i64 1)) 3, type := 3, pos := "l04_graph.go:21", after := #[{ on := 3, ground := Go.Ground.data }], guard := none }) (v := ?_) rfl (by kernel_rfl) (by kernel_rfl) (by kernel_rfl) (fun _ _ _ h => h) (Or.inl ⟨by kernel_rfl, ?_⟩) (by assumption) ?_
                  rotate_left
                  · intro w hSw; (try dsimp only at hSw); go_simp; try with_reducible rfl
                  simp only [Act.put, List.setIfInBounds_toArray, List.set_cons_zero, List.set_cons_succ]
                  refine wpAnyH_ready (rs := [5]) (by kernel_rfl) (by simp) ?_
                  refine AllReadyH.cons (o := { dst := some 32, op := Go.Op.call { callee := Go.Callee.value (Go.Operand.func 46), args := #[Go.Operand.tmp 28, Go.Operand.const (Go.Value.int Go.IntKind.i64 0), Go.Operand.tmp 31], argTypes := #[3, 3, 3] }, type := 4, pos := "l04_graph.go:21", after := #[{ on := 1, ground := Go.Ground.data }, { on := 4, ground := Go.Ground.data }], guard := none }) rfl (fun K hK => ?_) ?_
                  · go_simp
                    go_wp2_with (go_at_call 46; refine (HC0.out _).mono ?_; rintro e w1 ⟨rfl, rfl⟩)
                    refine hK.out _ _ hHeld (fun hHeld => ?_)
                    clear hK K
                    try simp only [Act.put, List.setIfInBounds_toArray, List.set_cons_zero, List.set_cons_succ]
                    refine wpAnyH_take (i := 6) (oi := { dst := some 33, op := Go.Op.unOp Go.UnOp.not 4 (Go.Operand.tmp 32), type := 4, pos := "l04_graph.go:21", after := #[{ on := 5, ground := Go.Ground.data }], guard := none }) (v := ?_) rfl (by kernel_rfl) (by kernel_rfl) (by kernel_rfl) (fun _ _ _ h => h) (Or.inl ⟨by kernel_rfl, ?_⟩) (by assumption) ?_
                    rotate_left
                    · intro w hSw; (try dsimp only at hSw); go_simp; try with_reducible rfl
                    simp only [Act.put, List.setIfInBounds_toArray, List.set_cons_zero, List.set_cons_succ]
                    refine wpAnyH_take (i := 7) (oi := { dst := some 34, op := Go.Op.move (Go.Operand.tmp 33), type := 4, pos := "l04_graph.go:21", after := #[{ on := 6, ground := Go.Ground.data }, { on := 5, ground := Go.Ground.chain }], guard := none }) (v := ?_) rfl (by kernel_rfl) (by kernel_rfl) (by kernel_rfl) (fun _ _ _ h => h) (Or.inl ⟨by kernel_rfl, ?_⟩) (by assumption) ?_
                    rotate_left
                    · intro w hSw; (try dsimp only at hSw); go_simp; try with_reducible rfl
                    simp only [Act.put, List.setIfInBounds_toArray, List.set_cons_zero, List.set_cons_succ]
                    refine wpAnyH_take (i := 8) (oi := { dst := some 35, op := Go.Op.fieldAddr 99 (Go.Operand.tmp 4) 2, type := 0, pos := "l04_graph.go:21", after := #[{ on := 7, ground := Go.Ground.guard }], guard := some (7, false) }) (v := ?_) rfl (by kernel_rfl) (by kernel_rfl) (by kernel_rfl) (fun _ _ _ h => h) (Or.inl ⟨by kernel_rfl, ?_⟩) (by assumption) ?_
                    rotate_left
                    · intro w hSw; (try dsimp only at hSw); go_simp; try with_reducible rfl
                    simp only [Act.put, List.setIfInBounds_toArray, List.set_cons_zero, List.set_cons_succ]
                    refine wpAnyH_take (i := 9) (oi := { dst := some 36, op := Go.Op.load 3 (Go.Operand.tmp 35), type := 3, pos := "l04_graph.go:21", after := #[{ on := 8, ground := Go.Ground.data }, { on := 7, ground := Go.Ground.guard }], guard := some (7, false) }) (v := ?_) rfl (by kernel_rfl) (by kernel_rfl) (by kernel_rfl) (fun _ _ _ h => h) (Or.inl ⟨by kernel_rfl, ?_⟩) (by assumption) ?_
                    rotate_left
                    · intro w hSw; (try dsimp only at hSw); go_simp; try with_reducible rfl
                    simp only [Act.put, List.setIfInBounds_toArray, List.set_cons_zero, List.set_cons_succ]
                    refine wpAnyH_take (i := 10) (oi := { dst := some 37, op := Go.Op.fieldAddr 26 (Go.Operand.tmp 1) 0, type := 0, pos := "l04_graph.go:21", after := #[{ on := 7, ground := Go.Ground.guard }], guard := some (7, false) }) (v := ?_) rfl (by kernel_rfl) (by kernel_rfl) (by kernel_rfl) (fun _ _ _ h => h) (Or.inl ⟨by kernel_rfl, ?_⟩) (by assumption) ?_
                    rotate_left
                    · intro w hSw; (try dsimp only at hSw); go_simp; try with_reducible rfl
                    simp only [Act.put, List.setIfInBounds_toArray, List.set_cons_zero, List.set_cons_succ]
                    refine wpAnyH_take (i := 11) (oi := { dst := some 38, op := Go.Op.load 3 (Go.Operand.tmp 37), type := 3, pos := "l04_graph.go:21", after := #[{ on := 10, ground := Go.Ground.data }, { on := 7, ground := Go.Ground.guard }], guard := some (7, false) }) (v := ?_) rfl (by kernel_rfl) (by kernel_rfl) (by kernel_rfl) (fun _ _ _ h => h) (Or.inl ⟨by kernel_rfl, ?_⟩) (by assumption) ?_
                    rotate_left
                    · intro w hSw; (try dsimp only at hSw); go_simp; try with_reducible rfl
                    simp only [Act.put, List.setIfInBounds_toArray, List.set_cons_zero, List.set_cons_succ]
                    refine wpAnyH_take (i := 12) (oi := { dst := some 39, op := Go.Op.binOp Go.BinOp.sub 3 (Go.Operand.tmp 38) (Go.Operand.const (Go.Value.int Go.IntKind.i64 1)) 3, type := 3, pos := "l04_graph.go:21", after := #[{ on := 11, ground := Go.Ground.data }, { on := 7, ground := Go.Ground.guard }], guard := some (7, false) }) (v := ?_) rfl (by kernel_rfl) (by kernel_rfl) (by kernel_rfl) (fun _ _ _ h => h) (Or.inl ⟨by kernel_rfl, ?_⟩) (by assumption) ?_
                    rotate_left
                    · intro w hSw; (try dsimp only at hSw); go_simp; try with_reducible rfl
                    simp only [Act.put, List.setIfInBounds_toArray, List.set_cons_zero, List.set_cons_succ]
                    refine wpAnyH_ready (rs := [13]) (by kernel_rfl) (by simp) ?_
                    refine AllReadyH.cons (o := { dst := some 40, op := Go.Op.call { callee := Go.Callee.value (Go.Operand.func 46), args := #[Go.Operand.tmp 36, Go.Operand.const (Go.Value.int Go.IntKind.i64 0), Go.Operand.tmp 39], argTypes := #[3, 3, 3] }, type := 4, pos := "l04_graph.go:21", after := #[{ on := 9, ground := Go.Ground.data }, { on := 12, ground := Go.Ground.data }, { on := 7, ground := Go.Ground.chain }, { on := 7, ground := Go.Ground.guard }], guard := some (7, false) }) rfl (fun K hK => ?_) ?_
                    · go_simp
                      go_wp2_with (go_at_call 46; refine (HC1.out _).mono ?_; rintro e w1 ⟨rfl, rfl⟩)
                      refine hK.out _ _ hHeld (fun hHeld => ?_)
                      clear hK K
                      try simp only [Act.put, List.setIfInBounds_toArray, List.set_cons_zero, List.set_cons_succ]
                      refine wpAnyH_take (i := 14) (oi := { dst := some 41, op := Go.Op.unOp Go.UnOp.not 4 (Go.Operand.tmp 40), type := 4, pos := "l04_graph.go:21", after := #[{ on := 13, ground := Go.Ground.data }, { on := 7, ground := Go.Ground.guard }], guard := some (7, false) }) (v := ?_) rfl (by kernel_rfl) (by kernel_rfl) (by kernel_rfl) (fun _ _ _ h => h) (Or.inl ⟨by kernel_rfl, ?_⟩) (by assumption) ?_
                      rotate_left
                      · intro w hSw; (try dsimp only at hSw); go_simp; try with_reducible rfl
                      simp only [Act.put, List.setIfInBounds_toArray, List.set_cons_zero, List.set_cons_succ]
                      refine wpAnyH_take (i := 15) (oi := { dst := some 42, op := Go.Op.pick (Go.Operand.tmp 34) (Go.Operand.const (Go.Value.bool true)) (Go.Operand.tmp 41), type := 4, pos := "l04_graph.go:21", after := #[{ on := 7, ground := Go.Ground.data }, { on := 14, ground := Go.Ground.data }], guard := none }) (v := ?_) rfl (by kernel_rfl) (by kernel_rfl) (by kernel_rfl) (fun _ _ _ h => h) (Or.inl ⟨by kernel_rfl, ?_⟩) (by assumption) ?_
                      rotate_left
                      · intro w hSw; (try dsimp only at hSw); go_simp; try with_reducible rfl
                      simp only [Act.put, List.setIfInBounds_toArray, List.set_cons_zero, List.set_cons_succ]
                      refine wpAnyH_take (i := 16) (oi := { dst := some 43, op := Go.Op.move (Go.Operand.tmp 42), type := 4, pos := "l04_graph.go:21", after := #[{ on := 15, ground := Go.Ground.data }, { on := 13, ground := Go.Ground.chain }], guard := none }) (v := ?_) rfl (by kernel_rfl) (by kernel_rfl) (by kernel_rfl) (fun _ _ _ h => h) (Or.inl ⟨by kernel_rfl, ?_⟩) (by assumption) ?_
                      rotate_left
                      · intro w hSw; (try dsimp only at hSw); go_simp; try with_reducible rfl
                      simp only [Act.put, List.setIfInBounds_toArray, List.set_cons_zero, List.set_cons_succ]
                      refine wpAnyH_take (i := 17) (oi := { dst := some 44, op := Go.Op.fieldAddr 99 (Go.Operand.tmp 4) 1, type := 0, pos := "l04_graph.go:21", after := #[{ on := 16, ground := Go.Ground.guard }], guard := some (16, false) }) (v := ?_) rfl (by kernel_rfl) (by kernel_rfl) (by kernel_rfl) (fun _ _ _ h => h) (Or.inl ⟨by kernel_rfl, ?_⟩) (by assumption) ?_
                      rotate_left
                      · intro w hSw; (try dsimp only at hSw); go_simp; try with_reducible rfl
                      simp only [Act.put, List.setIfInBounds_toArray, List.set_cons_zero, List.set_cons_succ]
                      refine wpAnyH_take (i := 18) (oi := { dst := some 45, op := Go.Op.load 5 (Go.Operand.tmp 44), type := 5, pos := "l04_graph.go:21", after := #[{ on := 17, ground := Go.Ground.data }, { on := 16, ground := Go.Ground.guard }], guard := some (16, false) }) (v := ?_) rfl (by kernel_rfl) (by kernel_rfl) (by kernel_rfl) (fun _ _ _ h => h) (Or.inl ⟨by kernel_rfl, ?_⟩) (by assumption) ?_
                      rotate_left
                      · intro w hSw; (try dsimp only at hSw); go_simp; try with_reducible rfl
                      simp only [Act.put, List.setIfInBounds_toArray, List.set_cons_zero, List.set_cons_succ]
                      refine wpAnyH_take (i := 19) (oi := { dst := some 46, op := Go.Op.binOp Go.BinOp.lss 5 (Go.Operand.tmp 45) (Go.Operand.const (Go.Value.int Go.IntKind.u8 97)) 5, type := 4, pos := "l04_graph.go:21", after := #[{ on := 18, ground := Go.Ground.data }, { on := 16, ground := Go.Ground.guard }], guard := some (16, false) }) (v := ?_) rfl (by kernel_rfl) (by kernel_rfl) (by kernel_rfl) (fun _ _ _ h => h) (Or.inl ⟨by kernel_rfl, ?_⟩) (by assumption) ?_
                      rotate_left
                      · intro w hSw; (try dsimp only at hSw); go_simp; try with_reducible rfl
                      simp only [Act.put, List.setIfInBounds_toArray, List.set_cons_zero, List.set_cons_succ]
                      refine wpAnyH_take (i := 20) (oi := { dst := some 47, op := Go.Op.pick (Go.Operand.tmp 43) (Go.Operand.const (Go.Value.bool true)) (Go.Operand.tmp 46), type := 4, pos := "l04_graph.go:21", after := #[{ on := 16, ground := Go.Ground.data }, { on := 19, ground := Go.Ground.data }], guard := none }) (v := ?_) rfl (by kernel_rfl) (by kernel_rfl) (by kernel_rfl) (fun _ _ _ h => h) (Or.inl ⟨by kernel_rfl, ?_⟩) (by assumption) ?_
                      rotate_left
                      · intro w hSw; (try dsimp only at hSw); go_simp; try with_reducible rfl
                      simp only [Act.put, List.setIfInBounds_toArray, List.set_cons_zero, List.set_cons_succ]
                      refine wpAnyH_take (i := 21) (oi := { dst := some 48, op := Go.Op.move (Go.Operand.tmp 47), type := 4, pos := "l04_graph.go:21", after := #[{ on := 20, ground := Go.Ground.data }, { on := 16, ground := Go.Ground.chain }], guard := none }) (v := ?_) rfl (by kernel_rfl) (by kernel_rfl) (by kernel_rfl) (fun _ _ _ h => h) (Or.inl ⟨by kernel_rfl, ?_⟩) (by assumption) ?_
                      rotate_left
                      · intro w hSw; (try dsimp only at hSw); go_simp; try with_reducible rfl
                      simp only [Act.put, List.setIfInBounds_toArray, List.set_cons_zero, List.set_cons_succ]
                      refine wpAnyH_take (i := 22) (oi := { dst := some 49, op := Go.Op.fieldAddr 99 (Go.Operand.tmp 4) 1, type := 0, pos := "l04_graph.go:21", after := #[{ on := 21, ground := Go.Ground.guard }], guard := some (21, false) }) (v := ?_) rfl (by kernel_rfl) (by kernel_rfl) (by kernel_rfl) (fun _ _ _ h => h) (Or.inl ⟨by kernel_rfl, ?_⟩) (by assumption) ?_
                      rotate_left
                      · intro w hSw; (try dsimp only at hSw); go_simp; try with_reducible rfl
                      simp only [Act.put, List.setIfInBounds_toArray, List.set_cons_zero, List.set_cons_succ]
                      refine wpAnyH_take (i := 23) (oi := { dst := some 50, op := Go.Op.load 5 (Go.Operand.tmp 49), type := 5, pos := "l04_graph.go:21", after := #[{ on := 22, ground := Go.Ground.data }, { on := 21, ground := Go.Ground.guard }], guard := some (21, false) }) (v := ?_) rfl (by kernel_rfl) (by kernel_rfl) (by kernel_rfl) (fun _ _ _ h => h) (Or.inl ⟨by kernel_rfl, ?_⟩) (by assumption) ?_
                      rotate_left
                      · intro w hSw; (try dsimp only at hSw); go_simp; try with_reducible rfl
                      simp only [Act.put, List.setIfInBounds_toArray, List.set_cons_zero, List.set_cons_succ]
                      refine wpAnyH_take (i := 24) (oi := { dst := some 51, op := Go.Op.binOp Go.BinOp.gtr 5 (Go.Operand.tmp 50) (Go.Operand.const (Go.Value.int Go.IntKind.u8 100)) 5, type := 4, pos := "l04_graph.go:21", after := #[{ on := 23, ground := Go.Ground.data }, { on := 21, ground := Go.Ground.guard }], guard := some (21, false) }) (v := ?_) rfl (by kernel_rfl) (by kernel_rfl) (by kernel_rfl) (fun _ _ _ h => h) (Or.inl ⟨by kernel_rfl, ?_⟩) (by assumption) ?_
                      rotate_left
                      · intro w hSw; (try dsimp only at hSw); go_simp; try with_reducible rfl
                      simp only [Act.put, List.setIfInBounds_toArray, List.set_cons_zero, List.set_cons_succ]
                      refine wpAnyH_take (i := 25) (oi := { dst := some 52, op := Go.Op.pick (Go.Operand.tmp 48) (Go.Operand.const (Go.Value.bool true)) (Go.Operand.tmp 51), type := 4, pos := "l04_graph.go:21", after := #[{ on := 21, ground := Go.Ground.data }, { on := 24, ground := Go.Ground.data }], guard := none }) (v := ?_) rfl (by kernel_rfl) (by kernel_rfl) (by kernel_rfl) (fun _ _ _ h => h) (Or.inl ⟨by kernel_rfl, ?_⟩) (by assumption) ?_
                      rotate_left
                      · intro w hSw; (try dsimp only at hSw); go_simp; try with_reducible rfl
                      simp only [Act.put, List.setIfInBounds_toArray, List.set_cons_zero, List.set_cons_succ]
                      refine wpAnyH_take (i := 26) (oi := { dst := some 53, op := Go.Op.move (Go.Operand.tmp 52), type := 4, pos := "l04_graph.go:21", after := #[{ on := 25, ground := Go.Ground.data }, { on := 21, ground := Go.Ground.chain }], guard := none }) (v := ?_) rfl (by kernel_rfl) (by kernel_rfl) (by kernel_rfl) (fun _ _ _ h => h) (Or.inl ⟨by kernel_rfl, ?_⟩) (by assumption) ?_
                      rotate_left
                      · intro w hSw; (try dsimp only at hSw); go_simp; try with_reducible rfl
                      simp only [Act.put, List.setIfInBounds_toArray, List.set_cons_zero, List.set_cons_succ]
                      refine wpAnyH_take (i := 27) (oi := { dst := some 54, op := Go.Op.move (Go.Operand.tmp 3), type := 3, pos := "l04_graph.go:21", after := #[{ on := 26, ground := Go.Ground.guard }], guard := some (26, false) }) (v := undef) rfl (by kernel_rfl) (by kernel_rfl) (by kernel_rfl) (fun _ _ _ h => h) (Or.inr ⟨by kernel_rfl, rfl⟩) (by assumption) ?_
                      simp only [Act.put, List.setIfInBounds_toArray, List.set_cons_zero, List.set_cons_succ]
                      refine wpAnyH_take (i := 28) (oi := { dst := some 55, op := Go.Op.binOp Go.BinOp.gtr 3 (Go.Operand.tmp 54) (Go.Operand.const (Go.Value.int Go.IntKind.i64 0)) 3, type := 4, pos := "l04_graph.go:21", after := #[{ on := 27, ground := Go.Ground.data }, { on := 26, ground := Go.Ground.guard }], guard := some (26, false) }) (v := undef) rfl (by kernel_rfl) (by kernel_rfl) (by kernel_rfl) (fun _ _ _ h => h) (Or.inr ⟨by kernel_rfl, rfl⟩) (by assumption) ?_
                      simp only [Act.put, List.setIfInBounds_toArray, List.set_cons_zero, List.set_cons_succ]
                      refine wpAnyH_take (i := 29) (oi := { dst := some 56, op := Go.Op.move (Go.Operand.tmp 55), type := 4, pos := "l04_graph.go:21", after := #[{ on := 28, ground := Go.Ground.data }, { on := 26, ground := Go.Ground.chain }, { on := 26, ground := Go.Ground.guard }], guard := some (26, false) }) (v := undef) rfl (by kernel_rfl) (by kernel_rfl) (by kernel_rfl) (fun _ _ _ h => h) (Or.inr ⟨by kernel_rfl, rfl⟩) (by assumption) ?_
                      simp only [Act.put, List.setIfInBounds_toArray, List.set_cons_zero, List.set_cons_succ]
                      refine wpAnyH_take (i := 30) (oi := { dst := some 57, op := Go.Op.fieldAddr 26 (Go.Operand.tmp 1) 1, type := 0, pos := "l04_graph.go:21", after := #[{ on := 29, ground := Go.Ground.guard }], guard := some (29, true) }) (v := undef) rfl (by kernel_rfl) (by kernel_rfl) (by kernel_rfl) (fun _ _ _ h => h) (Or.inr ⟨by kernel_rfl, rfl⟩) (by assumption) ?_
                      simp only [Act.put, List.setIfInBounds_toArray, List.set_cons_zero, List.set_cons_succ]
                      refine wpAnyH_take (i := 31) (oi := { dst := some 58, op := Go.Op.load 24 (Go.Operand.tmp 57), type := 24, pos := "l04_graph.go:21", after := #[{ on := 30, ground := Go.Ground.data }, { on := 29, ground := Go.Ground.guard }], guard := some (29, true) }) (v := undef) rfl (by kernel_rfl) (by kernel_rfl) (by kernel_rfl) (fun _ _ _ h => h) (Or.inr ⟨by kernel_rfl, rfl⟩) (by assumption) ?_
                      simp only [Act.put, List.setIfInBounds_toArray, List.set_cons_zero, List.set_cons_succ]
                      refine wpAnyH_take (i := 32) (oi := { dst := some 59, op := Go.Op.move (Go.Operand.tmp 3), type := 3, pos := "l04_graph.go:21", after := #[{ on := 29, ground := Go.Ground.guard }], guard := some (29, true) }) (v := undef) rfl (by kernel_rfl) (by kernel_rfl) (by kernel_rfl) (fun _ _ _ h => h) (Or.inr ⟨by kernel_rfl, rfl⟩) (by assumption) ?_
                      simp only [Act.put, List.setIfInBounds_toArray, List.set_cons_zero, List.set_cons_succ]
                      refine wpAnyH_take (i := 33) (oi := { dst := some 60, op := Go.Op.binOp Go.BinOp.sub 3 (Go.Operand.tmp 59) (Go.Operand.const (Go.Value.int Go.IntKind.i64 1)) 3, type := 3, pos := "l04_graph.go:21", after := #[{ on := 32, ground := Go.Ground.data }, { on := 29, ground := Go.Ground.guard }], guard := some (29, true) }) (v := undef) rfl (by kernel_rfl) (by kernel_rfl) (by kernel_rfl) (fun _ _ _ h => h) (Or.inr ⟨by kernel_rfl, rfl⟩) (by assumption) ?_
                      simp only [Act.put, List.setIfInBounds_toArray, List.set_cons_zero, List.set_cons_succ]
                      refine wpAnyH_take (i := 34) (oi := { dst := some 61, op := Go.Op.indexAddr 24 (Go.Operand.tmp 58) (Go.Operand.tmp 60), type := 0, pos := "l04_graph.go:21", after := #[{ on := 31, ground := Go.Ground.data }, { on := 33, ground := Go.Ground.data }, { on := 29, ground := Go.Ground.guard }], guard := some (29, true) }) (v := undef) rfl (by kernel_rfl) (by kernel_rfl) (by kernel_rfl) (fun _ _ _ h => h) (Or.inr ⟨by kernel_rfl, rfl⟩) (by assumption) ?_
                      simp only [Act.put, List.setIfInBounds_toArray, List.set_cons_zero, List.set_cons_succ]
                      refine wpAnyH_take (i := 35) (oi := { dst := some 62, op := Go.Op.load 99 (Go.Operand.tmp 61), type := 99, pos := "l04_graph.go:21", after := #[{ on := 34, ground := Go.Ground.data }, { on := 29, ground := Go.Ground.guard }], guard := some (29, true) }) (v := undef) rfl (by kernel_rfl) (by kernel_rfl) (by kernel_rfl) (fun _ _ _ h => h) (Or.inr ⟨by kernel_rfl, rfl⟩) (by assumption) ?_
                      simp only [Act.put, List.setIfInBounds_toArray, List.set_cons_zero, List.set_cons_succ]
                      refine wpAnyH_take (i := 36) (oi := { dst := some 63, op := Go.Op.load 99 (Go.Operand.tmp 4), type := 99, pos := "l04_graph.go:21", after := #[{ on := 29, ground := Go.Ground.guard }], guard := some (29, true) }) (v := undef) rfl (by kernel_rfl) (by kernel_rfl) (by kernel_rfl) (fun _ _ _ h => h) (Or.inr ⟨by kernel_rfl, rfl⟩) (by assumption) ?_
                      simp only [Act.put, List.setIfInBounds_toArray, List.set_cons_zero, List.set_cons_succ]
                      refine wpAnyH_ready (rs := [37]) (by kernel_rfl) (by simp) ?_
                      refine AllReadyH.cons (o := { dst := some 64, op := Go.Op.call { callee := Go.Callee.value (Go.Operand.func 66), args := #[Go.Operand.tmp 62, Go.Operand.tmp 63], argTypes := #[99, 99] }, type := 4, pos := "l04_graph.go:21", after := #[{ on := 35, ground := Go.Ground.data }, { on := 36, ground := Go.Ground.data }, { on := 29, ground := Go.Ground.chain }, { on := 29, ground := Go.Ground.guard }], guard := some (29, true) }) rfl (fun K hK => ?_) ?_
                      · rw [if_neg (by refine Bool.eq_false_iff.1 ?_; kernel_rfl)]
                        refine hK.out _ _ hHeld (fun hHeld => ?_)
                        clear hK K
                        try simp only [Act.put, List.setIfInBounds_toArray, List.set_cons_zero, List.set_cons_succ]
                        refine wpAnyH_take (i := 38) (oi := { dst := some 65, op := Go.Op.unOp Go.UnOp.not 4 (Go.Operand.tmp 64), type := 4, pos := "l04_graph.go:21", after := #[{ on := 37, ground := Go.Ground.data }, { on := 29, ground := Go.Ground.guard }], guard := some (29, true) }) (v := undef) rfl (by kernel_rfl) (by kernel_rfl) (by kernel_rfl) (fun _ _ _ h => h) (Or.inr ⟨by kernel_rfl, rfl⟩) (by assumption) ?_
                        simp only [Act.put, List.setIfInBounds_toArray, List.set_cons_zero, List.set_cons_succ]
                        refine wpAnyH_take (i := 39) (oi := { dst := some 66, op := Go.Op.pick (Go.Operand.tmp 56) (Go.Operand.tmp 65) (Go.Operand.const (Go.Value.bool false)), type := 4, pos := "l04_graph.go:21", after := #[{ on := 29, ground := Go.Ground.data }, { on := 38, ground := Go.Ground.data }, { on := 26, ground := Go.Ground.guard }], guard := some (26, false) }) (v := undef) rfl (by kernel_rfl) (by kernel_rfl) (by kernel_rfl) (fun _ _ _ h => h) (Or.inr ⟨by kernel_rfl, rfl⟩) (by assumption) ?_
                        simp only [Act.put, List.setIfInBounds_toArray, List.set_cons_zero, List.set_cons_succ]
                        refine wpAnyH_take (i := 40) (oi := { dst := some 67, op := Go.Op.pick (Go.Operand.tmp 53) (Go.Operand.const (Go.Value.bool true)) (Go.Operand.tmp 66), type := 4, pos := "l04_graph.go:21", after := #[{ on := 26, ground := Go.Ground.data }, { on := 39, ground := Go.Ground.data }], guard := none }) (v := ?_) rfl (by kernel_rfl) (by kernel_rfl) (by kernel_rfl) (fun _ _ _ h => h) (Or.inl ⟨by kernel_rfl, ?_⟩) (by assumption) ?_
                        rotate_left
                        · intro w hSw; (try dsimp only at hSw); go_simp; try with_reducible rfl
                        simp only [Act.put, List.setIfInBounds_toArray, List.set_cons_zero, List.set_cons_succ]
                        refine wpAnyH_done (by kernel_rfl) ?_ _
                        clear hHeld
                        go_wp2
                        go_ret
                        refine ⟨?_, HLW.out.drew⟩
                        have : r = false := by rw [HR.out]; exact okG_no (k := k) (by rw [HN.out]; exact hlt) (okGAt_no HOE.out)
                        rw [this]; rfl
                      exact AllReadyH.nil
                    exact AllReadyH.nil
                  exact AllReadyH.nil
              · have hd7 : decide (x1 < 97) = true := by simp; omega
                rw [decide_eq_false h97, Bool.and_false, Bool.false_and] at HOE
                have HKS : Hid (∀ w', Below W.heap.size W w' → ((w'.cell? ⟨w.heap.size, 0, none⟩ = some (.int .i64 s) ∧ w'.cell? ⟨w.heap.size, 1, none⟩ = some (.slice (some ⟨b, o, none⟩) n cap)) ∧ (w'.cell? ⟨wr.heap.size, 0, none⟩ = some (.int .i64 x0) ∧ w'.cell? ⟨wr.heap.size, 1, none⟩ = some (.int .u8 x1) ∧ w'.cell? ⟨wr.heap.size, 2, none⟩ = some (.int .i64 x2)))) := fun w' h => ⟨⟨cell_below g0 h (lt_of_cell g0), cell_below g1 h (lt_of_cell g1)⟩, ⟨cell_below e0 h (lt_of_cell e0), cell_below e1 h (lt_of_cell e1), cell_below e2 h (lt_of_cell e2)⟩⟩
                refine wp_region_held_drew (S := fun w' => (w'.cell? ⟨w.heap.size, 0, none⟩ = some (.int .i64 s) ∧ w'.cell? ⟨w.heap.size, 1, none⟩ = some (.slice (some ⟨b, o, none⟩) n cap)) ∧ (w'.cell? ⟨wr.heap.size, 0, none⟩ = some (.int .i64 x0) ∧ w'.cell? ⟨wr.heap.size, 1, none⟩ = some (.int .u8 x1) ∧ w'.cell? ⟨wr.heap.size, 2, none⟩ = some (.int .i64 x2))) (by kernel_rfl) (HKS.out _ ((Below.refl _ _).drew)) (fun hHeld => ?_)
                refine wpAnyH_take (i := 0) (oi := { dst := some 27, op := Go.Op.fieldAddr 99 (Go.Operand.tmp 4) 0, type := 0, pos := "l04_graph.go:21", after := #[], guard := none }) (v := ?_) rfl (by kernel_rfl) (by kernel_rfl) (by kernel_rfl) (fun _ _ _ h => h) (Or.inl ⟨by kernel_rfl, ?_⟩) (by assumption) ?_
                rotate_left
                · intro w hSw; (try dsimp only at hSw); go_simp; try with_reducible rfl
                simp only [Act.put, List.setIfInBounds_toArray, List.set_cons_zero, List.set_cons_succ]
                refine wpAnyH_take (i := 1) (oi := { dst := some 28, op := Go.Op.load 3 (Go.Operand.tmp 27), type := 3, pos := "l04_graph.go:21", after := #[{ on := 0, ground := Go.Ground.data }], guard := none }) (v := ?_) rfl (by kernel_rfl) (by kernel_rfl) (by kernel_rfl) (fun _ _ _ h => h) (Or.inl ⟨by kernel_rfl, ?_⟩) (by assumption) ?_
                rotate_left
                · intro w hSw; (try dsimp only at hSw); go_simp; try with_reducible rfl
                simp only [Act.put, List.setIfInBounds_toArray, List.set_cons_zero, List.set_cons_succ]
                refine wpAnyH_take (i := 2) (oi := { dst := some 29, op := Go.Op.fieldAddr 26 (Go.Operand.tmp 1) 0, type := 0, pos := "l04_graph.go:21", after := #[], guard := none }) (v := ?_) rfl (by kernel_rfl) (by kernel_rfl) (by kernel_rfl) (fun _ _ _ h => h) (Or.inl ⟨by kernel_rfl, ?_⟩) (by assumption) ?_
                rotate_left
                · intro w hSw; (try dsimp only at hSw); go_simp; try with_reducible rfl
                simp only [Act.put, List.setIfInBounds_toArray, List.set_cons_zero, List.set_cons_succ]
                refine wpAnyH_take (i := 3) (oi := { dst := some 30, op := Go.Op.load 3 (Go.Operand.tmp 29), type := 3, pos := "l04_graph.go:21", after := #[{ on := 2, ground := Go.Ground.data }], guard := none }) (v := ?_) rfl (by kernel_rfl) (by kernel_rfl) (by kernel_rfl) (fun _ _ _ h => h) (Or.inl ⟨by kernel_rfl, ?_⟩) (by assumption) ?_
                rotate_left
                · intro w hSw; (try dsimp only at hSw); go_simp; try with_reducible rfl
                simp only [Act.put, List.setIfInBounds_toArray, List.set_cons_zero, List.set_cons_succ]
                refine wpAnyH_take (i := 4) (oi := { dst := some 31, op := Go.Op.binOp Go.BinOp.sub 3 (Go.Operand.tmp 30) (Go.Operand.const (Go.Value.int Go.IntKind.i64 1)) 3, type := 3, pos := "l04_graph.go:21", after := #[{ on := 3, ground := Go.Ground.data }], guard := none }) (v := ?_) rfl (by kernel_rfl) (by kernel_rfl) (by kernel_rfl) (fun _ _ _ h => h) (Or.inl ⟨by kernel_rfl, ?_⟩) (by assumption) ?_
                rotate_left
                · intro w hSw; (try dsimp only at hSw); go_simp; try with_reducible rfl
                simp only [Act.put, List.setIfInBounds_toArray, List.set_cons_zero, List.set_cons_succ]
                refine wpAnyH_ready (rs := [5]) (by kernel_rfl) (by simp) ?_
                refine AllReadyH.cons (o := { dst := some 32, op := Go.Op.call { callee := Go.Callee.value (Go.Operand.func 46), args := #[Go.Operand.tmp 28, Go.Operand.const (Go.Value.int Go.IntKind.i64 0), Go.Operand.tmp 31], argTypes := #[3, 3, 3] }, type := 4, pos := "l04_graph.go:21", after := #[{ on := 1, ground := Go.Ground.data }, { on := 4, ground := Go.Ground.data }], guard := none }) rfl (fun K hK => ?_) ?_
                · go_simp
                  go_wp2_with (go_at_call 46; refine (HC0.out _).mono ?_; rintro e w1 ⟨rfl, rfl⟩)
                  refine hK.out _ _ hHeld (fun hHeld => ?_)
                  clear hK K
                  try simp only [Act.put, List.setIfInBounds_toArray, List.set_cons_zero, List.set_cons_succ]
                  refine wpAnyH_take (i := 6) (oi := { dst := some 33, op := Go.Op.unOp Go.UnOp.not 4 (Go.Operand.tmp 32), type := 4, pos := "l04_graph.go:21", after := #[{ on := 5, ground := Go.Ground.data }], guard := none }) (v := ?_) rfl (by kernel_rfl) (by kernel_rfl) (by kernel_rfl) (fun _ _ _ h => h) (Or.inl ⟨by kernel_rfl, ?_⟩) (by assumption) ?_
                  rotate_left
                  · intro w hSw; (try dsimp only at hSw); go_simp; try with_reducible rfl
                  simp only [Act.put, List.setIfInBounds_toArray, List.set_cons_zero, List.set_cons_succ]
                  refine wpAnyH_take (i := 7) (oi := { dst := some 34, op := Go.Op.move (Go.Operand.tmp 33), type := 4, pos := "l04_graph.go:21", after := #[{ on := 6, ground := Go.Ground.data }, { on := 5, ground := Go.Ground.chain }], guard := none }) (v := ?_) rfl (by kernel_rfl) (by kernel_rfl) (by kernel_rfl) (fun _ _ _ h => h) (Or.inl ⟨by kernel_rfl, ?_⟩) (by assumption) ?_
                  rotate_left
                  · intro w hSw; (try dsimp only at hSw); go_simp; try with_reducible rfl
                  simp only [Act.put, List.setIfInBounds_toArray, List.set_cons_zero, List.set_cons_succ]
                  refine wpAnyH_take (i := 8) (oi := { dst := some 35, op := Go.Op.fieldAddr 99 (Go.Operand.tmp 4) 2, type := 0, pos := "l04_graph.go:21", after := #[{ on := 7, ground := Go.Ground.guard }], guard := some (7, false) }) (v := ?_) rfl (by kernel_rfl) (by kernel_rfl) (by kernel_rfl) (fun _ _ _ h => h) (Or.inl ⟨by kernel_rfl, ?_⟩) (by assumption) ?_
                  rotate_left
                  · intro w hSw; (try dsimp only at hSw); go_simp; try with_reducible rfl
                  simp only [Act.put, List.setIfInBounds_toArray, List.set_cons_zero, List.set_cons_succ]
                  refine wpAnyH_take (i := 9) (oi := { dst := some 36, op := Go.Op.load 3 (Go.Operand.tmp 35), type := 3, pos := "l04_graph.go:21", after := #[{ on := 8, ground := Go.Ground.data }, { on := 7, ground := Go.Ground.guard }], guard := some (7, false) }) (v := ?_) rfl (by kernel_rfl) (by kernel_rfl) (by kernel_rfl) (fun _ _ _ h => h) (Or.inl ⟨by kernel_rfl, ?_⟩) (by assumption) ?_
                  rotate_left
                  · intro w hSw; (try dsimp only at hSw); go_simp; try with_reducible rfl
                  simp only [Act.put, List.setIfInBounds_toArray, List.set_cons_zero, List.set_cons_succ]
                  refine wpAnyH_take (i := 10) (oi := { dst := some 37, op := Go.Op.fieldAddr 26 (Go.Operand.tmp 1) 0, type := 0, pos := "l04_graph.go:21", after := #[{ on := 7, ground := Go.Ground.guard }], guard := some (7, false) }) (v := ?_) rfl (by kernel_rfl) (by kernel_rfl) (by kernel_rfl) (fun _ _ _ h => h) (Or.inl ⟨by kernel_rfl, ?_⟩) (by assumption) ?_
                  rotate_left
                  · intro w hSw; (try dsimp only at hSw); go_simp; try with_reducible rfl
                  simp only [Act.put, List.setIfInBounds_toArray, List.set_cons_zero, List.set_cons_succ]
                  refine wpAnyH_take (i := 11) (oi := { dst := some 38, op := Go.Op.load 3 (Go.Operand.tmp 37), type := 3, pos := "l04_graph.go:21", after := #[{ on := 10, ground := Go.Ground.data }, { on := 7, ground := Go.Ground.guard }], guard := some (7, false) }) (v := ?_) rfl (by kernel_rfl) (by kernel_rfl) (by kernel_rfl) (fun _ _ _ h => h) (Or.inl ⟨by kernel_rfl, ?_⟩) (by assumption) ?_
                  rotate_left
                  · intro w hSw; (try dsimp only at hSw); go_simp; try with_reducible rfl
                  simp only [Act.put, List.setIfInBounds_toArray, List.set_cons_zero, List.set_cons_succ]
                  refine wpAnyH_take (i := 12) (oi := { dst := some 39, op := Go.Op.binOp Go.BinOp.sub 3 (Go.Operand.tmp 38) (Go.Operand.const (Go.Value.int Go.IntKind.i64 1)) 3, type := 3, pos := "l04_graph.go:21", after := #[{ on := 11, ground := Go.Ground.data }, { on := 7, ground := Go.Ground.guard }], guard := some (7, false) }) (v := ?_) rfl (by kernel_rfl) (by kernel_rfl) (by kernel_rfl) (fun _ _ _ h => h) (Or.inl ⟨by kernel_rfl, ?_⟩) (by assumption) ?_
                  rotate_left
                  · intro w hSw; (try dsimp only at hSw); go_simp; try with_reducible rfl
                  simp only [Act.put, List.setIfInBounds_toArray, List.set_cons_zero, List.set_cons_succ]
                  refine wpAnyH_ready (rs := [13]) (by kernel_rfl) (by simp) ?_
                  refine AllReadyH.cons (o := { dst := some 40, op := Go.Op.call { callee := Go.Callee.value (Go.Operand.func 46), args := #[Go.Operand.tmp 36, Go.Operand.const (Go.Value.int Go.IntKind.i64 0), Go.Operand.tmp 39], argTypes := #[3, 3, 3] }, type := 4, pos := "l04_graph.go:21", after := #[{ on := 9, ground := Go.Ground.data }, { on := 12, ground := Go.Ground.data }, { on := 7, ground := Go.Ground.chain }, { on := 7, ground := Go.Ground.guard }], guard := some (7, false) }) rfl (fun K hK => ?_) ?_
                  · go_simp
                    go_wp2_with (go_at_call 46; refine (HC1.out _).mono ?_; rintro e w1 ⟨rfl, rfl⟩)
                    refine hK.out _ _ hHeld (fun hHeld => ?_)
                    clear hK K
                    try simp only [Act.put, List.setIfInBounds_toArray, List.set_cons_zero, List.set_cons_succ]
                    refine wpAnyH_take (i := 14) (oi := { dst := some 41, op := Go.Op.unOp Go.UnOp.not 4 (Go.Operand.tmp 40), type := 4, pos := "l04_graph.go:21", after := #[{ on := 13, ground := Go.Ground.data }, { on := 7, ground := Go.Ground.guard }], guard := some (7, false) }) (v := ?_) rfl (by kernel_rfl) (by kernel_rfl) (by kernel_rfl) (fun _ _ _ h => h) (Or.inl ⟨by kernel_rfl, ?_⟩) (by assumption) ?_
                    rotate_left
                    · intro w hSw; (try dsimp only at hSw); go_simp; try with_reducible rfl
                    simp only [Act.put, List.setIfInBounds_toArray, List.set_cons_zero, List.set_cons_succ]
                    refine wpAnyH_take (i := 15) (oi := { dst := some 42, op := Go.Op.pick (Go.Operand.tmp 34) (Go.Operand.const (Go.Value.bool true)) (Go.Operand.tmp 41), type := 4, pos := "l04_graph.go:21", after := #[{ on := 7, ground := Go.Ground.data }, { on := 14, ground := Go.Ground.data }], guard := none }) (v := ?_) rfl (by kernel_rfl) (by kernel_rfl) (by kernel_rfl) (fun _ _ _ h => h) (Or.inl ⟨by kernel_rfl, ?_⟩) (by assumption) ?_
                    rotate_left
                    · intro w hSw; (try dsimp only at hSw); go_simp; try with_reducible rfl
                    simp only [Act.put, List.setIfInBounds_toArray, List.set_cons_zero, List.set_cons_succ]
                    refine wpAnyH_take (i := 16) (oi := { dst := some 43, op := Go.Op.move (Go.Operand.tmp 42), type := 4, pos := "l04_graph.go:21", after := #[{ on := 15, ground := Go.Ground.data }, { on := 13, ground := Go.Ground.chain }], guard := none }) (v := ?_) rfl (by kernel_rfl) (by kernel_rfl) (by kernel_rfl) (fun _ _ _ h => h) (Or.inl ⟨by kernel_rfl, ?_⟩) (by assumption) ?_
                    rotate_left
                    · intro w hSw; (try dsimp only at hSw); go_simp; try with_reducible rfl
                    simp only [Act.put, List.setIfInBounds_toArray, List.set_cons_zero, List.set_cons_succ]
                    refine wpAnyH_take (i := 17) (oi := { dst := some 44, op := Go.Op.fieldAddr 99 (Go.Operand.tmp 4) 1, type := 0, pos := "l04_graph.go:21", after := #[{ on := 16, ground := Go.Ground.guard }], guard := some (16, false) }) (v := ?_) rfl (by kernel_rfl) (by kernel_rfl) (by kernel_rfl) (fun _ _ _ h => h) (Or.inl ⟨by kernel_rfl, ?_⟩) (by assumption) ?_
                    rotate_left
                    · intro w hSw; (try dsimp only at hSw); go_simp; try with_reducible rfl
                    simp only [Act.put, List.setIfInBounds_toArray, List.set_cons_zero, List.set_cons_succ]
                    refine wpAnyH_take (i := 18) (oi := { dst := some 45, op := Go.Op.load 5 (Go.Operand.tmp 44), type := 5, pos := "l04_graph.go:21", after := #[{ on := 17, ground := Go.Ground.data }, { on := 16, ground := Go.Ground.guard }], guard := some (16, false) }) (v := ?_) rfl (by kernel_rfl) (by kernel_rfl) (by kernel_rfl) (fun _ _ _ h => h) (Or.inl ⟨by kernel_rfl, ?_⟩) (by assumption) ?_
                    rotate_left
                    · intro w hSw; (try dsimp only at hSw); go_simp; try with_reducible rfl
                    simp only [Act.put, List.setIfInBounds_toArray, List.set_cons_zero, List.set_cons_succ]
                    refine wpAnyH_take (i := 19) (oi := { dst := some 46, op := Go.Op.binOp Go.BinOp.lss 5 (Go.Operand.tmp 45) (Go.Operand.const (Go.Value.int Go.IntKind.u8 97)) 5, type := 4, pos := "l04_graph.go:21", after := #[{ on := 18, ground := Go.Ground.data }, { on := 16, ground := Go.Ground.guard }], guard := some (16, false) }) (v := ?_) rfl (by kernel_rfl) (by kernel_rfl) (by kernel_rfl) (fun _ _ _ h => h) (Or.inl ⟨by kernel_rfl, ?_⟩) (by assumption) ?_
                    rotate_left
                    · intro w hSw; (try dsimp only at hSw); go_simp; try with_reducible rfl
                    simp only [Act.put, List.setIfInBounds_toArray, List.set_cons_zero, List.set_cons_succ]
                    refine wpAnyH_take (i := 20) (oi := { dst := some 47, op := Go.Op.pick (Go.Operand.tmp 43) (Go.Operand.const (Go.Value.bool true)) (Go.Operand.tmp 46), type := 4, pos := "l04_graph.go:21", after := #[{ on := 16, ground := Go.Ground.data }, { on := 19, ground := Go.Ground.data }], guard := none }) (v := ?_) rfl (by kernel_rfl) (by kernel_rfl) (by kernel_rfl) (fun _ _ _ h => h) (Or.inl ⟨by kernel_rfl, ?_⟩) (by assumption) ?_
                    rotate_left
                    · intro w hSw; (try dsimp only at hSw); go_simp; try with_reducible rfl
                    simp only [Act.put, List.setIfInBounds_toArray, List.set_cons_zero, List.set_cons_succ]
                    refine wpAnyH_take (i := 21) (oi := { dst := some 48, op := Go.Op.move (Go.Operand.tmp 47), type := 4, pos := "l04_graph.go:21", after := #[{ on := 20, ground := Go.Ground.data }, { on := 16, ground := Go.Ground.chain }], guard := none }) (v := ?_) rfl (by kernel_rfl) (by kernel_rfl) (by kernel_rfl) (fun _ _ _ h => h) (Or.inl ⟨by kernel_rfl, ?_⟩) (by assumption) ?_
                    rotate_left
                    · intro w hSw; (try dsimp only at hSw); go_simp; try with_reducible rfl
                    simp only [Act.put, List.setIfInBounds_toArray, List.set_cons_zero, List.set_cons_succ]
                    refine wpAnyH_take (i := 22) (oi := { dst := some 49, op := Go.Op.fieldAddr 99 (Go.Operand.tmp 4) 1, type := 0, pos := "l04_graph.go:21", after := #[{ on := 21, ground := Go.Ground.guard }], guard := some (21, false) }) (v := undef) rfl (by kernel_rfl) (by kernel_rfl) (by kernel_rfl) (fun _ _ _ h => h) (Or.inr ⟨by kernel_rfl, rfl⟩) (by assumption) ?_
                    simp only [Act.put, List.setIfInBounds_toArray, List.set_cons_zero, List.set_cons_succ]
                    refine wpAnyH_take (i := 23) (oi := { dst := some 50, op := Go.Op.load 5 (Go.Operand.tmp 49), type := 5, pos := "l04_graph.go:21", after := #[{ on := 22, ground := Go.Ground.data }, { on := 21, ground := Go.Ground.guard }], guard := some (21, false) }) (v := undef) rfl (by kernel_rfl) (by kernel_rfl) (by kernel_rfl) (fun _ _ _ h => h) (Or.inr ⟨by kernel_rfl, rfl⟩) (by assumption) ?_
                    simp only [Act.put, List.setIfInBounds_toArray, List.set_cons_zero, List.set_cons_succ]
                    refine wpAnyH_take (i := 24) (oi := { dst := some 51, op := Go.Op.binOp Go.BinOp.gtr 5 (Go.Operand.tmp 50) (Go.Operand.const (Go.Value.int Go.IntKind.u8 100)) 5, type := 4, pos := "l04_graph.go:21", after := #[{ on := 23, ground := Go.Ground.data }, { on := 21, ground := Go.Ground.guard }], guard := some (21, false) }) (v := undef) rfl (by kernel_rfl) (by kernel_rfl) (by kernel_rfl) (fun _ _ _ h => h) (Or.inr ⟨by kernel_rfl, rfl⟩) (by assumption) ?_
                    simp only [Act.put, List.setIfInBounds_toArray, List.set_cons_zero, List.set_cons_succ]
                    refine wpAnyH_take (i := 25) (oi := { dst := some 52, op := Go.Op.pick (Go.Operand.tmp 48) (Go.Operand.const (Go.Value.bool true)) (Go.Operand.tmp 51), type := 4, pos := "l04_graph.go:21", after := #[{ on := 21, ground := Go.Ground.data }, { on := 24, ground := Go.Ground.data }], guard := none }) (v := ?_) rfl (by kernel_rfl) (by kernel_rfl) (by kernel_rfl) (fun _ _ _ h => h) (Or.inl ⟨by kernel_rfl, ?_⟩) (by assumption) ?_
                    rotate_left
                    · intro w hSw; (try dsimp only at hSw); go_simp; try with_reducible rfl
                    simp only [Act.put, List.setIfInBounds_toArray, List.set_cons_zero, List.set_cons_succ]
                    refine wpAnyH_take (i := 26) (oi := { dst := some 53, op := Go.Op.move (Go.Operand.tmp 52), type := 4, pos := "l04_graph.go:21", after := #[{ on := 25, ground := Go.Ground.data }, { on := 21, ground := Go.Ground.chain }], guard := none }) (v := ?_) rfl (by kernel_rfl) (by kernel_rfl) (by kernel_rfl) (fun _ _ _ h => h) (Or.inl ⟨by kernel_rfl, ?_⟩) (by assumption) ?_
                    rotate_left
                    · intro w hSw; (try dsimp only at hSw); go_simp; try with_reducible rfl
                    simp only [Act.put, List.setIfInBounds_toArray, List.set_cons_zero, List.set_cons_succ]
                    refine wpAnyH_take (i := 27) (oi := { dst := some 54, op := Go.Op.move (Go.Operand.tmp 3), type := 3, pos := "l04_graph.go:21", after := #[{ on := 26, ground := Go.Ground.guard }], guard := some (26, false) }) (v := undef) rfl (by kernel_rfl) (by kernel_rfl) (by kernel_rfl) (fun _ _ _ h => h) (Or.inr ⟨by kernel_rfl, rfl⟩) (by assumption) ?_
                    simp only [Act.put, List.setIfInBounds_toArray, List.set_cons_zero, List.set_cons_succ]
                    refine wpAnyH_take (i := 28) (oi := { dst := some 55, op := Go.Op.binOp Go.BinOp.gtr 3 (Go.Operand.tmp 54) (Go.Operand.const (Go.Value.int Go.IntKind.i64 0)) 3, type := 4, pos := "l04_graph.go:21", after := #[{ on := 27, ground := Go.Ground.data }, { on := 26, ground := Go.Ground.guard }], guard := some (26, false) }) (v := undef) rfl (by kernel_rfl) (by kernel_rfl) (by kernel_rfl) (fun _ _ _ h => h) (Or.inr ⟨by kernel_rfl, rfl⟩) (by assumption) ?_
                    simp only [Act.put, List.setIfInBounds_toArray, List.set_cons_zero, List.set_cons_succ]
                    refine wpAnyH_take (i := 29) (oi := { dst := some 56, op := Go.Op.move (Go.Operand.tmp 55), type := 4, pos := "l04_graph.go:21", after := #[{ on := 28, ground := Go.Ground.data }, { on := 26, ground := Go.Ground.chain }, { on := 26, ground := Go.Ground.guard }], guard := some (26, false) }) (v := undef) rfl (by kernel_rfl) (by kernel_rfl) (by kernel_rfl) (fun _ _ _ h => h) (Or.inr ⟨by kernel_rfl, rfl⟩) (by assumption) ?_
                    simp only [Act.put, List.setIfInBounds_toArray, List.set_cons_zero, List.set_cons_succ]
                    refine wpAnyH_take (i := 30) (oi := { dst := some 57, op := Go.Op.fieldAddr 26 (Go.Operand.tmp 1) 1, type := 0, pos := "l04_graph.go:21", after := #[{ on := 29, ground := Go.Ground.guard }], guard := some (29, true) }) (v := undef) rfl (by kernel_rfl) (by kernel_rfl) (by kernel_rfl) (fun _ _ _ h => h) (Or.inr ⟨by kernel_rfl, rfl⟩) (by assumption) ?_
                    simp only [Act.put, List.setIfInBounds_toArray, List.set_cons_zero, List.set_cons_succ]
                    refine wpAnyH_take (i := 31) (oi := { dst := some 58, op := Go.Op.load 24 (Go.Operand.tmp 57), type := 24, pos := "l04_graph.go:21", after := #[{ on := 30, ground := Go.Ground.data }, { on := 29, ground := Go.Ground.guard }], guard := some (29, true) }) (v := undef) rfl (by kernel_rfl) (by kernel_rfl) (by kernel_rfl) (fun _ _ _ h => h) (Or.inr ⟨by kernel_rfl, rfl⟩) (by assumption) ?_
                    simp only [Act.put, List.setIfInBounds_toArray, List.set_cons_zero, List.set_cons_succ]
                    refine wpAnyH_take (i := 32) (oi := { dst := some 59, op := Go.Op.move (Go.Operand.tmp 3), type := 3, pos := "l04_graph.go:21", after := #[{ on := 29, ground := Go.Ground.guard }], guard := some (29, true) }) (v := undef) rfl (by kernel_rfl) (by kernel_rfl) (by kernel_rfl) (fun _ _ _ h => h) (Or.inr ⟨by kernel_rfl, rfl⟩) (by assumption) ?_
                    simp only [Act.put, List.setIfInBounds_toArray, List.set_cons_zero, List.set_cons_succ]
                    refine wpAnyH_take (i := 33) (oi := { dst := some 60, op := Go.Op.binOp Go.BinOp.sub 3 (Go.Operand.tmp 59) (Go.Operand.const (Go.Value.int Go.IntKind.i64 1)) 3, type := 3, pos := "l04_graph.go:21", after := #[{ on := 32, ground := Go.Ground.data }, { on := 29, ground := Go.Ground.guard }], guard := some (29, true) }) (v := undef) rfl (by kernel_rfl) (by kernel_rfl) (by kernel_rfl) (fun _ _ _ h => h) (Or.inr ⟨by kernel_rfl, rfl⟩) (by assumption) ?_
                    simp only [Act.put, List.setIfInBounds_toArray, List.set_cons_zero, List.set_cons_succ]
                    refine wpAnyH_take (i := 34) (oi := { dst := some 61, op := Go.Op.indexAddr 24 (Go.Operand.tmp 58) (Go.Operand.tmp 60), type := 0, pos := "l04_graph.go:21", after := #[{ on := 31, ground := Go.Ground.data }, { on := 33, ground := Go.Ground.data }, { on := 29, ground := Go.Ground.guard }], guard := some (29, true) }) (v := undef) rfl (by kernel_rfl) (by kernel_rfl) (by kernel_rfl) (fun _ _ _ h => h) (Or.inr ⟨by kernel_rfl, rfl⟩) (by assumption) ?_
                    simp only [Act.put, List.setIfInBounds_toArray, List.set_cons_zero, List.set_cons_succ]
                    refine wpAnyH_take (i := 35) (oi := { dst := some 62, op := Go.Op.load 99 (Go.Operand.tmp 61), type := 99, pos := "l04_graph.go:21", after := #[{ on := 34, ground := Go.Ground.data }, { on := 29, ground := Go.Ground.guard }], guard := some (29, true) }) (v := undef) rfl (by kernel_rfl) (by kernel_rfl) (by kernel_rfl) (fun _ _ _ h => h) (Or.inr ⟨by kernel_rfl, rfl⟩) (by assumption) ?_
                    simp only [Act.put, List.setIfInBounds_toArray, List.set_cons_zero, List.set_cons_succ]
                    refine wpAnyH_take (i := 36) (oi := { dst := some 63, op := Go.Op.load 99 (Go.Operand.tmp 4), type := 99, pos := "l04_graph.go:21", after := #[{ on := 29, ground := Go.Ground.guard }], guard := some (29, true) }) (v := undef) rfl (by kernel_rfl) (by kernel_rfl) (by kernel_rfl) (fun _ _ _ h => h) (Or.inr ⟨by kernel_rfl, rfl⟩) (by assumption) ?_
                    simp only [Act.put, List.setIfInBounds_toArray, List.set_cons_zero, List.set_cons_succ]
                    refine wpAnyH_ready (rs := [37]) (by kernel_rfl) (by simp) ?_
                    refine AllReadyH.cons (o := { dst := some 64, op := Go.Op.call { callee := Go.Callee.value (Go.Operand.func 66), args := #[Go.Operand.tmp 62, Go.Operand.tmp 63], argTypes := #[99, 99] }, type := 4, pos := "l04_graph.go:21", after := #[{ on := 35, ground := Go.Ground.data }, { on := 36, ground := Go.Ground.data }, { on := 29, ground := Go.Ground.chain }, { on := 29, ground := Go.Ground.guard }], guard := some (29, true) }) rfl (fun K hK => ?_) ?_
                    · rw [if_neg (by refine Bool.eq_false_iff.1 ?_; kernel_rfl)]
                      refine hK.out _ _ hHeld (fun hHeld => ?_)
                      clear hK K
                      try simp only [Act.put, List.setIfInBounds_toArray, List.set_cons_zero, List.set_cons_succ]
                      refine wpAnyH_take (i := 38) (oi := { dst := some 65, op := Go.Op.unOp Go.UnOp.not 4 (Go.Operand.tmp 64), type := 4, pos := "l04_graph.go:21", after := #[{ on := 37, ground := Go.Ground.data }, { on := 29, ground := Go.Ground.guard }], guard := some (29, true) }) (v := undef) rfl (by kernel_rfl) (by kernel_rfl) (by kernel_rfl) (fun _ _ _ h => h) (Or.inr ⟨by kernel_rfl, rfl⟩) (by assumption) ?_
                      simp only [Act.put, List.setIfInBounds_toArray, List.set_cons_zero, List.set_cons_succ]
                      refine wpAnyH_take (i := 39) (oi := { dst := some 66, op := Go.Op.pick (Go.Operand.tmp 56) (Go.Operand.tmp 65) (Go.Operand.const (Go.Value.bool false)), type := 4, pos := "l04_graph.go:21", after := #[{ on := 29, ground := Go.Ground.data }, { on := 38, ground := Go.Ground.data }, { on := 26, ground := Go.Ground.guard }], guard := some (26, false) }) (v := undef) rfl (by kernel_rfl) (by kernel_rfl) (by kernel_rfl) (fun _ _ _ h => h) (Or.inr ⟨by kernel_rfl, rfl⟩) (by assumption) ?_
                      simp only [Act.put, List.setIfInBounds_toArray, List.set_cons_zero, List.set_cons_succ]
                      refine wpAnyH_take (i := 40) (oi := { dst := some 67, op := Go.Op.pick (Go.Operand.tmp 53) (Go.Operand.const (Go.Value.bool true)) (Go.Operand.tmp 66), type := 4, pos := "l04_graph.go:21", after := #[{ on := 26, ground := Go.Ground.data }, { on := 39, ground := Go.Ground.data }], guard := none }) (v := ?_) rfl (by kernel_rfl) (by kernel_rfl) (by kernel_rfl) (fun _ _ _ h => h) (Or.inl ⟨by kernel_rfl, ?_⟩) (by assumption) ?_
                      rotate_left
                      · intro w hSw; (try dsimp only at hSw); go_simp; try with_reducible rfl
                      simp only [Act.put, List.setIfInBounds_toArray, List.set_cons_zero, List.set_cons_succ]
                      refine wpAnyH_done (by kernel_rfl) ?_ _
                      clear hHeld
                      go_wp2
                      go_ret
                      refine ⟨?_, HLW.out.drew⟩
                      have : r = false := by rw [HR.out]; exact okG_no (k := k) (by rw [HN.out]; exact hlt) (okGAt_no HOE.out)
                      rw [this]; rfl
                    exact AllReadyH.nil
                  exact AllReadyH.nil
                exact AllReadyH.nil
            · subst hv
              rw [Bool.and_false, Bool.false_and, Bool.false_and] at HOE
              have HKS : Hid (∀ w', Below W.heap.size W w' → ((w'.cell? ⟨w.heap.size, 0, none⟩ = some (.int .i64 s) ∧ w'.cell? ⟨w.heap.size, 1, none⟩ = some (.slice (some ⟨b, o, none⟩) n cap)) ∧ (w'.cell? ⟨wr.heap.size, 0, none⟩ = some (.int .i64 x0) ∧ w'.cell? ⟨wr.heap.size, 1, none⟩ = some (.int .u8 x1) ∧ w'.cell? ⟨wr.heap.size, 2, none⟩ = some (.int .i64 x2)))) := fun w' h => ⟨⟨cell_below g0 h (lt_of_cell g0), cell_below g1 h (lt_of_cell g1)⟩, ⟨cell_below e0 h (lt_of_cell e0), cell_below e1 h (lt_of_cell e1), cell_below e2 h (lt_of_cell e2)⟩⟩
              refine wp_region_held_drew (S := fun w' => (w'.cell? ⟨w.heap.size, 0, none⟩ = some (.int .i64 s) ∧ w'.cell? ⟨w.heap.size, 1, none⟩ = some (.slice (some ⟨b, o, none⟩) n cap)) ∧ (w'.cell? ⟨wr.heap.size, 0, none⟩ = some (.int .i64 x0) ∧ w'.cell? ⟨wr.heap.size, 1, none⟩ = some (.int .u8 x1) ∧ w'.cell? ⟨wr.heap.size, 2, none⟩ = some (.int .i64 x2))) (by kernel_rfl) (HKS.out _ ((Below.refl _ _).drew)) (fun hHeld => ?_)
              refine wpAnyH_take (i := 0) (oi := { dst := some 27, op := Go.Op.fieldAddr 99 (Go.Operand.tmp 4) 0, type := 0, pos := "l04_graph.go:21", after := #[], guard := none }) (v := ?_) rfl (by kernel_rfl) (by kernel_rfl) (by kernel_rfl) (fun _ _ _ h => h) (Or.inl ⟨by kernel_rfl, ?_⟩) (by assumption) ?_
              rotate_left
              · intro w hSw; (try dsimp only at hSw); go_simp; try with_reducible rfl
              simp only [Act.put, List.setIfInBounds_toArray, List.set_cons_zero, List.set_cons_succ]
              refine wpAnyH_take (i := 1) (oi := { dst := some 28, op := Go.Op.load 3 (Go.Operand.tmp 27), type := 3, pos := "l04_graph.go:21", after := #[{ on := 0, ground := Go.Ground.data }], guard := none }) (v := ?_) rfl (by kernel_rfl) (by kernel_rfl) (by kernel_rfl) (fun _ _ _ h => h) (Or.inl ⟨by kernel_rfl, ?_⟩) (by assumption) ?_
              rotate_left
              · intro w hSw; (try dsimp only at hSw); go_simp; try with_reducible rfl
              simp only [Act.put, List.setIfInBounds_toArray, List.set_cons_zero, List.set_cons_succ]
              refine wpAnyH_take (i := 2) (oi := { dst := some 29, op := Go.Op.fieldAddr 26 (Go.Operand.tmp 1) 0, type := 0, pos := "l04_graph.go:21", after := #[], guard := none }) (v := ?_) rfl (by kernel_rfl) (by kernel_rfl) (by kernel_rfl) (fun _ _ _ h => h) (Or.inl ⟨by kernel_rfl, ?_⟩) (by assumption) ?_
              rotate_left
              · intro w hSw; (try dsimp only at hSw); go_simp; try with_reducible rfl
              simp only [Act.put, List.setIfInBounds_toArray, List.set_cons_zero, List.set_cons_succ]
              refine wpAnyH_take (i := 3) (oi := { dst := some 30, op := Go.Op.load 3 (Go.Operand.tmp 29), type := 3, pos := "l04_graph.go:21", after := #[{ on := 2, ground := Go.Ground.data }], guard := none }) (v := ?_) rfl (by kernel_rfl) (by kernel_rfl) (by kernel_rfl) (fun _ _ _ h => h) (Or.inl ⟨by kernel_rfl, ?_⟩) (by assumption) ?_
              rotate_left
              · intro w hSw; (try dsimp only at hSw); go_simp; try with_reducible rfl
              simp only [Act.put, List.setIfInBounds_toArray, List.set_cons_zero, List.set_cons_succ]
              refine wpAnyH_take (i := 4) (oi := { dst := some 31, op := Go.Op.binOp Go.BinOp.sub 3 (Go.Operand.tmp 30) (Go.Operand.const (Go.Value.int Go.IntKind.i64 1)) 3, type := 3, pos := "l04_graph.go:21", after := #[{ on := 3, ground := Go.Ground.data }], guard := none }) (v := ?_) rfl (by kernel_rfl) (by kernel_rfl) (by kernel_rfl) (fun _ _ _ h => h) (Or.inl ⟨by kernel_rfl, ?_⟩) (by assumption) ?_
              rotate_left
              · intro w hSw; (try dsimp only at hSw); go_simp; try with_reducible rfl
              simp only [Act.put, List.setIfInBounds_toArray, List.set_cons_zero, List.set_cons_succ]
              refine wpAnyH_ready (rs := [5]) (by kernel_rfl) (by simp) ?_
              refine AllReadyH.cons (o := { dst := some 32, op := Go.Op.call { callee := Go.Callee.value (Go.Operand.func 46), args := #[Go.Operand.tmp 28, Go.Operand.const (Go.Value.int Go.IntKind.i64 0), Go.Operand.tmp 31], argTypes := #[3, 3, 3] }, type := 4, pos := "l04_graph.go:21", after := #[{ on := 1, ground := Go.Ground.data }, { on := 4, ground := Go.Ground.data }], guard := none }) rfl (fun K hK => ?_) ?_
              · go_simp
                go_wp2_with (go_at_call 46; refine (HC0.out _).mono ?_; rintro e w1 ⟨rfl, rfl⟩)
                refine hK.out _ _ hHeld (fun hHeld => ?_)
                clear hK K
                try simp only [Act.put, List.setIfInBounds_toArray, List.set_cons_zero, List.set_cons_succ]
                refine wpAnyH_take (i := 6) (oi := { dst := some 33, op := Go.Op.unOp Go.UnOp.not 4 (Go.Operand.tmp 32), type := 4, pos := "l04_graph.go:21", after := #[{ on := 5, ground := Go.Ground.data }], guard := none }) (v := ?_) rfl (by kernel_rfl) (by kernel_rfl) (by kernel_rfl) (fun _ _ _ h => h) (Or.inl ⟨by kernel_rfl, ?_⟩) (by assumption) ?_
                rotate_left
                · intro w hSw; (try dsimp only at hSw); go_simp; try with_reducible rfl
                simp only [Act.put, List.setIfInBounds_toArray, List.set_cons_zero, List.set_cons_succ]
                refine wpAnyH_take (i := 7) (oi := { dst := some 34, op := Go.Op.move (Go.Operand.tmp 33), type := 4, pos := "l04_graph.go:21", after := #[{ on := 6, ground := Go.Ground.data }, { on := 5, ground := Go.Ground.chain }], guard := none }) (v := ?_) rfl (by kernel_rfl) (by kernel_rfl) (by kernel_rfl) (fun _ _ _ h => h) (Or.inl ⟨by kernel_rfl, ?_⟩) (by assumption) ?_
                rotate_left
                · intro w hSw; (try dsimp only at hSw); go_simp; try with_reducible rfl
                simp only [Act.put, List.setIfInBounds_toArray, List.set_cons_zero, List.set_cons_succ]
                refine wpAnyH_take (i := 8) (oi := { dst := some 35, op := Go.Op.fieldAddr 99 (Go.Operand.tmp 4) 2, type := 0, pos := "l04_graph.go:21", after := #[{ on := 7, ground := Go.Ground.guard }], guard := some (7, false) }) (v := ?_) rfl (by kernel_rfl) (by kernel_rfl) (by kernel_rfl) (fun _ _ _ h => h) (Or.inl ⟨by kernel_rfl, ?_⟩) (by assumption) ?_
                rotate_left
                · intro w hSw; (try dsimp only at hSw); go_simp; try with_reducible rfl
                simp only [Act.put, List.setIfInBounds_toArray, List.set_cons_zero, List.set_cons_succ]
                refine wpAnyH_take (i := 9) (oi := { dst := some 36, op := Go.Op.load 3 (Go.Operand.tmp 35), type := 3, pos := "l04_graph.go:21", after := #[{ on := 8, ground := Go.Ground.data }, { on := 7, ground := Go.Ground.guard }], guard := some (7, false) }) (v := ?_) rfl (by kernel_rfl) (by kernel_rfl) (by kernel_rfl) (fun _ _ _ h => h) (Or.inl ⟨by kernel_rfl, ?_⟩) (by assumption) ?_
                rotate_left
                · intro w hSw; (try dsimp only at hSw); go_simp; try with_reducible rfl
                simp only [Act.put, List.setIfInBounds_toArray, List.set_cons_zero, List.set_cons_succ]
                refine wpAnyH_take (i := 10) (oi := { dst := some 37, op := Go.Op.fieldAddr 26 (Go.Operand.tmp 1) 0, type := 0, pos := "l04_graph.go:21", after := #[{ on := 7, ground := Go.Ground.guard }], guard := some (7, false) }) (v := ?_) rfl (by kernel_rfl) (by kernel_rfl) (by kernel_rfl) (fun _ _ _ h => h) (Or.inl ⟨by kernel_rfl, ?_⟩) (by assumption) ?_
                rotate_left
                · intro w hSw; (try dsimp only at hSw); go_simp; try with_reducible rfl
                simp only [Act.put, List.setIfInBounds_toArray, List.set_cons_zero, List.set_cons_succ]
                refine wpAnyH_take (i := 11) (oi := { dst := some 38, op := Go.Op.load 3 (Go.Operand.tmp 37), type := 3, pos := "l04_graph.go:21", after := #[{ on := 10, ground := Go.Ground.data }, { on := 7, ground := Go.Ground.guard }], guard := some (7, false) }) (v := ?_) rfl (by kernel_rfl) (by kernel_rfl) (by kernel_rfl) (fun _ _ _ h => h) (Or.inl ⟨by kernel_rfl, ?_⟩) (by assumption) ?_
                rotate_left
                · intro w hSw; (try dsimp only at hSw); go_simp; try with_reducible rfl
                simp only [Act.put, List.setIfInBounds_toArray, List.set_cons_zero, List.set_cons_succ]
                refine wpAnyH_take (i := 12) (oi := { dst := some 39, op := Go.Op.binOp Go.BinOp.sub 3 (Go.Operand.tmp 38) (Go.Operand.const (Go.Value.int Go.IntKind.i64 1)) 3, type := 3, pos := "l04_graph.go:21", after := #[{ on := 11, ground := Go.Ground.data }, { on := 7, ground := Go.Ground.guard }], guard := some (7, false) }) (v := ?_) rfl (by kernel_rfl) (by kernel_rfl) (by kernel_rfl) (fun _ _ _ h => h) (Or.inl ⟨by kernel_rfl, ?_⟩) (by assumption) ?_
                rotate_left
                · intro w hSw; (try dsimp only at hSw); go_simp; try with_reducible rfl
                simp only [Act.put, List.setIfInBounds_toArray, List.set_cons_zero, List.set_cons_succ]
                refine wpAnyH_ready (rs := [13]) (by kernel_rfl) (by simp) ?_
                refine AllReadyH.cons (o := { dst := some 40, op := Go.Op.call { callee := Go.Callee.value (Go.Operand.func 46), args := #[Go.Operand.tmp 36, Go.Operand.const (Go.Value.int Go.IntKind.i64 0), Go.Operand.tmp 39], argTypes := #[3, 3, 3] }, type := 4, pos := "l04_graph.go:21", after := #[{ on := 9, ground := Go.Ground.data }, { on := 12, ground := Go.Ground.data }, { on := 7, ground := Go.Ground.chain }, { on := 7, ground := Go.Ground.guard }], guard := some (7, false) }) rfl (fun K hK => ?_) ?_
                · go_simp
                  go_wp2_with (go_at_call 46; refine (HC1.out _).mono ?_; rintro e w1 ⟨rfl, rfl⟩)
                  refine hK.out _ _ hHeld (fun hHeld => ?_)
                  clear hK K
                  try simp only [Act.put, List.setIfInBounds_toArray, List.set_cons_zero, List.set_cons_succ]
                  refine wpAnyH_take (i := 14) (oi := { dst := some 41, op := Go.Op.unOp Go.UnOp.not 4 (Go.Operand.tmp 40), type := 4, pos := "l04_graph.go:21", after := #[{ on := 13, ground := Go.Ground.data }, { on := 7, ground := Go.Ground.guard }], guard := some (7, false) }) (v := ?_) rfl (by kernel_rfl) (by kernel_rfl) (by kernel_rfl) (fun _ _ _ h => h) (Or.inl ⟨by kernel_rfl, ?_⟩) (by assumption) ?_
                  rotate_left
                  · intro w hSw; (try dsimp only at hSw); go_simp; try with_reducible rfl
                  simp only [Act.put, List.setIfInBounds_toArray, List.set_cons_zero, List.set_cons_succ]
                  refine wpAnyH_take (i := 15) (oi := { dst := some 42, op := Go.Op.pick (Go.Operand.tmp 34) (Go.Operand.const (Go.Value.bool true)) (Go.Operand.tmp 41), type := 4, pos := "l04_graph.go:21", after := #[{ on := 7, ground := Go.Ground.data }, { on := 14, ground := Go.Ground.data }], guard := none }) (v := ?_) rfl (by kernel_rfl) (by kernel_rfl) (by kernel_rfl) (fun _ _ _ h => h) (Or.inl ⟨by kernel_rfl, ?_⟩) (by assumption) ?_
                  rotate_left
                  · intro w hSw; (try dsimp only at hSw); go_simp; try with_reducible rfl
                  simp only [Act.put, List.setIfInBounds_toArray, List.set_cons_zero, List.set_cons_succ]
                  refine wpAnyH_take (i := 16) (oi := { dst := some 43, op := Go.Op.move (Go.Operand.tmp 42), type := 4, pos := "l04_graph.go:21", after := #[{ on := 15, ground := Go.Ground.data }, { on := 13, ground := Go.Ground.chain }], guard := none }) (v := ?_) rfl (by kernel_rfl) (by kernel_rfl) (by kernel_rfl) (fun _ _ _ h => h) (Or.inl ⟨by kernel_rfl, ?_⟩) (by assumption) ?_
                  rotate_left
                  · intro w hSw; (try dsimp only at hSw); go_simp; try with_reducible rfl
                  simp only [Act.put, List.setIfInBounds_toArray, List.set_cons_zero, List.set_cons_succ]
                  refine wpAnyH_take (i := 17) (oi := { dst := some 44, op := Go.Op.fieldAddr 99 (Go.Operand.tmp 4) 1, type := 0, pos := "l04_graph.go:21", after := #[{ on := 16, ground := Go.Ground.guard }], guard := some (16, false) }) (v := undef) rfl (by kernel_rfl) (by kernel_rfl) (by kernel_rfl) (fun _ _ _ h => h) (Or.inr ⟨by kernel_rfl, rfl⟩) (by assumption) ?_
                  simp only [Act.put, List.setIfInBounds_toArray, List.set_cons_zero, List.set_cons_succ]
                  refine wpAnyH_take (i := 18) (oi := { dst := some 45, op := Go.Op.load 5 (Go.Operand.tmp 44), type := 5, pos := "l04_graph.go:21", after := #[{ on := 17, ground := Go.Ground.data }, { on := 16, ground := Go.Ground.guard }], guard := some (16, false) }) (v := undef) rfl (by kernel_rfl) (by kernel_rfl) (by kernel_rfl) (fun _ _ _ h => h) (Or.inr ⟨by kernel_rfl, rfl⟩) (by assumption) ?_
                  simp only [Act.put, List.setIfInBounds_toArray, List.set_cons_zero, List.set_cons_succ]
                  refine wpAnyH_take (i := 19) (oi := { dst := some 46, op := Go.Op.binOp Go.BinOp.lss 5 (Go.Operand.tmp 45) (Go.Operand.const (Go.Value.int Go.IntKind.u8 97)) 5, type := 4, pos := "l04_graph.go:21", after := #[{ on := 18, ground := Go.Ground.data }, { on := 16, ground := Go.Ground.guard }], guard := some (16, false) }) (v := undef) rfl (by kernel_rfl) (by kernel_rfl) (by kernel_rfl) (fun _ _ _ h => h) (Or.inr ⟨by kernel_rfl, rfl⟩) (by assumption) ?_
                  simp only [Act.put, List.setIfInBounds_toArray, List.set_cons_zero, List.set_cons_succ]
                  refine wpAnyH_take (i := 20) (oi := { dst := some 47, op := Go.Op.pick (Go.Operand.tmp 43) (Go.Operand.const (Go.Value.bool true)) (Go.Operand.tmp 46), type := 4, pos := "l04_graph.go:21", after := #[{ on := 16, ground := Go.Ground.data }, { on := 19, ground := Go.Ground.data }], guard := none }) (v := ?_) rfl (by kernel_rfl) (by kernel_rfl) (by kernel_rfl) (fun _ _ _ h => h) (Or.inl ⟨by kernel_rfl, ?_⟩) (by assumption) ?_
                  rotate_left
                  · intro w hSw; (try dsimp only at hSw); go_simp; try with_reducible rfl
                  simp only [Act.put, List.setIfInBounds_toArray, List.set_cons_zero, List.set_cons_succ]
                  refine wpAnyH_take (i := 21) (oi := { dst := some 48, op := Go.Op.move (Go.Operand.tmp 47), type := 4, pos := "l04_graph.go:21", after := #[{ on := 20, ground := Go.Ground.data }, { on := 16, ground := Go.Ground.chain }], guard := none }) (v := ?_) rfl (by kernel_rfl) (by kernel_rfl) (by kernel_rfl) (fun _ _ _ h => h) (Or.inl ⟨by kernel_rfl, ?_⟩) (by assumption) ?_
                  rotate_left
                  · intro w hSw; (try dsimp only at hSw); go_simp; try with_reducible rfl
                  simp only [Act.put, List.setIfInBounds_toArray, List.set_cons_zero, List.set_cons_succ]
                  refine wpAnyH_take (i := 22) (oi := { dst := some 49, op := Go.Op.fieldAddr 99 (Go.Operand.tmp 4) 1, type := 0, pos := "l04_graph.go:21", after := #[{ on := 21, ground := Go.Ground.guard }], guard := some (21, false) }) (v := undef) rfl (by kernel_rfl) (by kernel_rfl) (by kernel_rfl) (fun _ _ _ h => h) (Or.inr ⟨by kernel_rfl, rfl⟩) (by assumption) ?_
                  simp only [Act.put, List.setIfInBounds_toArray, List.set_cons_zero, List.set_cons_succ]
                  refine wpAnyH_take (i := 23) (oi := { dst := some 50, op := Go.Op.load 5 (Go.Operand.tmp 49), type := 5, pos := "l04_graph.go:21", after := #[{ on := 22, ground := Go.Ground.data }, { on := 21, ground := Go.Ground.guard }], guard := some (21, false) }) (v := undef) rfl (by kernel_rfl) (by kernel_rfl) (by kernel_rfl) (fun _ _ _ h => h) (Or.inr ⟨by kernel_rfl, rfl⟩) (by assumption) ?_
                  simp only [Act.put, List.setIfInBounds_toArray, List.set_cons_zero, List.set_cons_succ]
                  refine wpAnyH_take (i := 24) (oi := { dst := some 51, op := Go.Op.binOp Go.BinOp.gtr 5 (Go.Operand.tmp 50) (Go.Operand.const (Go.Value.int Go.IntKind.u8 100)) 5, type := 4, pos := "l04_graph.go:21", after := #[{ on := 23, ground := Go.Ground.data }, { on := 21, ground := Go.Ground.guard }], guard := some (21, false) }) (v := undef) rfl (by kernel_rfl) (by kernel_rfl) (by kernel_rfl) (fun _ _ _ h => h) (Or.inr ⟨by kernel_rfl, rfl⟩) (by assumption) ?_
                  simp only [Act.put, List.setIfInBounds_toArray, List.set_cons_zero, List.set_cons_succ]
                  refine wpAnyH_take (i := 25) (oi := { dst := some 52, op := Go.Op.pick (Go.Operand.tmp 48) (Go.Operand.const (Go.Value.bool true)) (Go.Operand.tmp 51), type := 4, pos := "l04_graph.go:21", after := #[{ on := 21, ground := Go.Ground.data }, { on := 24, ground := Go.Ground.data }], guard := none }) (v := ?_) rfl (by kernel_rfl) (by kernel_rfl) (by kernel_rfl) (fun _ _ _ h => h) (Or.inl ⟨by kernel_rfl, ?_⟩) (by assumption) ?_
                  rotate_left
                  · intro w hSw; (try dsimp only at hSw); go_simp; try with_reducible rfl
                  simp only [Act.put, List.setIfInBounds_toArray, List.set_cons_zero, List.set_cons_succ]
                  refine wpAnyH_take (i := 26) (oi := { dst := some 53, op := Go.Op.move (Go.Operand.tmp 52), type := 4, pos := "l04_graph.go:21", after := #[{ on := 25, ground := Go.Ground.data }, { on := 21, ground := Go.Ground.chain }], guard := none }) (v := ?_) rfl (by kernel_rfl) (by kernel_rfl) (by kernel_rfl) (fun _ _ _ h => h) (Or.inl ⟨by kernel_rfl, ?_⟩) (by assumption) ?_
                  rotate_left
                  · intro w hSw; (try dsimp only at hSw); go_simp; try with_reducible rfl
                  simp only [Act.put, List.setIfInBounds_toArray, List.set_cons_zero, List.set_cons_succ]
                  refine wpAnyH_take (i := 27) (oi := { dst := some 54, op := Go.Op.move (Go.Operand.tmp 3), type := 3, pos := "l04_graph.go:21", after := #[{ on := 26, ground := Go.Ground.guard }], guard := some (26, false) }) (v := undef) rfl (by kernel_rfl) (by kernel_rfl) (by kernel_rfl) (fun _ _ _ h => h) (Or.inr ⟨by kernel_rfl, rfl⟩) (by assumption) ?_
                  simp only [Act.put, List.setIfInBounds_toArray, List.set_cons_zero, List.set_cons_succ]
                  refine wpAnyH_take (i := 28) (oi := { dst := some 55, op := Go.Op.binOp Go.BinOp.gtr 3 (Go.Operand.tmp 54) (Go.Operand.const (Go.Value.int Go.IntKind.i64 0)) 3, type := 4, pos := "l04_graph.go:21", after := #[{ on := 27, ground := Go.Ground.data }, { on := 26, ground := Go.Ground.guard }], guard := some (26, false) }) (v := undef) rfl (by kernel_rfl) (by kernel_rfl) (by kernel_rfl) (fun _ _ _ h => h) (Or.inr ⟨by kernel_rfl, rfl⟩) (by assumption) ?_
                  simp only [Act.put, List.setIfInBounds_toArray, List.set_cons_zero, List.set_cons_succ]
                  refine wpAnyH_take (i := 29) (oi := { dst := some 56, op := Go.Op.move (Go.Operand.tmp 55), type := 4, pos := "l04_graph.go:21", after := #[{ on := 28, ground := Go.Ground.data }, { on := 26, ground := Go.Ground.chain }, { on := 26, ground := Go.Ground.guard }], guard := some (26, false) }) (v := undef) rfl (by kernel_rfl) (by kernel_rfl) (by kernel_rfl) (fun _ _ _ h => h) (Or.inr ⟨by kernel_rfl, rfl⟩) (by assumption) ?_
                  simp only [Act.put, List.setIfInBounds_toArray, List.set_cons_zero, List.set_cons_succ]
                  refine wpAnyH_take (i := 30) (oi := { dst := some 57, op := Go.Op.fieldAddr 26 (Go.Operand.tmp 1) 1, type := 0, pos := "l04_graph.go:21", after := #[{ on := 29, ground := Go.Ground.guard }], guard := some (29, true) }) (v := undef) rfl (by kernel_rfl) (by kernel_rfl) (by kernel_rfl) (fun _ _ _ h => h) (Or.inr ⟨by kernel_rfl, rfl⟩) (by assumption) ?_
                  simp only [Act.put, List.setIfInBounds_toArray, List.set_cons_zero, List.set_cons_succ]
                  refine wpAnyH_take (i := 31) (oi := { dst := some 58, op := Go.Op.load 24 (Go.Operand.tmp 57), type := 24, pos := "l04_graph.go:21", after := #[{ on := 30, ground := Go.Ground.data }, { on := 29, ground := Go.Ground.guard }], guard := some (29, true) }) (v := undef) rfl (by kernel_rfl) (by kernel_rfl) (by kernel_rfl) (fun _ _ _ h => h) (Or.inr ⟨by kernel_rfl, rfl⟩) (by assumption) ?_
                  simp only [Act.put, List.setIfInBounds_toArray, List.set_cons_zero, List.set_cons_succ]
                  refine wpAnyH_take (i := 32) (oi := { dst := some 59, op := Go.Op.move (Go.Operand.tmp 3), type := 3, pos := "l04_graph.go:21", after := #[{ on := 29, ground := Go.Ground.guard }], guard := some (29, true) }) (v := undef) rfl (by kernel_rfl) (by kernel_rfl) (by kernel_rfl) (fun _ _ _ h => h) (Or.inr ⟨by kernel_rfl, rfl⟩) (by assumption) ?_
                  simp only [Act.put, List.setIfInBounds_toArray, List.set_cons_zero, List.set_cons_succ]
                  refine wpAnyH_take (i := 33) (oi := { dst := some 60, op := Go.Op.binOp Go.BinOp.sub 3 (Go.Operand.tmp 59) (Go.Operand.const (Go.Value.int Go.IntKind.i64 1)) 3, type := 3, pos := "l04_graph.go:21", after := #[{ on := 32, ground := Go.Ground.data }, { on := 29, ground := Go.Ground.guard }], guard := some (29, true) }) (v := undef) rfl (by kernel_rfl) (by kernel_rfl) (by kernel_rfl) (fun _ _ _ h => h) (Or.inr ⟨by kernel_rfl, rfl⟩) (by assumption) ?_
                  simp only [Act.put, List.setIfInBounds_toArray, List.set_cons_zero, List.set_cons_succ]
                  refine wpAnyH_take (i := 34) (oi := { dst := some 61, op := Go.Op.indexAddr 24 (Go.Operand.tmp 58) (Go.Operand.tmp 60), type := 0, pos := "l04_graph.go:21", after := #[{ on := 31, ground := Go.Ground.data }, { on := 33, ground := Go.Ground.data }, { on := 29, ground := Go.Ground.guard }], guard := some (29, true) }) (v := undef) rfl (by kernel_rfl) (by kernel_rfl) (by kernel_rfl) (fun _ _ _ h => h) (Or.inr ⟨by kernel_rfl, rfl⟩) (by assumption) ?_
                  simp only [Act.put, List.setIfInBounds_toArray, List.set_cons_zero, List.set_cons_succ]
                  refine wpAnyH_take (i := 35) (oi := { dst := some 62, op := Go.Op.load 99 (Go.Operand.tmp 61), type := 99, pos := "l04_graph.go:21", after := #[{ on := 34, ground := Go.Ground.data }, { on := 29, ground := Go.Ground.guard }], guard := some (29, true) }) (v := undef) rfl (by kernel_rfl) (by kernel_rfl) (by kernel_rfl) (fun _ _ _ h => h) (Or.inr ⟨by kernel_rfl, rfl⟩) (by assumption) ?_
                  simp only [Act.put, List.setIfInBounds_toArray, List.set_cons_zero, List.set_cons_succ]
                  refine wpAnyH_take (i := 36) (oi := { dst := some 63, op := Go.Op.load 99 (Go.Operand.tmp 4), type := 99, pos := "l04_graph.go:21", after := #[{ on := 29, ground := Go.Ground.guard }], guard := some (29, true) }) (v := undef) rfl (by kernel_rfl) (by kernel_rfl) (by kernel_rfl) (fun _ _ _ h => h) (Or.inr ⟨by kernel_rfl, rfl⟩) (by assumption) ?_
                  simp only [Act.put, List.setIfInBounds_toArray, List.set_cons_zero, List.set_cons_succ]
                  refine wpAnyH_ready (rs := [37]) (by kernel_rfl) (by simp) ?_
                  refine AllReadyH.cons (o := { dst := some 64, op := Go.Op.call { callee := Go.Callee.value (Go.Operand.func 66), args := #[Go.Operand.tmp 62, Go.Operand.tmp 63], argTypes := #[99, 99] }, type := 4, pos := "l04_graph.go:21", after := #[{ on := 35, ground := Go.Ground.data }, { on := 36, ground := Go.Ground.data }, { on := 29, ground := Go.Ground.chain }, { on := 29, ground := Go.Ground.guard }], guard := some (29, true) }) rfl (fun K hK => ?_) ?_
                  · rw [if_neg (by refine Bool.eq_false_iff.1 ?_; kernel_rfl)]
                    refine hK.out _ _ hHeld (fun hHeld => ?_)
                    clear hK K
                    try simp only [Act.put, List.setIfInBounds_toArray, List.set_cons_zero, List.set_cons_succ]
                    refine wpAnyH_take (i := 38) (oi := { dst := some 65, op := Go.Op.unOp Go.UnOp.not 4 (Go.Operand.tmp 64), type := 4, pos := "l04_graph.go:21", after := #[{ on := 37, ground := Go.Ground.data }, { on := 29, ground := Go.Ground.guard }], guard := some (29, true) }) (v := undef) rfl (by kernel_rfl) (by kernel_rfl) (by kernel_rfl) (fun _ _ _ h => h) (Or.inr ⟨by kernel_rfl, rfl⟩) (by assumption) ?_
                    simp only [Act.put, List.setIfInBounds_toArray, List.set_cons_zero, List.set_cons_succ]
                    refine wpAnyH_take (i := 39) (oi := { dst := some 66, op := Go.Op.pick (Go.Operand.tmp 56) (Go.Operand.tmp 65) (Go.Operand.const (Go.Value.bool false)), type := 4, pos := "l04_graph.go:21", after := #[{ on := 29, ground := Go.Ground.data }, { on := 38, ground := Go.Ground.data }, { on := 26, ground := Go.Ground.guard }], guard := some (26, false) }) (v := undef) rfl (by kernel_rfl) (by kernel_rfl) (by kernel_rfl) (fun _ _ _ h => h) (Or.inr ⟨by kernel_rfl, rfl⟩) (by assumption) ?_
                    simp only [Act.put, List.setIfInBounds_toArray, List.set_cons_zero, List.set_cons_succ]
                    refine wpAnyH_take (i := 40) (oi := { dst := some 67, op := Go.Op.pick (Go.Operand.tmp 53) (Go.Operand.const (Go.Value.bool true)) (Go.Operand.tmp 66), type := 4, pos := "l04_graph.go:21", after := #[{ on := 26, ground := Go.Ground.data }, { on := 39, ground := Go.Ground.data }], guard := none }) (v := ?_) rfl (by kernel_rfl) (by kernel_rfl) (by kernel_rfl) (fun _ _ _ h => h) (Or.inl ⟨by kernel_rfl, ?_⟩) (by assumption) ?_
                    rotate_left
                    · intro w hSw; (try dsimp only at hSw); go_simp; try with_reducible rfl
                    simp only [Act.put, List.setIfInBounds_toArray, List.set_cons_zero, List.set_cons_succ]
                    refine wpAnyH_done (by kernel_rfl) ?_ _
                    clear hHeld
                    go_wp2
                    go_ret
                    refine ⟨?_, HLW.out.drew⟩
                    have : r = false := by rw [HR.out]; exact okG_no (k := k) (by rw [HN.out]; exact hlt) (okGAt_no HOE.out)
                    rw [this]; rfl
                  exact AllReadyH.nil
                exact AllReadyH.nil
              exact AllReadyH.nil
          · subst hu
            rw [Bool.false_and, Bool.false_and, Bool.false_and] at HOE
            have HKS : Hid (∀ w', Below W.heap.size W w' → ((w'.cell? ⟨w.heap.size, 0, none⟩ = some (.int .i64 s) ∧ w'.cell? ⟨w.heap.size, 1, none⟩ = some (.slice (some ⟨b, o, none⟩) n cap)) ∧ (w'.cell? ⟨wr.heap.size, 0, none⟩ = some (.int .i64 x0) ∧ w'.cell? ⟨wr.heap.size, 1, none⟩ = some (.int .u8 x1) ∧ w'.cell? ⟨wr.heap.size, 2, none⟩ = some (.int .i64 x2)))) := fun w' h => ⟨⟨cell_below g0 h (lt_of_cell g0), cell_below g1 h (lt_of_cell g1)⟩, ⟨cell_below e0 h (lt_of_cell e0), cell_below e1 h (lt_of_cell e1), cell_below e2 h (lt_of_cell e2)⟩⟩
            refine wp_region_held_drew (S := fun w' => (w'.cell? ⟨w.heap.size, 0, none⟩ = some (.int .i64 s) ∧ w'.cell? ⟨w.heap.size, 1, none⟩ = some (.slice (some ⟨b, o, none⟩) n cap)) ∧ (w'.cell? ⟨wr.heap.size, 0, none⟩ = some (.int .i64 x0) ∧ w'.cell? ⟨wr.heap.size, 1, none⟩ = some (.int .u8 x1) ∧ w'.cell? ⟨wr.heap.size, 2, none⟩ = some (.int .i64 x2))) (by kernel_rfl) (HKS.out _ ((Below.refl _ _).drew)) (fun hHeld => ?_)
            refine wpAnyH_take (i := 0) (oi := { dst := some 27, op := Go.Op.fieldAddr 99 (Go.Operand.tmp 4) 0, type := 0, pos := "l04_graph.go:21", after := #[], guard := none }) (v := ?_) rfl (by kernel_rfl) (by kernel_rfl) (by kernel_rfl) (fun _ _ _ h => h) (Or.inl ⟨by kernel_rfl, ?_⟩) (by assumption) ?_
            rotate_left
            · intro w hSw; (try dsimp only at hSw); go_simp; try with_reducible rfl
            simp only [Act.put, List.setIfInBounds_toArray, List.set_cons_zero, List.set_cons_succ]
            refine wpAnyH_take (i := 1) (oi := { dst := some 28, op := Go.Op.load 3 (Go.Operand.tmp 27), type := 3, pos := "l04_graph.go:21", after := #[{ on := 0, ground := Go.Ground.data }], guard := none }) (v := ?_) rfl (by kernel_rfl) (by kernel_rfl) (by kernel_rfl) (fun _ _ _ h => h) (Or.inl ⟨by kernel_rfl, ?_⟩) (by assumption) ?_
            rotate_left
            · intro w hSw; (try dsimp only at hSw); go_simp; try with_reducible rfl
            simp only [Act.put, List.setIfInBounds_toArray, List.set_cons_zero, List.set_cons_succ]
            refine wpAnyH_take (i := 2) (oi := { dst := some 29, op := Go.Op.fieldAddr 26 (Go.Operand.tmp 1) 0, type := 0, pos := "l04_graph.go:21", after := #[], guard := none }) (v := ?_) rfl (by kernel_rfl) (by kernel_rfl) (by kernel_rfl) (fun _ _ _ h => h) (Or.inl ⟨by kernel_rfl, ?_⟩) (by assumption) ?_
            rotate_left
            · intro w hSw; (try dsimp only at hSw); go_simp; try with_reducible rfl
            simp only [Act.put, List.setIfInBounds_toArray, List.set_cons_zero, List.set_cons_succ]
            refine wpAnyH_take (i := 3) (oi := { dst := some 30, op := Go.Op.load 3 (Go.Operand.tmp 29), type := 3, pos := "l04_graph.go:21", after := #[{ on := 2, ground := Go.Ground.data }], guard := none }) (v := ?_) rfl (by kernel_rfl) (by kernel_rfl) (by kernel_rfl) (fun _ _ _ h => h) (Or.inl ⟨by kernel_rfl, ?_⟩) (by assumption) ?_
            rotate_left
            · intro w hSw; (try dsimp only at hSw); go_simp; try with_reducible rfl
            simp only [Act.put, List.setIfInBounds_toArray, List.set_cons_zero, List.set_cons_succ]
            refine wpAnyH_take (i := 4) (oi := { dst := some 31, op := Go.Op.binOp Go.BinOp.sub 3 (Go.Operand.tmp 30) (Go.Operand.const (Go.Value.int Go.IntKind.i64 1)) 3, type := 3, pos := "l04_graph.go:21", after := #[{ on := 3, ground := Go.Ground.data }], guard := none }) (v := ?_) rfl (by kernel_rfl) (by kernel_rfl) (by kernel_rfl) (fun _ _ _ h => h) (Or.inl ⟨by kernel_rfl, ?_⟩) (by assumption) ?_
            rotate_left
            · intro w hSw; (try dsimp only at hSw); go_simp; try with_reducible rfl
            simp only [Act.put, List.setIfInBounds_toArray, List.set_cons_zero, List.set_cons_succ]
            refine wpAnyH_ready (rs := [5]) (by kernel_rfl) (by simp) ?_
            refine AllReadyH.cons (o := { dst := some 32, op := Go.Op.call { callee := Go.Callee.value (Go.Operand.func 46), args := #[Go.Operand.tmp 28, Go.Operand.const (Go.Value.int Go.IntKind.i64 0), Go.Operand.tmp 31], argTypes := #[3, 3, 3] }, type := 4, pos := "l04_graph.go:21", after := #[{ on := 1, ground := Go.Ground.data }, { on := 4, ground := Go.Ground.data }], guard := none }) rfl (fun K hK => ?_) ?_
            · go_simp
              go_wp2_with (go_at_call 46; refine (HC0.out _).mono ?_; rintro e w1 ⟨rfl, rfl⟩)
              refine hK.out _ _ hHeld (fun hHeld => ?_)
              clear hK K
              try simp only [Act.put, List.setIfInBounds_toArray, List.set_cons_zero, List.set_cons_succ]
              refine wpAnyH_take (i := 6) (oi := { dst := some 33, op := Go.Op.unOp Go.UnOp.not 4 (Go.Operand.tmp 32), type := 4, pos := "l04_graph.go:21", after := #[{ on := 5, ground := Go.Ground.data }], guard := none }) (v := ?_) rfl (by kernel_rfl) (by kernel_rfl) (by kernel_rfl) (fun _ _ _ h => h) (Or.inl ⟨by kernel_rfl, ?_⟩) (by assumption) ?_
              rotate_left
              · intro w hSw; (try dsimp only at hSw); go_simp; try with_reducible rfl
              simp only [Act.put, List.setIfInBounds_toArray, List.set_cons_zero, List.set_cons_succ]
              refine wpAnyH_take (i := 7) (oi := { dst := some 34, op := Go.Op.move (Go.Operand.tmp 33), type := 4, pos := "l04_graph.go:21", after := #[{ on := 6, ground := Go.Ground.data }, { on := 5, ground := Go.Ground.chain }], guard := none }) (v := ?_) rfl (by kernel_rfl) (by kernel_rfl) (by kernel_rfl) (fun _ _ _ h => h) (Or.inl ⟨by kernel_rfl, ?_⟩) (by assumption) ?_
              rotate_left
              · intro w hSw; (try dsimp only at hSw); go_simp; try with_reducible rfl
              simp only [Act.put, List.setIfInBounds_toArray, List.set_cons_zero, List.set_cons_succ]
              refine wpAnyH_take (i := 8) (oi := { dst := some 35, op := Go.Op.fieldAddr 99 (Go.Operand.tmp 4) 2, type := 0, pos := "l04_graph.go:21", after := #[{ on := 7, ground := Go.Ground.guard }], guard := some (7, false) }) (v := undef) rfl (by kernel_rfl) (by kernel_rfl) (by kernel_rfl) (fun _ _ _ h => h) (Or.inr ⟨by kernel_rfl, rfl⟩) (by assumption) ?_
              simp only [Act.put, List.setIfInBounds_toArray, List.set_cons_zero, List.set_cons_succ]
              refine wpAnyH_take (i := 9) (oi := { dst := some 36, op := Go.Op.load 3 (Go.Operand.tmp 35), type := 3, pos := "l04_graph.go:21", after := #[{ on := 8, ground := Go.Ground.data }, { on := 7, ground := Go.Ground.guard }], guard := some (7, false) }) (v := undef) rfl (by kernel_rfl) (by kernel_rfl) (by kernel_rfl) (fun _ _ _ h => h) (Or.inr ⟨by kernel_rfl, rfl⟩) (by assumption) ?_
              simp only [Act.put, List.setIfInBounds_toArray, List.set_cons_zero, List.set_cons_succ]
              refine wpAnyH_take (i := 10) (oi := { dst := some 37, op := Go.Op.fieldAddr 26 (Go.Operand.tmp 1) 0, type := 0, pos := "l04_graph.go:21", after := #[{ on := 7, ground := Go.Ground.guard }], guard := some (7, false) }) (v := undef) rfl (by kernel_rfl) (by kernel_rfl) (by kernel_rfl) (fun _ _ _ h => h) (Or.inr ⟨by kernel_rfl, rfl⟩) (by assumption) ?_
              simp only [Act.put, List.setIfInBounds_toArray, List.set_cons_zero, List.set_cons_succ]
              refine wpAnyH_take (i := 11) (oi := { dst := some 38, op := Go.Op.load 3 (Go.Operand.tmp 37), type := 3, pos := "l04_graph.go:21", after := #[{ on := 10, ground := Go.Ground.data }, { on := 7, ground := Go.Ground.guard }], guard := some (7, false) }) (v := undef) rfl (by kernel_rfl) (by kernel_rfl) (by kernel_rfl) (fun _ _ _ h => h) (Or.inr ⟨by kernel_rfl, rfl⟩) (by assumption) ?_
              simp only [Act.put, List.setIfInBounds_toArray, List.set_cons_zero, List.set_cons_succ]
              refine wpAnyH_take (i := 12) (oi := { dst := some 39, op := Go.Op.binOp Go.BinOp.sub 3 (Go.Operand.tmp 38) (Go.Operand.const (Go.Value.int Go.IntKind.i64 1)) 3, type := 3, pos := "l04_graph.go:21", after := #[{ on := 11, ground := Go.Ground.data }, { on := 7, ground := Go.Ground.guard }], guard := some (7, false) }) (v := undef) rfl (by kernel_rfl) (by kernel_rfl) (by kernel_rfl) (fun _ _ _ h => h) (Or.inr ⟨by kernel_rfl, rfl⟩) (by assumption) ?_
              simp only [Act.put, List.setIfInBounds_toArray, List.set_cons_zero, List.set_cons_succ]
              refine wpAnyH_ready (rs := [13]) (by kernel_rfl) (by simp) ?_
              refine AllReadyH.cons (o := { dst := some 40, op := Go.Op.call { callee := Go.Callee.value (Go.Operand.func 46), args := #[Go.Operand.tmp 36, Go.Operand.const (Go.Value.int Go.IntKind.i64 0), Go.Operand.tmp 39], argTypes := #[3, 3, 3] }, type := 4, pos := "l04_graph.go:21", after := #[{ on := 9, ground := Go.Ground.data }, { on := 12, ground := Go.Ground.data }, { on := 7, ground := Go.Ground.chain }, { on := 7, ground := Go.Ground.guard }], guard := some (7, false) }) rfl (fun K hK => ?_) ?_
              · rw [if_neg (by refine Bool.eq_false_iff.1 ?_; kernel_rfl)]
                refine hK.out _ _ hHeld (fun hHeld => ?_)
                clear hK K
                try simp only [Act.put, List.setIfInBounds_toArray, List.set_cons_zero, List.set_cons_succ]
                refine wpAnyH_take (i := 14) (oi := { dst := some 41, op := Go.Op.unOp Go.UnOp.not 4 (Go.Operand.tmp 40), type := 4, pos := "l04_graph.go:21", after := #[{ on := 13, ground := Go.Ground.data }, { on := 7, ground := Go.Ground.guard }], guard := some (7, false) }) (v := undef) rfl (by kernel_rfl) (by kernel_rfl) (by kernel_rfl) (fun _ _ _ h => h) (Or.inr ⟨by kernel_rfl, rfl⟩) (by assumption) ?_
                simp only [Act.put, List.setIfInBounds_toArray, List.set_cons_zero, List.set_cons_succ]
                refine wpAnyH_take (i := 15) (oi := { dst := some 42, op := Go.Op.pick (Go.Operand.tmp 34) (Go.Operand.const (Go.Value.bool true)) (Go.Operand.tmp 41), type := 4, pos := "l04_graph.go:21", after := #[{ on := 7, ground := Go.Ground.data }, { on := 14, ground := Go.Ground.data }], guard := none }) (v := ?_) rfl (by kernel_rfl) (by kernel_rfl) (by kernel_rfl) (fun _ _ _ h => h) (Or.inl ⟨by kernel_rfl, ?_⟩) (by assumption) ?_
                rotate_left
                · intro w hSw; (try dsimp only at hSw); go_simp; try with_reducible rfl
                simp only [Act.put, List.setIfInBounds_toArray, List.set_cons_zero, List.set_cons_succ]
                refine wpAnyH_take (i := 16) (oi := { dst := some 43, op := Go.Op.move (Go.Operand.tmp 42), type := 4, pos := "l04_graph.go:21", after := #[{ on := 15, ground := Go.Ground.data }, { on := 13, ground := Go.Ground.chain }], guard := none }) (v := ?_) rfl (by kernel_rfl) (by kernel_rfl) (by kernel_rfl) (fun _ _ _ h => h) (Or.inl ⟨by kernel_rfl, ?_⟩) (by assumption) ?_
                rotate_left
                · intro w hSw; (try dsimp only at hSw); go_simp; try with_reducible rfl
                simp only [Act.put, List.setIfInBounds_toArray, List.set_cons_zero, List.set_cons_succ]
                refine wpAnyH_take (i := 17) (oi := { dst := some 44, op := Go.Op.fieldAddr 99 (Go.Operand.tmp 4) 1, type := 0, pos := "l04_graph.go:21", after := #[{ on := 16, ground := Go.Ground.guard }], guard := some (16, false) }) (v := undef) rfl (by kernel_rfl) (by kernel_rfl) (by kernel_rfl) (fun _ _ _ h => h) (Or.inr ⟨by kernel_rfl, rfl⟩) (by assumption) ?_
                simp only [Act.put, List.setIfInBounds_toArray, List.set_cons_zero, List.set_cons_succ]
                refine wpAnyH_take (i := 18) (oi := { dst := some 45, op := Go.Op.load 5 (Go.Operand.tmp 44), type := 5, pos := "l04_graph.go:21", after := #[{ on := 17, ground := Go.Ground.data }, { on := 16, ground := Go.Ground.guard }], guard := some (16, false) }) (v := undef) rfl (by kernel_rfl) (by kernel_rfl) (by kernel_rfl) (fun _ _ _ h => h) (Or.inr ⟨by kernel_rfl, rfl⟩) (by assumption) ?_
                simp only [Act.put, List.setIfInBounds_toArray, List.set_cons_zero, List.set_cons_succ]
                refine wpAnyH_take (i := 19) (oi := { dst := some 46, op := Go.Op.binOp Go.BinOp.lss 5 (Go.Operand.tmp 45) (Go.Operand.const (Go.Value.int Go.IntKind.u8 97)) 5, type := 4, pos := "l04_graph.go:21", after := #[{ on := 18, ground := Go.Ground.data }, { on := 16, ground := Go.Ground.guard }], guard := some (16, false) }) (v := undef) rfl (by kernel_rfl) (by kernel_rfl) (by kernel_rfl) (fun _ _ _ h => h) (Or.inr ⟨by kernel_rfl, rfl⟩) (by assumption) ?_
                simp only [Act.put, List.setIfInBounds_toArray, List.set_cons_zero, List.set_cons_succ]
                refine wpAnyH_take (i := 20) (oi := { dst := some 47, op := Go.Op.pick (Go.Operand.tmp 43) (Go.Operand.const (Go.Value.bool true)) (Go.Operand.tmp 46), type := 4, pos := "l04_graph.go:21", after := #[{ on := 16, ground := Go.Ground.data }, { on := 19, ground := Go.Ground.data }], guard := none }) (v := ?_) rfl (by kernel_rfl) (by kernel_rfl) (by kernel_rfl) (fun _ _ _ h => h) (Or.inl ⟨by kernel_rfl, ?_⟩) (by assumption) ?_
                rotate_left
                · intro w hSw; (try dsimp only at hSw); go_simp; try with_reducible rfl
                simp only [Act.put, List.setIfInBounds_toArray, List.set_cons_zero, List.set_cons_succ]
                refine wpAnyH_take (i := 21) (oi := { dst := some 48, op := Go.Op.move (Go.Operand.tmp 47), type := 4, pos := "l04_graph.go:21", after := #[{ on := 20, ground := Go.Ground.data }, { on := 16, ground := Go.Ground.chain }], guard := none }) (v := ?_) rfl (by kernel_rfl) (by kernel_rfl) (by kernel_rfl) (fun _ _ _ h => h) (Or.inl ⟨by kernel_rfl, ?_⟩) (by assumption) ?_
                rotate_left
                · intro w hSw; (try dsimp only at hSw); go_simp; try with_reducible rfl
                simp only [Act.put, List.setIfInBounds_toArray, List.set_cons_zero, List.set_cons_succ]
                refine wpAnyH_take (i := 22) (oi := { dst := some 49, op := Go.Op.fieldAddr 99 (Go.Operand.tmp 4) 1, type := 0, pos := "l04_graph.go:21", after := #[{ on := 21, ground := Go.Ground.guard }], guard := some (21, false) }) (v := undef) rfl (by kernel_rfl) (by kernel_rfl) (by kernel_rfl) (fun _ _ _ h => h) (Or.inr ⟨by kernel_rfl, rfl⟩) (by assumption) ?_
                simp only [Act.put, List.setIfInBounds_toArray, List.set_cons_zero, List.set_cons_succ]
                refine wpAnyH_take (i := 23) (oi := { dst := some 50, op := Go.Op.load 5 (Go.Operand.tmp 49), type := 5, pos := "l04_graph.go:21", after := #[{ on := 22, ground := Go.Ground.data }, { on := 21, ground := Go.Ground.guard }], guard := some (21, false) }) (v := undef) rfl (by kernel_rfl) (by kernel_rfl) (by kernel_rfl) (fun _ _ _ h => h) (Or.inr ⟨by kernel_rfl, rfl⟩) (by assumption) ?_
                simp only [Act.put, List.setIfInBounds_toArray, List.set_cons_zero, List.set_cons_succ]
                refine wpAnyH_take (i := 24) (oi := { dst := some 51, op := Go.Op.binOp Go.BinOp.gtr 5 (Go.Operand.tmp 50) (Go.Operand.const (Go.Value.int Go.IntKind.u8 100)) 5, type := 4, pos := "l04_graph.go:21", after := #[{ on := 23, ground := Go.Ground.data }, { on := 21, ground := Go.Ground.guard }], guard := some (21, false) }) (v := undef) rfl (by kernel_rfl) (by kernel_rfl) (by kernel_rfl) (fun _ _ _ h => h) (Or.inr ⟨by kernel_rfl, rfl⟩) (by assumption) ?_
                simp only [Act.put, List.setIfInBounds_toArray, List.set_cons_zero, List.set_cons_succ]
                refine wpAnyH_take (i := 25) (oi := { dst := some 52, op := Go.Op.pick (Go.Operand.tmp 48) (Go.Operand.const (Go.Value.bool true)) (Go.Operand.tmp 51), type := 4, pos := "l04_graph.go:21", after := #[{ on := 21, ground := Go.Ground.data }, { on := 24, ground := Go.Ground.data }], guard := none }) (v := ?_) rfl (by kernel_rfl) (by kernel_rfl) (by kernel_rfl) (fun _ _ _ h => h) (Or.inl ⟨by kernel_rfl, ?_⟩) (by assumption) ?_
                rotate_left
                · intro w hSw; (try dsimp only at hSw); go_simp; try with_reducible rfl
                simp only [Act.put, List.setIfInBounds_toArray, List.set_cons_zero, List.set_cons_succ]
                refine wpAnyH_take (i := 26) (oi := { dst := some 53, op := Go.Op.move (Go.Operand.tmp 52), type := 4, pos := "l04_graph.go:21", after := #[{ on := 25, ground := Go.Ground.data }, { on := 21, ground := Go.Ground.chain }], guard := none }) (v := ?_) rfl (by kernel_rfl) (by kernel_rfl) (by kernel_rfl) (fun _ _ _ h => h) (Or.inl ⟨by kernel_rfl, ?_⟩) (by assumption) ?_
                rotate_left
                · intro w hSw; (try dsimp only at hSw); go_simp; try with_reducible rfl
                simp only [Act.put, List.setIfInBounds_toArray, List.set_cons_zero, List.set_cons_succ]
                refine wpAnyH_take (i := 27) (oi := { dst := some 54, op := Go.Op.move (Go.Operand.tmp 3), type := 3, pos := "l04_graph.go:21", after := #[{ on := 26, ground := Go.Ground.guard }], guard := some (26, false) }) (v := undef) rfl (by kernel_rfl) (by kernel_rfl) (by kernel_rfl) (fun _ _ _ h => h) (Or.inr ⟨by kernel_rfl, rfl⟩) (by assumption) ?_
                simp only [Act.put, List.setIfInBounds_toArray, List.set_cons_zero, List.set_cons_succ]
                refine wpAnyH_take (i := 28) (oi := { dst := some 55, op := Go.Op.binOp Go.BinOp.gtr 3 (Go.Operand.tmp 54) (Go.Operand.const (Go.Value.int Go.IntKind.i64 0)) 3, type := 4, pos := "l04_graph.go:21", after := #[{ on := 27, ground := Go.Ground.data }, { on := 26, ground := Go.Ground.guard }], guard := some (26, false) }) (v := undef) rfl (by kernel_rfl) (by kernel_rfl) (by kernel_rfl) (fun _ _ _ h => h) (Or.inr ⟨by kernel_rfl, rfl⟩) (by assumption) ?_
                simp only [Act.put, List.setIfInBounds_toArray, List.set_cons_zero, List.set_cons_succ]
                refine wpAnyH_take (i := 29) (oi := { dst := some 56, op := Go.Op.move (Go.Operand.tmp 55), type := 4, pos := "l04_graph.go:21", after := #[{ on := 28, ground := Go.Ground.data }, { on := 26, ground := Go.Ground.chain }, { on := 26, ground := Go.Ground.guard }], guard := some (26, false) }) (v := undef) rfl (by kernel_rfl) (by kernel_rfl) (by kernel_rfl) (fun _ _ _ h => h) (Or.inr ⟨by kernel_rfl, rfl⟩) (by assumption) ?_
                simp only [Act.put, List.setIfInBounds_toArray, List.set_cons_zero, List.set_cons_succ]
                refine wpAnyH_take (i := 30) (oi := { dst := some 57, op := Go.Op.fieldAddr 26 (Go.Operand.tmp 1) 1, type := 0, pos := "l04_graph.go:21", after := #[{ on := 29, ground := Go.Ground.guard }], guard := some (29, true) }) (v := undef) rfl (by kernel_rfl) (by kernel_rfl) (by kernel_rfl) (fun _ _ _ h => h) (Or.inr ⟨by kernel_rfl, rfl⟩) (by assumption) ?_
                simp only [Act.put, List.setIfInBounds_toArray, List.set_cons_zero, List.set_cons_succ]
                refine wpAnyH_take (i := 31) (oi := { dst := some 58, op := Go.Op.load 24 (Go.Operand.tmp 57), type := 24, pos := "l04_graph.go:21", after := #[{ on := 30, ground := Go.Ground.data }, { on := 29, ground := Go.Ground.guard }], guard := some (29, true) }) (v := undef) rfl (by kernel_rfl) (by kernel_rfl) (by kernel_rfl) (fun _ _ _ h => h) (Or.inr ⟨by kernel_rfl, rfl⟩) (by assumption) ?_
                simp only [Act.put, List.setIfInBounds_toArray, List.set_cons_zero, List.set_cons_succ]
                refine wpAnyH_take (i := 32) (oi := { dst := some 59, op := Go.Op.move (Go.Operand.tmp 3), type := 3, pos := "l04_graph.go:21", after := #[{ on := 29, ground := Go.Ground.guard }], guard := some (29, true) }) (v := undef) rfl (by kernel_rfl) (by kernel_rfl) (by kernel_rfl) (fun _ _ _ h => h) (Or.inr ⟨by kernel_rfl, rfl⟩) (by assumption) ?_
                simp only [Act.put, List.setIfInBounds_toArray, List.set_cons_zero, List.set_cons_succ]
                refine wpAnyH_take (i := 33) (oi := { dst := some 60, op := Go.Op.binOp Go.BinOp.sub 3 (Go.Operand.tmp 59) (Go.Operand.const (Go.Value.int Go.IntKind.i64 1)) 3, type := 3, pos := "l04_graph.go:21", after := #[{ on := 32, ground := Go.Ground.data }, { on := 29, ground := Go.Ground.guard }], guard := some (29, true) }) (v := undef) rfl (by kernel_rfl) (by kernel_rfl) (by kernel_rfl) (fun _ _ _ h => h) (Or.inr ⟨by kernel_rfl, rfl⟩) (by assumption) ?_
                simp only [Act.put, List.setIfInBounds_toArray, List.set_cons_zero, List.set_cons_succ]
                refine wpAnyH_take (i := 34) (oi := { dst := some 61, op := Go.Op.indexAddr 24 (Go.Operand.tmp 58) (Go.Operand.tmp 60), type := 0, pos := "l04_graph.go:21", after := #[{ on := 31, ground := Go.Ground.data }, { on := 33, ground := Go.Ground.data }, { on := 29, ground := Go.Ground.guard }], guard := some (29, true) }) (v := undef) rfl (by kernel_rfl) (by kernel_rfl) (by kernel_rfl) (fun _ _ _ h => h) (Or.inr ⟨by kernel_rfl, rfl⟩) (by assumption) ?_
                simp only [Act.put, List.setIfInBounds_toArray, List.set_cons_zero, List.set_cons_succ]
                refine wpAnyH_take (i := 35) (oi := { dst := some 62, op := Go.Op.load 99 (Go.Operand.tmp 61), type := 99, pos := "l04_graph.go:21", after := #[{ on := 34, ground := Go.Ground.data }, { on := 29, ground := Go.Ground.guard }], guard := some (29, true) }) (v := undef) rfl (by kernel_rfl) (by kernel_rfl) (by kernel_rfl) (fun _ _ _ h => h) (Or.inr ⟨by kernel_rfl, rfl⟩) (by assumption) ?_
                simp only [Act.put, List.setIfInBounds_toArray, List.set_cons_zero, List.set_cons_succ]
                refine wpAnyH_take (i := 36) (oi := { dst := some 63, op := Go.Op.load 99 (Go.Operand.tmp 4), type := 99, pos := "l04_graph.go:21", after := #[{ on := 29, ground := Go.Ground.guard }], guard := some (29, true) }) (v := undef) rfl (by kernel_rfl) (by kernel_rfl) (by kernel_rfl) (fun _ _ _ h => h) (Or.inr ⟨by kernel_rfl, rfl⟩) (by assumption) ?_
                simp only [Act.put, List.setIfInBounds_toArray, List.set_cons_zero, List.set_cons_succ]
                refine wpAnyH_ready (rs := [37]) (by kernel_rfl) (by simp) ?_
                refine AllReadyH.cons (o := { dst := some 64, op := Go.Op.call { callee := Go.Callee.value (Go.Operand.func 66), args := #[Go.Operand.tmp 62, Go.Operand.tmp 63], argTypes := #[99, 99] }, type := 4, pos := "l04_graph.go:21", after := #[{ on := 35, ground := Go.Ground.data }, { on := 36, ground := Go.Ground.data }, { on := 29, ground := Go.Ground.chain }, { on := 29, ground := Go.Ground.guard }], guard := some (29, true) }) rfl (fun K hK => ?_) ?_
                · rw [if_neg (by refine Bool.eq_false_iff.1 ?_; kernel_rfl)]
                  refine hK.out _ _ hHeld (fun hHeld => ?_)
                  clear hK K
                  try simp only [Act.put, List.setIfInBounds_toArray, List.set_cons_zero, List.set_cons_succ]
                  refine wpAnyH_take (i := 38) (oi := { dst := some 65, op := Go.Op.unOp Go.UnOp.not 4 (Go.Operand.tmp 64), type := 4, pos := "l04_graph.go:21", after := #[{ on := 37, ground := Go.Ground.data }, { on := 29, ground := Go.Ground.guard }], guard := some (29, true) }) (v := undef) rfl (by kernel_rfl) (by kernel_rfl) (by kernel_rfl) (fun _ _ _ h => h) (Or.inr ⟨by kernel_rfl, rfl⟩) (by assumption) ?_
                  simp only [Act.put, List.setIfInBounds_toArray, List.set_cons_zero, List.set_cons_succ]
                  refine wpAnyH_take (i := 39) (oi := { dst := some 66, op := Go.Op.pick (Go.Operand.tmp 56) (Go.Operand.tmp 65) (Go.Operand.const (Go.Value.bool false)), type := 4, pos := "l04_graph.go:21", after := #[{ on := 29, ground := Go.Ground.data }, { on := 38, ground := Go.Ground.data }, { on := 26, ground := Go.Ground.guard }], guard := some (26, false) }) (v := undef) rfl (by kernel_rfl) (by kernel_rfl) (by kernel_rfl) (fun _ _ _ h => h) (Or.inr ⟨by kernel_rfl, rfl⟩) (by assumption) ?_
                  simp only [Act.put, List.setIfInBounds_toArray, List.set_cons_zero, List.set_cons_succ]
                  refine wpAnyH_take (i := 40) (oi := { dst := some 67, op := Go.Op.pick (Go.Operand.tmp 53) (Go.Operand.const (Go.Value.bool true)) (Go.Operand.tmp 66), type := 4, pos := "l04_graph.go:21", after := #[{ on := 26, ground := Go.Ground.data }, { on := 39, ground := Go.Ground.data }], guard := none }) (v := ?_) rfl (by kernel_rfl) (by kernel_rfl) (by kernel_rfl) (fun _ _ _ h => h) (Or.inl ⟨by kernel_rfl, ?_⟩) (by assumption) ?_
                  rotate_left
                  · intro w hSw; (try dsimp only at hSw); go_simp; try with_reducible rfl
                  simp only [Act.put, List.setIfInBounds_toArray, List.set_cons_zero, List.set_cons_succ]
                  refine wpAnyH_done (by kernel_rfl) ?_ _
                  clear hHeld
                  go_wp2
                  go_ret
                  refine ⟨?_, HLW.out.drew⟩
                  have : r = false := by rw [HR.out]; exact okG_no (k := k) (by rw [HN.out]; exact hlt) (okGAt_no HOE.out)
                  rw [this]; rfl
                exact AllReadyH.nil
              exact AllReadyH.nil
            exact AllReadyH.nil
        · go_wp2
          go_ret
          refine ⟨?_, HL⟩
          have : r = true := by
            obtain rfl : k = n := by omega
            rw [HR.out]; unfold okG; rw [HN.out, HE.out]; simp [h12, h3]
          rw [this]; rfl
    · have hd3 : decide ((40 : Int) < (n : Int)) = true := by simp; omega
      obtain rfl : r = false := by rw [HR.out]; unfold okG; rw [HN.out]; simp [h3]
      go_enter Try.func44, Try.ntmps44
      go_wp2_with (go_at_call 46; refine (HIN.out _).mono ?_; rintro e w1' ⟨rfl, rfl⟩)
      go_ret
      exact ⟨rfl, below1 _ _⟩
  · subst ht
    obtain rfl : r = false := by
      rw [HR.out]; unfold okG
      rw [← HTK.out]; rfl
    go_enter Try.func44, Try.ntmps44
    go_wp2_with (go_at_call 46; refine (HIN.out _).mono ?_; rintro e w1' ⟨rfl, rfl⟩)
    go_ret
    exact ⟨rfl, below1 _ _⟩
end Go.Proofs.Ytdbogikcmfnpdaa

/-
  The model's PathEnds.
-/
namespace Go.Proofs.Ytdbogikcmfnpdaa
open Go.RowKit

theorem endsL_snoc (R : Rl) (i k : Nat) : endsL (k + 1) R i = if R i k = true then endsL k R i ++ [(k : Int)] else endsL k R i := by
  unfold endsL
  rw [List.range_succ, List.filter_append]
  by_cases h : R i k = true
  · simp [h]
  · simp [h]
theorem cell_empty (w : World) (T : TypeId) (b j : Nat) (hb : b = w.heap.size) : (w.alloc (.cells #[] T)).cell? ⟨b, j, none⟩ = none := by
  rw [cell_of_row _ b j #[] T (0, 0) (by rw [hb]; exact heap_alloc_new w _)]
  rfl

set_option maxHeartbeats 1000000 in
set_option maxRecDepth 100000 in
theorem specEnds_any (lo hi : Nat) (s : Int) (a : Option Addr) (n cap : Nat) (l : List Ed) (lo2 hi2 : Nat) (b : Option Addr) (m mc : Nat) (ps : List Pc) (f : Int) (w : World) (ha : EdgesIn lo hi w a l) (hh : hi ≤ w.heap.size) (hn : l.length = n) (hm : n ≤ 1048576)
    (hb : PathIn lo2 hi2 w b ps) (hh2 : hi2 ≤ w.heap.size) (hn2 : ps.length = m) (hm2 : m ≤ 1048576) (hq : ∀ i, i < m → (pat ps i).2.2.length ≤ 1048576) :
    Calls Try.prog 18 #[gv s a n cap, pv b m mc, .int .i64 f] w fun e w' => ∃ (a' : Option Addr) (n' c' : Nat), e = .returned (.slice a' n' c') ∧ Hid ((pEnds s l ps f).length = n') ∧ Hid (RowOwn w.heap.size w'.heap.size w' a' (pEnds s l ps f)) ∧ Hid (Below w.heap.size w w') := by
  have HN : Hid (l.length = n) := hn
  have HA : Hid (EdgesIn lo hi w a l) := ha
  have HH : Hid (hi ≤ w.heap.size) := hh
  have HP : Hid (PathIn lo2 hi2 w b ps) := hb
  have HH2 : Hid (hi2 ≤ w.heap.size) := hh2
  have HN2 : Hid (ps.length = m) := hn2
  have HQ : Hid (∀ i, i < m → (pat ps i).2.2.length ≤ 1048576) := hq
  clear ha hh hn hb hh2 hn2 hq
  obtain ⟨i3, hi3, hz30, hz31, hz32⟩ := info_parts Try.info3
  obtain ⟨B, HB⟩ : ∃ B, Hid (B = w.heap.size) := ⟨_, rfl⟩
  obtain ⟨W, HW⟩ : ∃ W, Hid (W = ((w.alloc (.cells #[.int .i64 s, .slice a n cap] 26)).alloc (.cells #[.slice b m mc] 36)).alloc (.cells #[] 3)) := ⟨_, rfl⟩
  have HBW : Hid (Below w.heap.size w W) := by rw [HW.out]; exact below3 w _ _ _
  have HSW : Hid (W.heap.size = B + 3) := by rw [HW.out, HB.out]; show _ = _; simp
  have HG : Hid (Blk W B 2 (fun i => if i = 0 then .int .i64 s else .slice a n cap)) := by rw [HW.out]; exact ((blk_two w B HB.out _ _ _).alloc _).alloc _
  have HPB : Hid (Blk W (B + 1) 1 (fun _ => .slice b m mc)) := by rw [HW.out]; exact (blk_one _ (B + 1) (by rw [HB.out]; simp) _ _).alloc _
  have HEM : Hid (∀ j, W.cell? ⟨B + 1 + 1, j, none⟩ = none) := by
    intro j
    rw [HW.out]
    exact cell_empty _ _ _ _ (by rw [HB.out]; simp)
  have HO : Hid (W.ownsRow (B + 2) 3 1 (.slice (some ⟨B + 1 + 1, 0, none⟩) 0 0) 0 []) := by
    have h := World.ownsRow_made ((w.alloc (.cells #[.int .i64 s, .slice a n cap] 26)).alloc (.cells #[.slice b m mc] 36)) (base := B + 2) (e := 3) (size := 1) #[] 0 (by rw [HB.out]; simp) (Nat.zero_le _) rfl
    rw [← HW.out] at h
    have e : ((w.alloc (.cells #[.int .i64 s, .slice a n cap] 26)).alloc (.cells #[.slice b m mc] 36)).heap.size = B + 1 + 1 := by rw [HB.out]; simp
    rw [e] at h
    exact h
  have q0 := HPB.out.cell (i := 0) (by omega)
  obtain ⟨g0, g1⟩ := blk_pair_cells HG.out
  obtain ⟨RG, HRG⟩ : ∃ r, Hid (r = okG s l) := ⟨_, rfl⟩
  obtain ⟨RP, HRP⟩ : ∃ r, Hid (r = okP ps) := ⟨_, rfl⟩
  obtain ⟨V, HV⟩ : ∃ V, Hid (V = inV s f) := ⟨_, rfl⟩
  have HNO : Hid (RG = false ∨ RP = false ∨ V = false → pEnds s l ps f = []) := by
    intro h
    unfold pEnds
    rw [← HRG.out, ← HRP.out, ← HV.out]
    rcases h with h | h | h <;> simp [h]
  have HEND : Hid (∀ wx, Below W.heap.size W wx → pEnds s l ps f = [] → ∃ (a' : Option Addr) (n' c' : Nat), Ending.returned (.slice (some ⟨B + 1 + 1, 0, none⟩) 0 0) = .returned (.slice a' n' c') ∧ Hid ((pEnds s l ps f).length = n') ∧ Hid (RowOwn w.heap.size wx.heap.size wx a' (pEnds s l ps f)) ∧ Hid (Below w.heap.size w wx)) := by
    intro wx h1 h2
    rw [h2]
    exact ⟨_, _, _, rfl, rfl, .inl rfl, HBW.out.trans (h1.mono HBW.out.size)⟩
  unfold pv
  go_enter Try.func18, Try.ntmps18
  obtain ⟨FF, HFF⟩ : ∃ F : Func, Hid (F = Try.f18) := ⟨_, rfl⟩
  rw [← HFF.out]
  go_upto_region 2 with fail
  rw [← HB.out, ← HW.out]
  clear HW
  go_wp2_with fail
  refine (specGOk_any lo hi s a n cap l RG W (HA.out.below HBW.out HH.out) (Nat.le_trans HH.out HBW.out.size) HN.out hm HRG.out).mono ?_
  rintro e w1 ⟨rfl, HB1⟩
  have HG1 : Hid (Blk w1 B 2 (fun i => if i = 0 then .int .i64 s else .slice a n cap)) := HG.out.of_block (HB1.out.block _ HG.out.lt)
  have HPB1 : Hid (Blk w1 (B + 1) 1 (fun _ => .slice b m mc)) := HPB.out.of_block (HB1.out.block _ HPB.out.lt)
  clear q0 g0 g1
  rcases Bool.eq_false_or_eq_true RG with hr | hr
  · subst hr
    have q0 := HPB1.out.cell (i := 0) (by omega)
    go_wp2_with fail
    refine (specPathOk_any lo2 hi2 b m mc ps RP w1 (HP.out.below (HBW.out.trans (HB1.out.mono HBW.out.size)) HH2.out) (Nat.le_trans HH2.out (Nat.le_trans HBW.out.size HB1.out.size)) HN2.out hm2 HQ.out HRP.out).mono ?_
    rintro e w2 ⟨rfl, HB2⟩
    have HBX2 : Hid (Below W.heap.size W w2) := HB1.out.trans (HB2.out.mono HB1.out.size)
    have HG2 : Hid (Blk w2 B 2 (fun i => if i = 0 then .int .i64 s else .slice a n cap)) := HG.out.of_block (HBX2.out.block _ HG.out.lt)
    have HPB2 : Hid (Blk w2 (B + 1) 1 (fun _ => .slice b m mc)) := HPB.out.of_block (HBX2.out.block _ HPB.out.lt)
    clear q0
    rcases Bool.eq_false_or_eq_true RP with hr | hr
    · subst hr
      obtain ⟨g0, g1⟩ := blk_pair_cells HG2.out
      have q0 := HPB2.out.cell (i := 0) (by omega)
      have hs12 := okG_12 (show okG s l = true from HRG.out.symm)
      have hsw : IntKind.i64.wrap (s - 1) = s - 1 := by rw [IntKind.wrap_i64]; omega
      go_wp2_with fail
      refine (l01In_any f 0 (s - 1) w2).mono ?_
      rintro e w3 ⟨rfl, rfl⟩
      rw [inV_in, ← HV.out]
      rcases Bool.eq_false_or_eq_true V with hr | hr
      · subst hr
        obtain ⟨NN, rfl⟩ : ∃ NN : Nat, s = (NN : Int) := ⟨s.toNat, by omega⟩
        have hin : 0 ≤ f ∧ f < (NN : Int) := by have := HV.out; unfold inV at this; simpa using this.symm
        obtain ⟨z, rfl⟩ : ∃ z : Nat, f = (z : Int) := ⟨f.toNat, by omega⟩
        have hz1 : z < NN := by omega
        have hN12 : NN ≤ 12 := by omega
        have hm60 := okP_len (show okP ps = true from HRP.out.symm)
        rw [HN2.out] at hm60
        obtain ⟨mz, rfl⟩ : ∃ mz, m = mz + 1 := ⟨m - 1, by omega⟩
        obtain ⟨RR, HRR⟩ : ∃ R : Rl, Hid (R = ldR NN l ps) := ⟨_, rfl⟩
        have HPP : Hid (pEnds (NN : Int) l ps (z : Int) = endsL NN RR z) := by
          show _ = _
          unfold pEnds
          rw [← HRG.out, ← HRP.out, ← HV.out, HRR.out]
          rfl
        have HBW2 : Hid (Below w.heap.size w w2) := HBW.out.trans (HBX2.out.mono HBW.out.size)
        go_wp2_with fail
        refine (l06Full_any lo hi NN a n cap l lo2 hi2 b (mz + 1) mc ps w2 (HA.out.below HBW2.out HH.out) (Nat.le_trans HH.out HBW2.out.size) HN.out hm (HP.out.below HBW2.out HH2.out) (Nat.le_trans HH2.out HBW2.out.size) HN2.out (by omega) HQ.out HRG.out.symm (fun k hk => okP_at HRP.out.symm (by rw [HN2.out]; exact hk))).mono ?_
        rintro e w4 ⟨v4, rfl, HAL, HB4⟩
        have HBX4 : Hid (Below W.heap.size W w4) := HBX2.out.trans (HB4.out.mono HBX2.out.size)
        obtain ⟨g, gc, pk, ck, rfl, hgl, hcl, hbk⟩ := HAL.out.at (i := mz) (by omega)
        have hRe : (relTo NN l ps (mz + 1)).getD mz noR = RR := by
          rw [HRR.out]; unfold ldR; rw [HN2.out]; rfl
        rw [hRe] at hbk
        obtain ⟨N2, HNN⟩ : ∃ k, Hid (k = NN * NN) := ⟨_, rfl⟩
        have hnn1 : N2 ≤ 144 := by rw [HNN.out]; exact nn_le hN12
        rw [← HNN.out] at hcl
        have HBK : Hid (BM w4 pk NN RR) := hbk
        have HCL : Hid (w4.cell? ⟨g, mz, none⟩ = some (.slice (some ⟨pk, 0, none⟩) N2 ck)) := hcl
        have HEM4 : Hid (∀ j, w4.cell? ⟨B + 1 + 1, j, none⟩ = none) := by
          intro j
          rw [← HEM.out j]
          exact World.cell?_of_block (a := ⟨B + 1 + 1, j, none⟩) (HBX4.out.block (B + 1 + 1) (by have := HSW.out; omega))
        have HNE : Hid (g ≠ B + 1 + 1 ∧ pk ≠ B + 1 + 1 ∧ g < w4.heap.size) := by
          refine ⟨fun e => ?_, fun e => ?_, hgl⟩
          · rw [e, HEM4.out] at hcl; cases hcl
          · have := hbk.get hz1 hz1
            rw [e, HEM4.out] at this; cases this
        obtain ⟨Qz, HQz⟩ : ∃ k, Hid (k = z * NN) := ⟨_, rfl⟩
        have hqz : (z : Int) * (NN : Int) = (Qz : Int) := by rw [HQz.out]; simp
        have HO4 : Hid (w4.ownsRow (B + 2) 3 1 (.slice (some ⟨B + 1 + 1, 0, none⟩) 0 0) 0 []) := own_below HO.out HBX4.out
        have HB24 : Hid (B + 3 ≤ w4.heap.size) := by rw [← HSW.out]; exact HBX4.out.size
        have hmz : mz < 60 := by omega
        clear hcl hbk hRe HAL q0 g0 g1 hgl HEM HEM4 HNO HEND
        go_wp2
        go_loopw [9, 7] (fun i v wr => ∃ (k k' : Nat) (v7 : Value), i = .int .i64 k ∧ v7 = v ∧ k ≤ NN ∧ Hid ((endsL k RR z).length = k') ∧ Hid (wr.ownsRow (B + 2) 3 1 v7 k' (rowCells (endsL k RR z))) ∧ Hid (KeptP (fun c => c = B + 1 + 1 ∨ w4.heap.size ≤ c) w4 wr) ∧ Hid (∀ c, v7.ownBlock = some c → c = B + 1 + 1 ∨ w4.heap.size ≤ c)) (fun i _ _ => NN - (intOf i).toNat)
        case atStart => exact ⟨0, 0, _, rfl, rfl, by omega, rfl, HO4, KeptP.refl _ _, fun c hc => .inl (by simpa [Value.ownBlock] using hc.symm)⟩
        case round =>
          obtain ⟨k, k', v7, rfl, rfl, hk, HKL, HOW, HUS, HVB⟩ := hrel
          have HBR : Hid (Below (B + 2) w4 wr) := HUS.out.to_below (by have := HB24.out; omega) (fun c hc => by have := HB24.out; omega)
          have HGR : Hid (Blk wr B 2 (fun i => if i = 0 then .int .i64 (NN : Int) else .slice a n cap)) := (HG.out.of_block (HBX4.out.block _ HG.out.lt)).of_block (HBR.out.block _ (by omega))
          have HPBR : Hid (Blk wr (B + 1) 1 (fun _ => .slice b (mz + 1) mc)) := (HPB.out.of_block (HBX4.out.block _ HPB.out.lt)).of_block (HBR.out.block _ (by omega))
          have hk' : k' ≤ 12 := by rw [← HKL.out]; exact Nat.le_trans (endsL_len _ _ _) (by omega)
          obtain ⟨g0, g1⟩ := blk_pair_cells HGR.out
          have q0 := HPBR.out.cell (i := 0) (by omega)
          by_cases hlt : k < NN
          · have hlt1 : (k : Int) < (NN : Int) := by omega
            have hk0 : (0 : Int) ≤ (k : Int) := by omega
            have hcr := HUS.out.cell HCL.out HNE.out.2.2 (by rintro (h | h) <;> have := HNE.out <;> omega)
            have HBKR : Hid (BM wr pk NN RR) := HBK.out.of (HUS.out.block _ HBK.out.lt (by rintro (h | h) <;> have := HNE.out <;> have := HBK.out.lt <;> omega))
            have hco := HBKR.out.get hz1 hlt
            rw [← HQz.out] at hco
            have hb1 : Qz + k < N2 := by rw [HQz.out, HNN.out]; exact idx_lt hz1 hlt
            have hmz0 : (0 : Int) ≤ (mz : Int) := by omega
            have hmz1 : (mz : Int) < ((mz + 1 : Nat) : Int) := by omega
            have HSN := endsL_snoc RR z k
            obtain ⟨x, HX⟩ : ∃ x, Hid (x = RR z k) := ⟨_, rfl⟩
            rw [← HX.out] at hco HSN
            have hszr := HUS.out.size
            rcases Bool.eq_false_or_eq_true x with hr | hr
            · subst hr
              have HSN2 : Hid (endsL (k + 1) RR z = endsL k RR z ++ [(k : Int)]) := by show _ = _; simpa using HSN
              clear HSN
              go_wp2_with fail
              go_quiet (fail)
              obtain ⟨V, HVV⟩ : ∃ V, Hid (V = wr.drewN nq) := ⟨_, rfl⟩
              have HBV : Hid (Below wr.heap.size wr V) := by rw [HVV.out]; exact below_drewN (Below.refl _ _) _
              rw [← HVV.out]
              have HUV : Hid (KeptP (fun c => c = B + 1 + 1 ∨ w4.heap.size ≤ c) w4 V) := HUS.out.trans (KeptP.of_below HBV.out (fun _ hk _ => hk))
              have hown := (own_below HOW.out HBV.out).alloc (.cells #[.int .i64 (k : Int)] 3)
              have hszV := HUV.out.size
              have hB4 := HB24.out
              clear HVV hco hcr g0 g1 q0
              go_wp2_with (at_builtin; refine wpList_append_lies _ rfl (.tmp 52) (.tmp 54) 29 rfl (B + 2) 3 i3 (.int .i64 0) 1 8 Try.underlying29 hi3 hz30 hz31 hz32 rfl (by decide) _ k' (rowCells (endsL k RR z)) rfl hown ⟨V.heap.size, 0, none⟩ 1 1 [.int .i64 (k : Int)] rfl rfl (cell_one_new' V (.int .i64 (k : Int)) 3) (by simp [Value.oneCell']) (by decide) (by unfold maxLen; omega) (by omega) (by simp; omega) _ rfl ?_)
              intro g5 cap5 w6 hown5 hgrow5 hloc5 hg5
              have HO6 : Hid (w6.ownsRow (B + 2) 3 1 (.slice (some ⟨g5, 0, none⟩) (k' + 1) cap5) (k' + 1) (rowCells (endsL (k + 1) RR z))) := by rw [HSN2.out, rowCells_snoc]; exact hown5
              have HG6 : Hid (KeptP (fun c => v7.ownBlock = some c) V w6) := (KeptP.of_below (below1 V _) (fun _ hk _ => hk)).trans ⟨hgrow5.os, hgrow5.tape, hgrow5.output, hgrow5.size, fun k hk hn => hgrow5.block k hk (fun e => hn e.symm)⟩
              have HU6 : Hid (KeptP (fun c => c = B + 1 + 1 ∨ w4.heap.size ≤ c) w4 w6) := HUV.out.trans (HG6.out.mono HVB.out)
              have HK6 : Hid ((endsL (k + 1) RR z).length = k' + 1) := by show _ = _; rw [HSN2.out, List.length_append, HKL.out]; rfl
              have HV6 : Hid (∀ c, (Value.slice (some ⟨g5, 0, none⟩) (k' + 1) cap5).ownBlock = some c → c = B + 1 + 1 ∨ w4.heap.size ≤ c) := by
                intro c hcc
                have e5 : g5 = c := by simpa [Value.ownBlock] using hcc
                subst e5
                rcases hloc5 with h | h
                · exact HVB.out _ h
                · right; omega
              clear hown hown5 hgrow5 hloc5 hg5
              go_wp2
              go_roundw
              case rel => exact ⟨k + 1, k' + 1, _, by go_num, rfl, by omega, HK6, HO6, HU6, HV6⟩
              case measure => simp [intOf]; omega
            · subst hr
              have HSN2 : Hid (endsL (k + 1) RR z = endsL k RR z) := by show _ = _; simpa using HSN
              clear HSN
              go_wp2_with fail
              go_quiet (fail)
              go_wp2
              go_roundw
              case rel => exact ⟨k + 1, k', v7, by go_num, rfl, by omega, by rw [HSN2.out]; exact HKL, by rw [HSN2.out]; exact own_below HOW.out (below_drewN (Below.refl _ _) _), HUS.out.trans (KeptP.of_below (below_drewN (Below.refl _ _) _) (fun _ hk _ => hk)), HVB⟩
              case measure => simp [intOf]; omega
          · obtain rfl : k = NN := by omega
            obtain ⟨ra7, rc7, rfl, HRO⟩ := rowOwn_of HOW.out HKL.out
            have HRO7 : Hid (RowOwn (B + 2) wr.heap.size wr ra7 (endsL k RR z)) := HRO
            clear HRO
            go_wp2
            obtain rfl : FF = Try.f18 := HFF.out
            go_ret
            rw [HPP.out]
            exact ⟨ra7, k', rc7, rfl, HKL, HRO7.out.wide (by have := HB.out; omega) (Nat.le_refl _), (HBW2.out.trans (HB4.out.mono HBW2.out.size)).trans (HBR.out.mono (by have := HB.out; omega))⟩
      · subst hr
        go_wp2
        obtain rfl : FF = Try.f18 := HFF.out
        go_ret
        exact HEND.out _ HBX2.out (HNO.out (by simp))
    · subst hr
      go_wp2
      obtain rfl : FF = Try.f18 := HFF.out
      go_ret
      exact HEND.out _ HBX2.out (HNO.out (by simp))
  · subst hr
    go_wp2
    obtain rfl : FF = Try.f18 := HFF.out
    go_ret
    exact HEND.out _ HB1.out (HNO.out (by simp))
end Go.Proofs.Ytdbogikcmfnpdaa

/-
  Lists of rows of numbers ([][]int): how one lies in the world, one that is owned, one that grows.
-/
namespace Go.Proofs.Ytdbogikcmfnpdaa
open Go.RowKit

abbrev Rw := List (List Int)
def rat (l : Rw) (i : Nat) : List Int := l.getD i []
theorem rat_get {l : Rw} {i : Nat} (h : i < l.length) : rat l i = l[i] := by simp [rat, List.getD, h]
theorem rat_ext {l l' : Rw} (h1 : l.length = l'.length) (h : ∀ i, i < l.length → rat l i = rat l' i) : l = l' := by
  apply List.ext_getElem h1
  intro i hi hi'
  have := h i hi
  rwa [rat_get hi, rat_get hi'] at this
theorem rat_app {l : Rw} {x : List Int} {i : Nat} (h : i < l.length) : rat (l ++ [x]) i = rat l i := by simp [rat, List.getD, List.getElem?_append_left h]
theorem rat_last (l : Rw) (x : List Int) : rat (l ++ [x]) l.length = x := by simp [rat, List.getD]
/-- rows that are reached by a slice -/
def RowsIn (lo hi : Nat) (w : World) (a : Option Addr) (l : Rw) : Prop :=
  l = [] ∨ ∃ b o, a = some ⟨b, o, none⟩ ∧ lo ≤ b ∧ b < hi ∧ ∀ i, i < l.length → ∃ ra rc, w.cell? ⟨b, o + i, none⟩ = some (.slice ra (rat l i).length rc) ∧ RowIn lo hi w ra (rat l i)
theorem RowsIn.below {lo hi B : Nat} {w w' : World} {a : Option Addr} {l : Rw} (h : RowsIn lo hi w a l) (hb : Below B w w') (hB : hi ≤ B) : RowsIn lo hi w' a l := by
  rcases h with h | ⟨b, o, e, h1, h2, h3⟩
  · exact .inl h
  · refine .inr ⟨b, o, e, h1, h2, fun i hi => ?_⟩
    obtain ⟨ra, rc, h4, h5⟩ := h3 i hi
    exact ⟨ra, rc, cell_below h4 hb (by omega), h5.below hb hB⟩
theorem RowsIn.wide {lo hi lo' hi' : Nat} {w : World} {a : Option Addr} {l : Rw} (h : RowsIn lo hi w a l) (h1 : lo' ≤ lo) (h2 : hi ≤ hi') : RowsIn lo' hi' w a l := by
  rcases h with h | ⟨b, o, e, h3, h4, h5⟩
  · exact .inl h
  · refine .inr ⟨b, o, e, by omega, by omega, fun i hi => ?_⟩
    obtain ⟨ra, rc, h6, h7⟩ := h5 i hi
    exact ⟨ra, rc, h6, h7.wide h1 h2⟩
theorem RowsIn.row {lo hi : Nat} {w : World} {a : Option Addr} {l : Rw} (h : RowsIn lo hi w a l) {k : Nat} (hk : k < l.length) : ∃ b o, a = some ⟨b, o, none⟩ ∧ lo ≤ b ∧ b < hi ∧ ∃ ra rc, w.cell? ⟨b, o + k, none⟩ = some (.slice ra (rat l k).length rc) ∧ RowIn lo hi w ra (rat l k) := by
  rcases h with rfl | ⟨b, o, e, h1, h2, h3⟩
  · simp at hk
  · exact ⟨b, o, e, h1, h2, h3 k hk⟩

/-- rows lie in a block, their numbers in blocks of their own -/
def PartR (lo hi : Nat) (w : World) (b : Nat) (l : Rw) (n k : Nat) : Prop :=
  ∃ (f : Nat → Value) (R : Nat → Option Addr) (C : Nat → Nat), Blk w b n f ∧ ∀ i, i < k → f i = .slice (R i) (rat l i).length (C i) ∧ RowOwn lo hi w (R i) (rat l i) ∧
    (rat l i ≠ [] → (∀ c, R i = some ⟨c, 0, none⟩ → c ≠ b) ∧ ∀ j, j < i → rat l j ≠ [] → R j ≠ R i)
def RowsOwn (lo hi : Nat) (w : World) (a : Option Addr) (l : Rw) : Prop :=
  l = [] ∨ ∃ b, a = some ⟨b, 0, none⟩ ∧ lo ≤ b ∧ b < hi ∧ PartR lo hi w b l l.length l.length
theorem RowsOwn.toIn {lo hi : Nat} {w : World} {a : Option Addr} {l : Rw} (h : RowsOwn lo hi w a l) : RowsIn lo hi w a l := by
  rcases h with h | ⟨b, e, h1, h2, f, R, C, hB, hp⟩
  · exact .inl h
  · refine .inr ⟨b, 0, e, h1, h2, fun i hi => ?_⟩
    obtain ⟨e1, e2, _⟩ := hp i hi
    exact ⟨R i, C i, by rw [Nat.zero_add, hB.cell hi, e1], e2.toIn⟩
theorem PartR.of_blocks {lo hi b : Nat} {w w' : World} {l : Rw} {n k : Nat} (h : PartR lo hi w b l n k) (h1 : w'.heap[b]? = w.heap[b]?) (h2 : ∀ c, lo ≤ c → c < hi → w'.heap[c]? = w.heap[c]?) : PartR lo hi w' b l n k := by
  obtain ⟨f, R, C, h3, h4⟩ := h
  refine ⟨f, R, C, h3.of_block h1, fun i hi => ?_⟩
  obtain ⟨e0, e3, e4⟩ := h4 i hi
  refine ⟨e0, ?_, e4⟩
  rcases e3 with h | ⟨c, ec, h5, h6, h7⟩
  · exact .inl h
  · exact .inr ⟨c, ec, h5, h6, h7.of_block (h2 c h5 h6)⟩
theorem RowsOwn.below {lo hi B : Nat} {w w' : World} {a : Option Addr} {l : Rw} (h : RowsOwn lo hi w a l) (hb : Below B w w') (hB : hi ≤ B) : RowsOwn lo hi w' a l := by
  rcases h with h | ⟨b, e, h1, h2, h3⟩
  · exact .inl h
  · exact .inr ⟨b, e, h1, h2, h3.of_blocks (hb.block b (by omega)) (fun c _ h2 => hb.block c (by omega))⟩
theorem RowsOwn.wide {lo hi lo' hi' : Nat} {w : World} {a : Option Addr} {l : Rw} (h : RowsOwn lo hi w a l) (h1 : lo' ≤ lo) (h2 : hi ≤ hi') : RowsOwn lo' hi' w a l := by
  rcases h with h | ⟨b, e, h3, h4, f, R, C, h5, h6⟩
  · exact .inl h
  · exact .inr ⟨b, e, by omega, by omega, f, R, C, h5, fun i hi => ⟨(h6 i hi).1, (h6 i hi).2.1.wide h1 h2, (h6 i hi).2.2⟩⟩
theorem RowsOwn.kept {lo hi : Nat} {p : Nat → Prop} {w w' : World} {a : Option Addr} {l : Rw} (h : RowsOwn lo hi w a l) (hk : KeptP p w w') (hh : hi ≤ w.heap.size) (hp : ∀ c, lo ≤ c → c < hi → ¬ p c) : RowsOwn lo hi w' a l := by
  rcases h with h | ⟨b, e, h1, h2, h3⟩
  · exact .inl h
  · exact .inr ⟨b, e, h1, h2, h3.of_blocks (hk.block b (by omega) (hp b h1 h2)) (fun c h4 h5 => hk.block c (by omega) (hp c h4 h5))⟩

/-- rows that are laid: the list's own block and the rows' blocks are in use (U), all apart -/
def LaidR (B : Nat) (w : World) (v : Value) (l : Rw) (U : Nat → Prop) : Prop :=
  ∃ (f : Nat → Value) (R : Nat → Option Addr) (C : Nat → Nat), w.ownsRow B 29 1 v l.length ((List.range l.length).map f) ∧
    (∀ c, v.ownBlock = some c → U c) ∧ (∀ c, U c → B ≤ c ∧ c < w.heap.size) ∧
    ∀ i, i < l.length → f i = .slice (R i) (rat l i).length (C i) ∧ RowOwn B w.heap.size w (R i) (rat l i) ∧
      (rat l i ≠ [] → (∀ c, R i = some ⟨c, 0, none⟩ → U c ∧ v.ownBlock ≠ some c) ∧ ∀ j, j < i → rat l j ≠ [] → R j ≠ R i)
theorem LaidR.made {B : Nat} {w : World} {v : Value} (h : w.ownsRow B 29 1 v 0 []) : LaidR B w v [] (fun c => v.ownBlock = some c) :=
  ⟨fun _ => .int .i64 0, fun _ => none, fun _ => 0, by simpa using h, fun c h => h, fun c hc => by
    have := h.lt c hc
    exact this, fun i hi => absurd hi (by simp)⟩
theorem LaidR.lt {B : Nat} {w : World} {v : Value} {l : Rw} {U : Nat → Prop} (h : LaidR B w v l U) {c : Nat} (hc : U c) : B ≤ c ∧ c < w.heap.size := by
  obtain ⟨_, _, _, _, _, h3, _⟩ := h; exact h3 c hc
theorem LaidR.blk {B : Nat} {w : World} {v : Value} {l : Rw} {U : Nat → Prop} (h : LaidR B w v l U) {c : Nat} (hc : v.ownBlock = some c) : U c := by
  obtain ⟨_, _, _, _, h2, _, _⟩ := h; exact h2 c hc
theorem LaidR.kept {B : Nat} {w w' : World} {v : Value} {l : Rw} {U : Nat → Prop} {p : Nat → Prop} (h : LaidR B w v l U) (hb : KeptP p w w') (hp : ∀ c, U c → ¬ p c) : LaidR B w' v l U := by
  obtain ⟨f, R, C, h1, h2, h3, h4⟩ := h
  refine ⟨f, R, C, ?_, h2, fun c hc => ⟨(h3 c hc).1, Nat.lt_of_lt_of_le (h3 c hc).2 hb.size⟩, fun i hi => ⟨(h4 i hi).1, ?_, (h4 i hi).2.2⟩⟩
  · refine ⟨h1.1, ?_⟩
    rcases h1.2 with h5 | ⟨g, cap, cur, e, h5, h6, h7⟩
    · exact .inl h5
    · have hg : U g := h2 g (by rw [e]; rfl)
      exact .inr ⟨g, cap, cur, e, h5, by rw [hb.block g (h3 g hg).2 (hp g hg)]; exact h6, h7⟩
  · by_cases h0 : rat l i = []
    · exact .inl h0
    · rcases (h4 i hi).2.1 with h5 | ⟨g, e, h5, h6, h7⟩
      · exact absurd h5 h0
      · have hg : U g := (((h4 i hi).2.2 h0).1 g e).1
        exact .inr ⟨g, e, h5, Nat.lt_of_lt_of_le h6 hb.size, h7.of_block (hb.block g (h3 g hg).2 (hp g hg))⟩
theorem LaidR.below {B : Nat} {w w' : World} {v : Value} {l : Rw} {U : Nat → Prop} (h : LaidR B w v l U) (hb : Below w.heap.size w w') : LaidR B w' v l U :=
  h.kept (p := fun _ => False) (KeptP.of_below hb (fun _ hk _ => hk)) (fun _ _ h => h)
theorem LaidR.mono {B : Nat} {w : World} {v : Value} {l : Rw} {U : Nat → Prop} (h : LaidR B w v l U) {B' : Nat} (hB : B' ≤ B) : LaidR B' w v l U := by
  obtain ⟨f, R, C, h1, h2, h3, h4⟩ := h
  refine ⟨f, R, C, ⟨h1.1, ?_⟩, h2, fun c hc => ⟨by have := (h3 c hc).1; omega, (h3 c hc).2⟩, fun i hi => ⟨(h4 i hi).1, (h4 i hi).2.1.wide hB (Nat.le_refl _), (h4 i hi).2.2⟩⟩
  rcases h1.2 with h5 | ⟨g, cap, cur, e, h5, h6⟩
  · exact .inl h5
  · exact .inr ⟨g, cap, cur, e, by omega, h6⟩
theorem LaidR.toOwn {B : Nat} {w : World} {v : Value} {l : Rw} {U : Nat → Prop} (h : LaidR B w v l U) : ∃ a cap, v = .slice a l.length cap ∧ RowsOwn B w.heap.size w a l := by
  obtain ⟨f, R, C, h1, h2, h3, h4⟩ := h
  rcases h1.2 with ⟨rfl, h0⟩ | ⟨g, cap, cur, rfl, hg, hb, _⟩
  · exact ⟨none, 0, by rw [h0], .inl (List.length_eq_zero_iff.1 h0)⟩
  · refine ⟨_, cap, rfl, .inr ⟨g, rfl, hg, (Array.getElem?_eq_some_iff.1 hb).1, f, R, C, ?_, fun i hi => ?_⟩⟩
    · have := blk_own h1
      rw [Nat.mul_one] at this
      exact this.congr (fun i hi => by simp [List.getD, hi])
    · obtain ⟨e0, e3, e4⟩ := h4 i hi
      refine ⟨e0, e3, fun hne => ⟨fun c hc e => ?_, (e4 hne).2⟩⟩
      exact ((e4 hne).1 c hc).2 (by rw [e]; rfl)

/-- one row more behind what lies there -/
theorem LaidR.snoc {B g cap : Nat} {w w1 : World} {v : Value} {l : Rw} {U : Nat → Prop} {x : List Int} {f : Nat → Value} {R : Nat → Option Addr} {C : Nat → Nat} {ra : Option Addr} {rc : Nat}
    (h2 : ∀ c, v.ownBlock = some c → U c) (h3 : ∀ c, U c → B ≤ c ∧ c < w.heap.size)
    (h4 : ∀ i, i < l.length → f i = .slice (R i) (rat l i).length (C i) ∧ RowOwn B w.heap.size w (R i) (rat l i) ∧
      (rat l i ≠ [] → (∀ c, R i = some ⟨c, 0, none⟩ → U c ∧ v.ownBlock ≠ some c) ∧ ∀ j, j < i → rat l j ≠ [] → R j ≠ R i))
    (hr : RowOwn B w.heap.size w ra x) (hra : x ≠ [] → ∀ c, ra = some ⟨c, 0, none⟩ → ¬ U c) (hg : w.grownBy w1 v.ownBlock) (hloc : v.ownBlock = some g ∨ w.heap.size ≤ g) (hgl : g < w1.heap.size) (hBg : B ≤ g)
    (ho : w1.ownsRow B 29 1 (.slice (some ⟨g, 0, none⟩) (l.length + 1) cap) (l.length + 1) ((List.range l.length).map f ++ [.slice ra x.length rc])) :
    LaidR B w1 (.slice (some ⟨g, 0, none⟩) (l.length + 1) cap) (l ++ [x]) (fun c => U c ∨ c = g ∨ (x ≠ [] ∧ ra = some ⟨c, 0, none⟩)) := by
  have keep : ∀ {a : Option Addr} {r : List Int}, RowOwn B w.heap.size w a r → (r ≠ [] → ∀ c, a = some ⟨c, 0, none⟩ → v.ownBlock ≠ some c) → RowOwn B w1.heap.size w1 a r := by
    intro a r ha hne
    by_cases h0 : r = []
    · exact .inl h0
    · rcases ha with h | ⟨c, e, h5, h6, h7⟩
      · exact absurd h h0
      · exact .inr ⟨c, e, h5, Nat.lt_of_lt_of_le h6 hg.size, h7.of_block (hg.block c h6 (fun e2 => hne h0 c e e2.symm))⟩
  have hlt : ∀ {a : Option Addr} {r : List Int}, RowOwn B w.heap.size w a r → r ≠ [] → ∀ c, a = some ⟨c, 0, none⟩ → c < w.heap.size := by
    intro a r ha hne c hc
    rcases ha with h | ⟨c', e, _, h6, _⟩
    · exact absurd h hne
    · rw [hc] at e; simp at e; omega
  have hoff : ∀ c, c < w.heap.size → v.ownBlock ≠ some c → (Value.slice (some ⟨g, 0, none⟩) (l.length + 1) cap).ownBlock ≠ some c := by
    intro c hc hne e
    have e2 : g = c := by simpa [Value.ownBlock] using e
    subst e2
    rcases hloc with h | h
    · exact hne h
    · omega
  refine ⟨fun j => if j < l.length then f j else .slice ra x.length rc, fun i => if i < l.length then R i else ra, fun i => if i < l.length then C i else rc, ?_, ?_, ?_, fun i hi => ?_⟩
  · rw [List.length_append, List.length_singleton]
    have e2 : (List.range (l.length + 1)).map (fun j => if j < l.length then f j else Value.slice ra x.length rc) = (List.range l.length).map f ++ [.slice ra x.length rc] := by
      rw [List.range_succ]
      simp only [List.map_append]
      congr 1
      · exact List.map_congr_left fun j hj => by simp [List.mem_range.1 hj]
      · simp
    rw [e2]; exact ho
  · intro c hc
    right; left
    have : g = c := by simpa [Value.ownBlock] using hc
    exact this.symm
  · intro c hc
    rcases hc with hc | rfl | ⟨hne, hc⟩
    · exact ⟨(h3 c hc).1, Nat.lt_of_lt_of_le (h3 c hc).2 hg.size⟩
    · exact ⟨hBg, hgl⟩
    · rcases hr with h | ⟨c', e, h5, h6, _⟩
      · exact absurd h hne
      · rw [hc] at e; simp at e; subst e; exact ⟨h5, Nat.lt_of_lt_of_le h6 hg.size⟩
  · rw [List.length_append, List.length_singleton] at hi
    rcases Nat.lt_or_ge i l.length with h | h
    · rw [rat_app h]
      obtain ⟨e0, e3, e4⟩ := h4 i h
      simp only [h, if_true]
      refine ⟨e0, keep e3 (fun hne c hc => ((e4 hne).1 c hc).2), fun hne => ⟨fun c hc => ⟨.inl ((e4 hne).1 c hc).1, hoff c (hlt e3 hne c hc) ((e4 hne).1 c hc).2⟩, fun j hj hnj => ?_⟩⟩
      have hjl : j < l.length := by omega
      rw [rat_app hjl] at hnj
      simp only [hjl, if_true]
      exact (e4 hne).2 j hj hnj
    · obtain rfl : i = l.length := by omega
      rw [rat_last]
      simp only [Nat.lt_irrefl, if_false]
      have hvo : x ≠ [] → ∀ c, ra = some ⟨c, 0, none⟩ → v.ownBlock ≠ some c := fun hne c hc e => hra hne c hc (h2 c e)
      refine ⟨by simp, keep hr hvo, fun hne => ⟨fun c hc => ⟨.inr (.inr ⟨hne, hc⟩), hoff c (hlt hr hne c hc) (hvo hne c hc)⟩, fun j hj hnj => ?_⟩⟩
      rw [rat_app hj] at hnj
      simp only [hj, if_true]
      intro e
      obtain ⟨_, e3, e4⟩ := h4 j hj
      rcases e3 with h5 | ⟨c, ec, _, _, _⟩
      · exact hnj h5
      · exact hra hne c (by rw [← e]; exact ec) (((e4 hnj).1 c ec).1)
end Go.Proofs.Ytdbogikcmfnpdaa

/-
  impl.PathPairs.
-/
namespace Go.Proofs.Ytdbogikcmfnpdaa
open Go.RowKit

/-- the pairs of a vertex -/
def prsOf (n : Nat) (R : Rl) (i : Nat) : Rw := (endsL n R i).map fun z => [(i : Int), z]
/-- the pairs of the vertices ahead of place i -/
def prsTo (n : Nat) (R : Rl) : Nat → Rw
  | 0 => []
  | i + 1 => prsTo n R i ++ prsOf n R i
/-- which vertices a path leads to one another: nothing where the path or the graph isn't right -/
def pPairs (s : Int) (l : List Ed) (ps : List Pc) : Rw := if (okP ps && okG s l) = true then prsTo s.toNat (ldR s.toNat l ps) s.toNat else []
theorem prsOf_len (n : Nat) (R : Rl) (i : Nat) : (prsOf n R i).length ≤ n := by unfold prsOf; rw [List.length_map]; exact endsL_len n R i
theorem prsTo_len (n : Nat) (R : Rl) : ∀ i, (prsTo n R i).length ≤ i * n
  | 0 => by simp [prsTo]
  | i + 1 => by
    have := prsTo_len n R i
    have := prsOf_len n R i
    rw [prsTo, List.length_append, Nat.add_mul]; omega
theorem prs_take {n : Nat} {R : Rl} {i j : Nat} (h : j < (endsL n R i).length) : (prsOf n R i).take (j + 1) = (prsOf n R i).take j ++ [[(i : Int), (endsL n R i).getD j 0]] := by
  unfold prsOf
  rw [List.take_succ_eq_append_getElem (by rw [List.length_map]; exact h)]
  simp [List.getD, h]
theorem Try.info29 : (Try.prog.info? 29).map (fun i => (i.zero, i.size, i.bytes)) = some (some (.slice none 0 0), 1, 24) := by kernel_rfl
/-- as it was but for what is in use, and what is new -/
def Use (w : World) (U : Nat → Prop) (w' : World) (U' : Nat → Prop) : Prop := KeptP U w w' ∧ ∀ c, U' c → U c ∨ w.heap.size ≤ c
theorem Use.refl (w : World) (U : Nat → Prop) : Use w U w U := ⟨KeptP.refl _ _, fun _ h => .inl h⟩
theorem Use.trans {w w1 w2 : World} {U U1 U2 : Nat → Prop} (h : Use w U w1 U1) (h' : Use w1 U1 w2 U2) : Use w U w2 U2 :=
  ⟨⟨h'.1.os.trans h.1.os, h'.1.tape.trans h.1.tape, h'.1.output.trans h.1.output, Nat.le_trans h.1.size h'.1.size, fun k hk hn => by
    rw [h'.1.block k (Nat.lt_of_lt_of_le hk h.1.size) (fun hu => by
      rcases h.2 k hu with h2 | h2
      · exact hn h2
      · omega)]
    exact h.1.block k hk hn⟩, fun c hc => by
    rcases h'.2 c hc with h2 | h2
    · exact h.2 c h2
    · exact .inr (Nat.le_trans h.1.size h2)⟩
theorem Use.below {w w1 w2 : World} {U U1 : Nat → Prop} (h : Use w U w1 U1) (hb : Below w1.heap.size w1 w2) : Use w U w2 U1 :=
  ⟨h.1.trans (KeptP.of_below hb (fun _ hk _ => hk)), h.2⟩
theorem Use.to_below {w w1 : World} {U U1 : Nat → Prop} {B : Nat} (h : Use w U w1 U1) (hB : B ≤ w.heap.size) (hU : ∀ c, U c → B ≤ c) : Below B w w1 := h.1.to_below hB hU
/-- a pair is laid: two new blocks, then it stands behind -/
theorem LaidR.pair {B g cap k : Nat} {w w6 : World} {v : Value} {l : Rw} {U : Nat → Prop} {x y : Int} {f : Nat → Value} {R : Nat → Option Addr} {C : Nat → Nat} {o2 : Obj} {T : TypeId}
    (HL : LaidR B w v l U) (hk : l.length = k) (h2 : ∀ c, v.ownBlock = some c → U c) (h3 : ∀ c, U c → B ≤ c ∧ c < ((w.alloc (.cells #[.int .i64 x, .int .i64 y] T)).alloc o2).heap.size)
    (h4 : ∀ i, i < l.length → f i = .slice (R i) (rat l i).length (C i) ∧ RowOwn B ((w.alloc (.cells #[.int .i64 x, .int .i64 y] T)).alloc o2).heap.size ((w.alloc (.cells #[.int .i64 x, .int .i64 y] T)).alloc o2) (R i) (rat l i) ∧
      (rat l i ≠ [] → (∀ c, R i = some ⟨c, 0, none⟩ → U c ∧ v.ownBlock ≠ some c) ∧ ∀ j, j < i → rat l j ≠ [] → R j ≠ R i))
    (hB : B ≤ w.heap.size) (hg : ((w.alloc (.cells #[.int .i64 x, .int .i64 y] T)).alloc o2).grownBy w6 v.ownBlock) (hloc : v.ownBlock = some g ∨ g = w.heap.size + 1 + 1) (hgl : g < w6.heap.size)
    (ho : w6.ownsRow B 29 1 (.slice (some ⟨g, 0, none⟩) (k + 1) cap) (k + 1) ((List.range k).map f ++ [.slice (some ⟨w.heap.size, 0, none⟩) 2 2])) :
    ∃ U', LaidR B w6 (.slice (some ⟨g, 0, none⟩) (k + 1) cap) (l ++ [[x, y]]) U' ∧ Use w U w6 U' := by
  subst hk
  have hsz : ((w.alloc (.cells #[.int .i64 x, .int .i64 y] T)).alloc o2).heap.size = w.heap.size + 2 := by simp
  have hrow : RowOwn B ((w.alloc (.cells #[.int .i64 x, .int .i64 y] T)).alloc o2).heap.size ((w.alloc (.cells #[.int .i64 x, .int .i64 y] T)).alloc o2) (some ⟨w.heap.size, 0, none⟩) [x, y] := by
    refine .inr ⟨w.heap.size, rfl, hB, by omega, ?_⟩
    exact ((blk_new w #[.int .i64 x, .int .i64 y] T (fun i => .int .i64 ([x, y].getD i 0)) (fun i hi => by
      have hi2 : i < 2 := hi
      rcases (show i = 0 ∨ i = 1 by omega) with rfl | rfl <;> rfl)).alloc o2)
  have hU : ∀ c, U c → c < w.heap.size := fun c hc => (HL.lt hc).2
  refine ⟨_, LaidR.snoc (x := [x, y]) (ra := some ⟨w.heap.size, 0, none⟩) (rc := 2) h2 h3 h4 hrow (fun _ c hc hu => ?_) hg (hloc.imp id (fun h => by omega)) hgl ?_ ho, ⟨⟨?_, ?_, ?_, ?_, ?_⟩, ?_⟩⟩
  · simp at hc; have := hU c hu; omega
  · rcases hloc with h | h
    · exact (h3 g (h2 g h)).1
    · omega
  · exact hg.os
  · exact hg.tape
  · exact hg.output
  · have := hg.size; omega
  · intro c hc hn
    rw [hg.block c (by omega) (fun e => hn (h2 c e.symm))]
    exact ((below2 w _ _).block c hc)
  · intro c hc
    rcases hc with hc | rfl | ⟨_, hc⟩
    · exact .inl hc
    · rcases hloc with h | h
      · exact .inl (h2 _ h)
      · right; omega
    · simp at hc; right; omega

set_option maxHeartbeats 1000000 in
set_option maxRecDepth 100000 in
theorem pathPairs_any (lo hi : Nat) (s : Int) (a : Option Addr) (n cap : Nat) (l : List Ed) (lo2 hi2 : Nat) (b : Option Addr) (m mc : Nat) (ps : List Pc) (w : World) (ha : EdgesIn lo hi w a l) (hh : hi ≤ w.heap.size) (hn : l.length = n) (hm : n ≤ 1048576)
    (hb : PathIn lo2 hi2 w b ps) (hh2 : hi2 ≤ w.heap.size) (hn2 : ps.length = m) (hm2 : m ≤ 1048576) (hq : ∀ i, i < m → (pat ps i).2.2.length ≤ 1048576) :
    Calls Try.prog 30 #[gv s a n cap, pv b m mc] w fun e w' => ∃ (a' : Option Addr) (n' c' : Nat), e = .returned (.slice a' n' c') ∧ Hid ((pPairs s l ps).length = n') ∧ Hid (RowsOwn w.heap.size w'.heap.size w' a' (pPairs s l ps)) ∧ Hid (Below w.heap.size w w') := by
  have HN : Hid (l.length = n) := hn
  have HA : Hid (EdgesIn lo hi w a l) := ha
  have HH : Hid (hi ≤ w.heap.size) := hh
  have HP : Hid (PathIn lo2 hi2 w b ps) := hb
  have HH2 : Hid (hi2 ≤ w.heap.size) := hh2
  have HN2 : Hid (ps.length = m) := hn2
  have HQ : Hid (∀ i, i < m → (pat ps i).2.2.length ≤ 1048576) := hq
  clear ha hh hn hb hh2 hn2 hq
  obtain ⟨i1, hi1, hy0, hy1, hy2⟩ := info_parts Try.info29
  obtain ⟨B, HB⟩ : ∃ B, Hid (B = w.heap.size) := ⟨_, rfl⟩
  obtain ⟨W, HW⟩ : ∃ W, Hid (W = ((w.alloc (.cells #[.int .i64 s, .slice a n cap] 26)).alloc (.cells #[.slice b m mc] 36)).alloc (.cells #[] 29)) := ⟨_, rfl⟩
  have HBW : Hid (Below w.heap.size w W) := by rw [HW.out]; exact below3 w _ _ _
  have HSW : Hid (W.heap.size = B + 3) := by rw [HW.out, HB.out]; show _ = _; simp
  have HG : Hid (Blk W B 2 (fun i => if i = 0 then .int .i64 s else .slice a n cap)) := by rw [HW.out]; exact ((blk_two w B HB.out _ _ _).alloc _).alloc _
  have HPB : Hid (Blk W (B + 1) 1 (fun _ => .slice b m mc)) := by rw [HW.out]; exact (blk_one _ (B + 1) (by rw [HB.out]; simp) _ _).alloc _
  have HLD0 : Hid (LaidR (B + 2) W (.slice (some ⟨B + 1 + 1, 0, none⟩) 0 0) [] (fun c => c = B + 1 + 1)) := by
    have h := LaidR.made (World.ownsRow_made ((w.alloc (.cells #[.int .i64 s, .slice a n cap] 26)).alloc (.cells #[.slice b m mc] 36)) (base := B + 2) (e := 29) (size := 1) #[] 0 (by rw [HB.out]; simp) (Nat.zero_le _) rfl)
    rw [← HW.out] at h
    have e : ((w.alloc (.cells #[.int .i64 s, .slice a n cap] 26)).alloc (.cells #[.slice b m mc] 36)).heap.size = B + 1 + 1 := by rw [HB.out]; simp
    rw [e] at h
    have e2 : (fun c => (Value.slice (some ⟨B + 1 + 1, 0, none⟩) 0 0).ownBlock = some c) = (fun c => c = B + 1 + 1) := by
      funext c
      simp [Value.ownBlock, eq_comm]
    rw [← e2]
    exact h
  have q0 := HPB.out.cell (i := 0) (by omega)
  obtain ⟨g0, g1⟩ := blk_pair_cells HG.out
  unfold pv
  go_enter Try.func30, Try.ntmps30
  obtain ⟨FF, HFF⟩ : ∃ F : Func, Hid (F = Try.f30) := ⟨_, rfl⟩
  rw [← HFF.out]
  go_upto_region 2 with fail
  rw [← HB.out, ← HW.out]
  clear HW
  go_wp2_with fail
  refine (leadsInGraph_any lo hi s a n cap l lo2 hi2 b m mc ps W (HA.out.below HBW.out HH.out) (Nat.le_trans HH.out HBW.out.size) HN.out hm (HP.out.below HBW.out HH2.out) (Nat.le_trans HH2.out HBW.out.size) HN2.out hm2 HQ.out).mono ?_
  rintro e w1 ⟨h, r, rfl, HR, HRE, HHL, HB1⟩
  obtain ⟨P7, HP7⟩ : ∃ P, Hid (P = w1.heap.size) := ⟨_, rfl⟩
  obtain ⟨W2, HW2⟩ : ∃ W1, Hid (W1 = (w1.alloc (.cells #[.int .u16 0, .int .u16 0, .int .u16 0, .int .u16 0, .int .u16 0, .int .u16 0, .int .u16 0, .int .u16 0, .int .u16 0, .int .u16 0, .int .u16 0, .int .u16 0, .int .u16 0] 87)).setCells P7 0 (lcells h)) := ⟨_, rfl⟩
  have HT1 : Hid ((w1.alloc (.cells #[.int .u16 0, .int .u16 0, .int .u16 0, .int .u16 0, .int .u16 0, .int .u16 0, .int .u16 0, .int .u16 0, .int .u16 0, .int .u16 0, .int .u16 0, .int .u16 0, .int .u16 0] 87)).there w1.heap.size 0 13) := (LBlk.zero w1 _ rfl _).there
  have HX2 : Hid (LBlk W2 P7 h) := by rw [HW2.out]; exact (LBlk.zero w1 P7 HP7.out _).put h
  have HBW2 : Hid (Below W.heap.size W W2) := by rw [HW2.out]; exact Below.setCells (by have := HP7.out; have := HB1.out.size; omega) _ _ (HB1.out.trans ((below1 w1 _).mono HB1.out.size))
  have HBE2 : Hid (Below w.heap.size w W2) := HBW.out.trans (HBW2.out.mono HBW.out.size)
  have HG2 : Hid (Blk W2 B 2 (fun i => if i = 0 then .int .i64 s else .slice a n cap)) := HG.out.of_block (HBW2.out.block _ HG.out.lt)
  have HLD2 : Hid (LaidR (B + 2) W2 (.slice (some ⟨B + 1 + 1, 0, none⟩) 0 0) [] (fun c => c = B + 1 + 1)) := HLD0.out.below HBW2.out
  have HP7B : Hid (B + 3 ≤ P7 ∧ P7 < W2.heap.size) := ⟨by have := HP7.out; have := HB1.out.size; have := HSW.out; omega, HX2.out.lt⟩
  clear q0 g0 g1 HLD0
  obtain ⟨g0, g1⟩ := blk_pair_cells HG2.out
  go_upto_region 3 with (with_reducible refine wpList_here ?_; refine wpList_store_mid rfl 87 _ _ rfl w1.heap.size 0 (lcells h).toArray rfl rfl (by rw [lcells_size]; exact HT1.out) (by rw [lcells_size]; exact info_leads) (lcells_one _) ?_; dsimp only [Act.put])
  rw [← HP7.out]
  first | rw [← HW2.out] | (rw [show _ = W2 from HW2.out.symm])
  clear HW2 HT1
  rcases Bool.eq_false_or_eq_true r with hr | hr
  · subst hr
    have hokg : okG s l = true := by
      have h3 := HR.out.symm
      simp only [Bool.and_eq_true] at h3
      exact h3.2
    have hs12 := (okG_12 hokg)
    obtain ⟨NN, rfl⟩ : ∃ NN : Nat, s = (NN : Int) := ⟨s.toNat, by omega⟩
    have hN12 : NN ≤ 12 := by omega
    obtain ⟨RR, HRR⟩ : ∃ R : Rl, Hid (R = ldR NN l ps) := ⟨_, rfl⟩
    have HREP : Hid (Rep NN h RR) := by rw [HRR.out]; exact HRE.out rfl
    have HPP : Hid (pPairs (NN : Int) l ps = prsTo NN RR NN) := by
      show _ = _
      unfold pPairs
      rw [← HR.out, HRR.out]
      rfl
    have HPL : Hid (∀ i, i ≤ NN → (prsTo NN RR i).length ≤ 144) := fun i hi => Nat.le_trans (prsTo_len NN RR i) (Nat.le_trans (Nat.mul_le_mul hi (Nat.le_refl _)) (nn_le hN12))
    clear hokg HR HRE
    go_wp2
    go_loopw [23, 5] (fun i v wr => ∃ (k k' : Nat) (v5 : Value) (U : Nat → Prop), i = .int .i64 k ∧ v5 = v ∧ k ≤ NN ∧ Hid ((prsTo NN RR k).length = k') ∧ Hid (LaidR (B + 2) wr v5 (prsTo NN RR k) U) ∧ Hid (Use W2 (fun c => c = B + 1 + 1) wr U)) (fun i _ _ => NN - (intOf i).toNat)
    case atStart => exact ⟨0, 0, _, _, rfl, rfl, by omega, rfl, HLD2, Use.refl _ _⟩
    case round =>
      obtain ⟨V, rfl⟩ : ∃ V, V = wr := ⟨_, rfl⟩
      obtain ⟨k, k', v5, U, rfl, rfl, hk, HKL, HLD, HUS⟩ := hrel
      have HBR : Hid (Below (B + 2) W2 V) := HUS.out.to_below (by have := HBW2.out.size; have := HSW.out; omega) (fun c hc => by omega)
      by_cases hlt : k < NN
      · have hlt1 : (k : Int) < (NN : Int) := by omega
        have hk12 : k < 12 := by omega
        have hk12i : (k : Int) < 13 := by omega
        have hk0 : (0 : Int) ≤ (k : Int) := by omega
        have HXR : Hid (LBlk V P7 h) := HX2.out.of (HUS.out.1.block _ HX2.out.lt (by have := HP7B.out; omega))
        have hx := HXR.out.get (k := k) (by omega)
        have HE : Hid (vertsTo (h k) 12 = endsL NN RR k) := verts_ends HREP.out hN12 hlt
        go_wp2_with fail
        refine (vertices_any (h k) _ (HHL.out k (by omega))).mono ?_
        rintro e w4 ⟨a4, n4, c4, rfl, HL4, HR4, HB4⟩
        rw [HE.out] at HL4 HR4
        have HLD4 : Hid (LaidR (B + 2) w4 v5 (prsTo NN RR k) U) := HLD.out.below HB4.out
        have HUS4 : Hid (Use W2 (fun c => c = B + 1 + 1) w4 U) := HUS.out.below HB4.out
        have hn4 : n4 ≤ 12 := by rw [← HL4.out]; exact Nat.le_trans (endsL_len _ _ _) hN12
        have HULT : Hid (∀ c, U c → c < V.heap.size) := fun c hc => (HLD.out.lt hc).2
        have hszr := HB4.out.size
        have hB2 : B + 2 ≤ V.heap.size := by have := HUS.out.1.size; have := HBW2.out.size; have := HSW.out; omega
        clear hx
        go_wp2
        go_loopw [31, 5] (fun i v wr => ∃ (j kj : Nat) (v6 : Value) (U' : Nat → Prop), i = .int .i64 j ∧ v6 = v ∧ j ≤ n4 ∧ kj = k' + j ∧ Hid (LaidR (B + 2) wr v6 (prsTo NN RR k ++ (prsOf NN RR k).take j) U') ∧ Hid (Use w4 U wr U')) (fun i _ _ => n4 - (intOf i).toNat)
        case atStart => exact ⟨0, k', v5, U, rfl, rfl, by omega, rfl, by simpa using HLD4, Use.refl _ _⟩
        case round =>
          obtain ⟨j, kj, v6, U', rfl, rfl, hj, rfl, HLQ, HUQ⟩ := hrel
          have HLEN : Hid ((prsTo NN RR k ++ (prsOf NN RR k).take j).length = k' + j) := by
            show _ = _
            rw [List.length_append, HKL.out, List.length_take]
            have : (prsOf NN RR k).length = n4 := by unfold prsOf; rw [List.length_map, HL4.out]
            omega
          by_cases hjn : j < n4
          · have hjn1 : (j : Int) < (n4 : Int) := by omega
            have hjn0 : (0 : Int) ≤ (j : Int) := by omega
            have HRQ : Hid (RowIn V.heap.size w4.heap.size wr a4 (endsL NN RR k)) := HR4.out.toIn.kept HUQ.out.1 (Nat.le_refl _) (fun c hc _ hu => by have := HULT.out c hu; omega)
            obtain ⟨b5, o5, rfl, hc5⟩ := HRQ.out.num (i := j) (by rw [HL4.out]; exact hjn)
            obtain ⟨y, HY⟩ : ∃ y, Hid (y = (endsL NN RR k).getD j 0) := ⟨_, rfl⟩
            rw [← HY.out] at hc5
            have HST : Hid (prsTo NN RR k ++ (prsOf NN RR k).take (j + 1) = (prsTo NN RR k ++ (prsOf NN RR k).take j) ++ [[(k : Int), y]]) := by show _ = _; rw [prs_take (by rw [HL4.out]; exact hjn), HY.out, List.append_assoc]
            have HL2 := HLQ.out.below (below2 wr (.cells #[.int .i64 (k : Int), .int .i64 y] 3) (.cells #[.slice (some ⟨wr.heap.size, 0, none⟩) 2 2] 29))
            obtain ⟨f, R, C, h1, h2, h3, h4⟩ := HL2
            obtain ⟨L, HLL⟩ : ∃ L, Hid (L = prsTo NN RR k ++ (prsOf NN RR k).take j) := ⟨_, rfl⟩
            rw [HLEN.out] at h1
            have hL2 : k' + j ≤ 1000 := by have := HKL.out; have := HPL.out k (by omega); omega
            have H2 : Hid (∀ c, v6.ownBlock = some c → U' c) := h2
            have H3 : Hid (∀ c, U' c → B + 2 ≤ c ∧ c < ((wr.alloc (.cells #[.int .i64 (k : Int), .int .i64 y] 3)).alloc (.cells #[.slice (some ⟨wr.heap.size, 0, none⟩) 2 2] 29)).heap.size) := h3
            have H4 := h4
            have hszq : B + 2 ≤ wr.heap.size := by have := HUQ.out.1.size; omega
            clear h2 h3 h4
            go_wp2_with (at_builtin; refine wpList_append_lies _ rfl (.tmp 35) (.tmp 39) 58 rfl (B + 2) 29 i1 (.slice none 0 0) 1 24 Try.underlying58 hi1 hy0 hy1 hy2 rfl (by decide) _ (k' + j) ((List.range (k' + j)).map f) rfl h1 ⟨wr.heap.size + 1, 0, none⟩ 1 1 [.slice (some ⟨wr.heap.size, 0, none⟩) 2 2] rfl rfl (by have := cell_one_new' (wr.alloc (.cells #[.int .i64 (k : Int), .int .i64 y] 3)) (.slice (some ⟨wr.heap.size, 0, none⟩) 2 2) 29; simpa using this) (by simp [Value.oneCell']) (by decide) (by unfold maxLen; omega) (by omega) (by simp; omega) _ rfl ?_)
            intro g5 cap5 w6 hown5 hgrow5 hloc5 hg5
            have HNEW := LaidR.pair (x := (k : Int)) (y := y) HLQ.out HLEN.out H2.out H3.out H4 hszq hgrow5 hloc5 hg5 hown5
            obtain ⟨U6, HL6', HU6'⟩ := HNEW
            rw [← HST.out] at HL6'
            have HL6 : Hid (LaidR (B + 2) w6 (.slice (some ⟨g5, 0, none⟩) (k' + j + 1) cap5) (prsTo NN RR k ++ (prsOf NN RR k).take (j + 1)) U6) := HL6'
            have HU6 : Hid (Use w4 U w6 U6) := HUQ.out.trans HU6'
            clear h1 hown5 hgrow5 hloc5 hg5 hc5 HL6' HU6' H3 H4
            go_wp2
            go_roundw
            case rel => exact ⟨j + 1, k' + (j + 1), _, U6, by go_num, rfl, by omega, rfl, HL6, HU6⟩
            case measure => simp [intOf]; omega
          · obtain rfl : j = n4 := by omega
            have HTA : Hid (prsTo NN RR k ++ (prsOf NN RR k).take j = prsTo NN RR (k + 1)) := by
              show _ = _
              have : (prsOf NN RR k).length = j := by unfold prsOf; rw [List.length_map, HL4.out]
              rw [prsTo, ← this, List.take_length]
            rw [HTA.out] at HLQ HLEN
            go_wp2
            go_roundw
            case rel => exact ⟨k + 1, k' + j, _, U', by go_num, rfl, by omega, HLEN, HLQ, HUS4.out.trans HUQ.out⟩
            case measure => simp [intOf]; omega
      · obtain rfl : k = NN := by omega
        obtain ⟨a9, c9, e9, HOW⟩ := HLD.out.toOwn
        rw [HKL.out] at e9
        subst e9
        have HOW2 : Hid (RowsOwn (B + 2) V.heap.size V a9 (prsTo k RR k)) := HOW
        have HBX : Hid (Below w.heap.size w V) := HBE2.out.trans (HBR.out.mono (by have := HB.out; omega))
        clear HOW
        go_wp2
        obtain rfl : FF = Try.f30 := HFF.out
        go_ret
        rw [HPP.out]
        exact ⟨a9, k', c9, rfl, HKL, HOW2.out.wide (by have := HB.out; omega) (Nat.le_refl _), HBX⟩
  · subst hr
    have HE : Hid (pPairs s l ps = []) := by
      show _ = _
      unfold pPairs
      rw [← HR.out]
      rfl
    go_wp2
    obtain rfl : FF = Try.f30 := HFF.out
    go_ret
    rw [HE.out]
    first | exact ⟨_, _, _, rfl, rfl, .inl rfl, HBE2⟩ | exact ⟨_, _, ⟨_, rfl⟩, rfl, .inl rfl, HBE2⟩ | exact ⟨_, ⟨_, rfl⟩, .inl rfl, HBE2⟩ | exact ⟨⟨_, _, _, rfl, rfl, .inl rfl⟩, HBE2⟩
end Go.Proofs.Ytdbogikcmfnpdaa

/-
  The model's PathPairs.
-/
namespace Go.Proofs.Ytdbogikcmfnpdaa
open Go.RowKit

theorem prs_two (n : Nat) (R : Rl) : ∀ i, ∀ x ∈ prsTo n R i, x.length ≤ 2
  | 0 => by simp [prsTo]
  | i + 1 => by
    intro x hx
    rw [prsTo, List.mem_append] at hx
    rcases hx with h | h
    · exact prs_two n R i x h
    · unfold prsOf at h
      obtain ⟨z, _, rfl⟩ := List.mem_map.1 h
      simp
theorem pPairs_bound (s : Int) (l : List Ed) (ps : List Pc) : (pPairs s l ps).length ≤ 144 ∧ ∀ i, (rat (pPairs s l ps) i).length ≤ 2 := by
  unfold pPairs
  split
  · rename_i h
    simp only [Bool.and_eq_true] at h
    have h12 := okG_12 h.2
    have hn : s.toNat ≤ 12 := by omega
    refine ⟨Nat.le_trans (prsTo_len _ _ _) (nn_le hn), fun i => ?_⟩
    unfold rat List.getD
    cases e : (prsTo s.toNat (ldR s.toNat l ps) s.toNat)[i]? with
    | none => simp
    | some x => exact prs_two _ _ _ x (List.mem_of_getElem? e)
  · exact ⟨by simp, fun i => by simp [rat, List.getD]⟩

set_option maxHeartbeats 1000000 in
set_option maxRecDepth 100000 in
theorem specPairs_any (lo hi : Nat) (s : Int) (a : Option Addr) (n cap : Nat) (l : List Ed) (lo2 hi2 : Nat) (b : Option Addr) (m mc : Nat) (ps : List Pc) (w : World) (ha : EdgesIn lo hi w a l) (hh : hi ≤ w.heap.size) (hn : l.length = n) (hm : n ≤ 1048576)
    (hb : PathIn lo2 hi2 w b ps) (hh2 : hi2 ≤ w.heap.size) (hn2 : ps.length = m) (hm2 : m ≤ 1048576) (hq : ∀ i, i < m → (pat ps i).2.2.length ≤ 1048576) :
    Calls Try.prog 29 #[gv s a n cap, pv b m mc] w fun e w' => ∃ (a' : Option Addr) (n' c' : Nat), e = .returned (.slice a' n' c') ∧ Hid ((pPairs s l ps).length = n') ∧ Hid (RowsOwn w.heap.size w'.heap.size w' a' (pPairs s l ps)) ∧ Hid (Below w.heap.size w w') := by
  have HN : Hid (l.length = n) := hn
  have HA : Hid (EdgesIn lo hi w a l) := ha
  have HH : Hid (hi ≤ w.heap.size) := hh
  have HP : Hid (PathIn lo2 hi2 w b ps) := hb
  have HH2 : Hid (hi2 ≤ w.heap.size) := hh2
  have HN2 : Hid (ps.length = m) := hn2
  have HQ : Hid (∀ i, i < m → (pat ps i).2.2.length ≤ 1048576) := hq
  clear ha hh hn hb hh2 hn2 hq
  obtain ⟨i1, hi1, hy0, hy1, hy2⟩ := info_parts Try.info29
  obtain ⟨B, HB⟩ : ∃ B, Hid (B = w.heap.size) := ⟨_, rfl⟩
  obtain ⟨W, HW⟩ : ∃ W, Hid (W = ((w.alloc (.cells #[.int .i64 s, .slice a n cap] 26)).alloc (.cells #[.slice b m mc] 36)).alloc (.cells #[] 29)) := ⟨_, rfl⟩
  have HBW : Hid (Below w.heap.size w W) := by rw [HW.out]; exact below3 w _ _ _
  have HSW : Hid (W.heap.size = B + 3) := by rw [HW.out, HB.out]; show _ = _; simp
  have HG : Hid (Blk W B 2 (fun i => if i = 0 then .int .i64 s else .slice a n cap)) := by rw [HW.out]; exact ((blk_two w B HB.out _ _ _).alloc _).alloc _
  have HPB : Hid (Blk W (B + 1) 1 (fun _ => .slice b m mc)) := by rw [HW.out]; exact (blk_one _ (B + 1) (by rw [HB.out]; simp) _ _).alloc _
  have HLD0 : Hid (LaidR (B + 2) W (.slice (some ⟨B + 1 + 1, 0, none⟩) 0 0) [] (fun c => c = B + 1 + 1)) := by
    have h := LaidR.made (World.ownsRow_made ((w.alloc (.cells #[.int .i64 s, .slice a n cap] 26)).alloc (.cells #[.slice b m mc] 36)) (base := B + 2) (e := 29) (size := 1) #[] 0 (by rw [HB.out]; simp) (Nat.zero_le _) rfl)
    rw [← HW.out] at h
    have e : ((w.alloc (.cells #[.int .i64 s, .slice a n cap] 26)).alloc (.cells #[.slice b m mc] 36)).heap.size = B + 1 + 1 := by rw [HB.out]; simp
    rw [e] at h
    have e2 : (fun c => (Value.slice (some ⟨B + 1 + 1, 0, none⟩) 0 0).ownBlock = some c) = (fun c => c = B + 1 + 1) := by
      funext c
      simp [Value.ownBlock, eq_comm]
    rw [← e2]
    exact h
  have q0 := HPB.out.cell (i := 0) (by omega)
  obtain ⟨g0, g1⟩ := blk_pair_cells HG.out
  obtain ⟨RG, HRG⟩ : ∃ r, Hid (r = okG s l) := ⟨_, rfl⟩
  obtain ⟨RP, HRP⟩ : ∃ r, Hid (r = okP ps) := ⟨_, rfl⟩
  have HNO : Hid (RG = false ∨ RP = false → pPairs s l ps = []) := by
    intro h
    unfold pPairs
    rw [← HRG.out, ← HRP.out]
    rcases h with h | h <;> simp [h]
  have HEND : Hid (∀ wx, Below W.heap.size W wx → pPairs s l ps = [] → ∃ (a' : Option Addr) (n' c' : Nat), Ending.returned (.slice (some ⟨B + 1 + 1, 0, none⟩) 0 0) = .returned (.slice a' n' c') ∧ Hid ((pPairs s l ps).length = n') ∧ Hid (RowsOwn w.heap.size wx.heap.size wx a' (pPairs s l ps)) ∧ Hid (Below w.heap.size w wx)) := by
    intro wx h1 h2
    rw [h2]
    exact ⟨_, _, _, rfl, rfl, .inl rfl, HBW.out.trans (h1.mono HBW.out.size)⟩
  unfold pv
  go_enter Try.func29, Try.ntmps29
  obtain ⟨FF, HFF⟩ : ∃ F : Func, Hid (F = Try.f29) := ⟨_, rfl⟩
  rw [← HFF.out]
  go_upto_region 2 with fail
  rw [← HB.out, ← HW.out]
  clear HW
  go_wp2_with fail
  refine (specGOk_any lo hi s a n cap l RG W (HA.out.below HBW.out HH.out) (Nat.le_trans HH.out HBW.out.size) HN.out hm HRG.out).mono ?_
  rintro e w1 ⟨rfl, HB1⟩
  have HG1 : Hid (Blk w1 B 2 (fun i => if i = 0 then .int .i64 s else .slice a n cap)) := HG.out.of_block (HB1.out.block _ HG.out.lt)
  have HPB1 : Hid (Blk w1 (B + 1) 1 (fun _ => .slice b m mc)) := HPB.out.of_block (HB1.out.block _ HPB.out.lt)
  clear q0 g0 g1
  rcases Bool.eq_false_or_eq_true RG with hr | hr
  · subst hr
    have q0 := HPB1.out.cell (i := 0) (by omega)
    go_wp2_with fail
    refine (specPathOk_any lo2 hi2 b m mc ps RP w1 (HP.out.below (HBW.out.trans (HB1.out.mono HBW.out.size)) HH2.out) (Nat.le_trans HH2.out (Nat.le_trans HBW.out.size HB1.out.size)) HN2.out hm2 HQ.out HRP.out).mono ?_
    rintro e w2 ⟨rfl, HB2⟩
    have HBX2 : Hid (Below W.heap.size W w2) := HB1.out.trans (HB2.out.mono HB1.out.size)
    have HG2 : Hid (Blk w2 B 2 (fun i => if i = 0 then .int .i64 s else .slice a n cap)) := HG.out.of_block (HBX2.out.block _ HG.out.lt)
    have HPB2 : Hid (Blk w2 (B + 1) 1 (fun _ => .slice b m mc)) := HPB.out.of_block (HBX2.out.block _ HPB.out.lt)
    clear q0
    rcases Bool.eq_false_or_eq_true RP with hr | hr
    · subst hr
      obtain ⟨g0, g1⟩ := blk_pair_cells HG2.out
      have q0 := HPB2.out.cell (i := 0) (by omega)
      have hs12 := okG_12 (show okG s l = true from HRG.out.symm)
      obtain ⟨NN, rfl⟩ : ∃ NN : Nat, s = (NN : Int) := ⟨s.toNat, by omega⟩
      have hN12 : NN ≤ 12 := by omega
      obtain ⟨RR, HRR⟩ : ∃ R : Rl, Hid (R = ldR NN l ps) := ⟨_, rfl⟩
      have HPP : Hid (pPairs (NN : Int) l ps = prsTo NN RR NN) := by
        show _ = _
        unfold pPairs
        rw [← HRG.out, ← HRP.out, HRR.out]
        rfl
      have HPE : Hid (∀ k, k < NN → pEnds (NN : Int) l ps (k : Int) = endsL NN RR k) := by
        intro k hk
        have hv : inV (NN : Int) (k : Int) = true := by unfold inV; simp; omega
        unfold pEnds
        rw [← HRG.out, ← HRP.out, hv, HRR.out]
        rfl
      have HPL : Hid (∀ i, i ≤ NN → (prsTo NN RR i).length ≤ 144) := fun i hi => Nat.le_trans (prsTo_len NN RR i) (Nat.le_trans (Nat.mul_le_mul hi (Nat.le_refl _)) (nn_le hN12))
      have HLD2 : Hid (LaidR (B + 2) w2 (.slice (some ⟨B + 1 + 1, 0, none⟩) 0 0) [] (fun c => c = B + 1 + 1)) := HLD0.out.below HBX2.out
      have HBW2 : Hid (Below w.heap.size w w2) := HBW.out.trans (HBX2.out.mono HBW.out.size)
      clear q0 g0 g1 HLD0 HNO HEND
      go_wp2
      go_loopw [6, 5] (fun i v wr => ∃ (k k' : Nat) (v5 : Value) (U : Nat → Prop), i = .int .i64 k ∧ v5 = v ∧ k ≤ NN ∧ Hid ((prsTo NN RR k).length = k') ∧ Hid (LaidR (B + 2) wr v5 (prsTo NN RR k) U) ∧ Hid (Use w2 (fun c => c = B + 1 + 1) wr U)) (fun i _ _ => NN - (intOf i).toNat)
      case atStart => exact ⟨0, 0, _, _, rfl, rfl, by omega, rfl, HLD2, Use.refl _ _⟩
      case round =>
        obtain ⟨V, rfl⟩ : ∃ V, V = wr := ⟨_, rfl⟩
        obtain ⟨k, k', v5, U, rfl, rfl, hk, HKL, HLD, HUS⟩ := hrel
        have HBR : Hid (Below (B + 2) w2 V) := HUS.out.to_below (by have := HBX2.out.size; have := HSW.out; omega) (fun c hc => by omega)
        have HGR : Hid (Blk V B 2 (fun i => if i = 0 then .int .i64 (NN : Int) else .slice a n cap)) := HG2.out.of_block (HBR.out.block _ (by omega))
        have HPBR : Hid (Blk V (B + 1) 1 (fun _ => .slice b m mc)) := HPB2.out.of_block (HBR.out.block _ (by omega))
        obtain ⟨g0, g1⟩ := blk_pair_cells HGR.out
        have q0 := HPBR.out.cell (i := 0) (by omega)
        have HBWR : Hid (Below w.heap.size w V) := HBW2.out.trans (HBR.out.mono (by have := HB.out; omega))
        by_cases hlt : k < NN
        · have hlt1 : (k : Int) < (NN : Int) := by omega
          have hk0 : (0 : Int) ≤ (k : Int) := by omega
          go_wp2_with fail
          refine (specEnds_any lo hi (NN : Int) a n cap l lo2 hi2 b m mc ps (k : Int) V (HA.out.below HBWR.out HH.out) (Nat.le_trans HH.out HBWR.out.size) HN.out hm (HP.out.below HBWR.out HH2.out) (Nat.le_trans HH2.out HBWR.out.size) HN2.out hm2 HQ.out).mono ?_
          rintro e w4 ⟨a4, n4, c4, rfl, HL4, HR4, HB4⟩
          rw [HPE.out k hlt] at HL4 HR4
          have HLD4 : Hid (LaidR (B + 2) w4 v5 (prsTo NN RR k) U) := HLD.out.below HB4.out
          have HUS4 : Hid (Use w2 (fun c => c = B + 1 + 1) w4 U) := HUS.out.below HB4.out
          have hn4 : n4 ≤ 12 := by rw [← HL4.out]; exact Nat.le_trans (endsL_len _ _ _) hN12
          have HULT : Hid (∀ c, U c → c < V.heap.size) := fun c hc => (HLD.out.lt hc).2
          have hszr := HB4.out.size
          have hB2 : B + 2 ≤ V.heap.size := by have := HUS.out.1.size; have := HBX2.out.size; have := HSW.out; omega
          clear g0 g1 q0
          go_wp2
          go_loopw [8, 5] (fun i v wr => ∃ (j kj : Nat) (v6 : Value) (U' : Nat → Prop), i = .int .i64 j ∧ v6 = v ∧ j ≤ n4 ∧ kj = k' + j ∧ Hid (LaidR (B + 2) wr v6 (prsTo NN RR k ++ (prsOf NN RR k).take j) U') ∧ Hid (Use w4 U wr U')) (fun i _ _ => n4 - (intOf i).toNat)
          case atStart => exact ⟨0, k', v5, U, rfl, rfl, by omega, rfl, by simpa using HLD4, Use.refl _ _⟩
          case round =>
            obtain ⟨j, kj, v6, U', rfl, rfl, hj, rfl, HLQ, HUQ⟩ := hrel
            have HLEN : Hid ((prsTo NN RR k ++ (prsOf NN RR k).take j).length = k' + j) := by
              show _ = _
              rw [List.length_append, HKL.out, List.length_take]
              have : (prsOf NN RR k).length = n4 := by unfold prsOf; rw [List.length_map, HL4.out]
              omega
            by_cases hjn : j < n4
            · have hjn1 : (j : Int) < (n4 : Int) := by omega
              have hjn0 : (0 : Int) ≤ (j : Int) := by omega
              have HRQ : Hid (RowIn V.heap.size w4.heap.size wr a4 (endsL NN RR k)) := HR4.out.toIn.kept HUQ.out.1 (Nat.le_refl _) (fun c hc _ hu => by have := HULT.out c hu; omega)
              obtain ⟨b5, o5, rfl, hc5⟩ := HRQ.out.num (i := j) (by rw [HL4.out]; exact hjn)
              obtain ⟨y, HY⟩ : ∃ y, Hid (y = (endsL NN RR k).getD j 0) := ⟨_, rfl⟩
              rw [← HY.out] at hc5
              have HST : Hid (prsTo NN RR k ++ (prsOf NN RR k).take (j + 1) = (prsTo NN RR k ++ (prsOf NN RR k).take j) ++ [[(k : Int), y]]) := by show _ = _; rw [prs_take (by rw [HL4.out]; exact hjn), HY.out, List.append_assoc]
              have HL2 := HLQ.out.below (below2 wr (.cells #[.int .i64 (k : Int), .int .i64 y] 3) (.cells #[.slice (some ⟨wr.heap.size, 0, none⟩) 2 2] 29))
              obtain ⟨f, R, C, h1, h2, h3, h4⟩ := HL2
              obtain ⟨L, HLL⟩ : ∃ L, Hid (L = prsTo NN RR k ++ (prsOf NN RR k).take j) := ⟨_, rfl⟩
              rw [HLEN.out] at h1
              have hL2 : k' + j ≤ 1000 := by have := HKL.out; have := HPL.out k (by omega); omega
              have H2 : Hid (∀ c, v6.ownBlock = some c → U' c) := h2
              have H3 : Hid (∀ c, U' c → B + 2 ≤ c ∧ c < ((wr.alloc (.cells #[.int .i64 (k : Int), .int .i64 y] 3)).alloc (.cells #[.slice (some ⟨wr.heap.size, 0, none⟩) 2 2] 29)).heap.size) := h3
              have H4 := h4
              have hszq : B + 2 ≤ wr.heap.size := by have := HUQ.out.1.size; omega
              clear h2 h3 h4
              go_wp2_with (at_builtin; refine wpList_append_lies _ rfl (.tmp 35) (.tmp 42) 58 rfl (B + 2) 29 i1 (.slice none 0 0) 1 24 Try.underlying58 hi1 hy0 hy1 hy2 rfl (by decide) _ (k' + j) ((List.range (k' + j)).map f) rfl h1 ⟨wr.heap.size + 1, 0, none⟩ 1 1 [.slice (some ⟨wr.heap.size, 0, none⟩) 2 2] rfl rfl (by have := cell_one_new' (wr.alloc (.cells #[.int .i64 (k : Int), .int .i64 y] 3)) (.slice (some ⟨wr.heap.size, 0, none⟩) 2 2) 29; simpa using this) (by simp [Value.oneCell']) (by decide) (by unfold maxLen; omega) (by omega) (by simp; omega) _ rfl ?_)
              intro g5 cap5 w6 hown5 hgrow5 hloc5 hg5
              have HNEW := LaidR.pair (x := (k : Int)) (y := y) HLQ.out HLEN.out H2.out H3.out H4 hszq hgrow5 hloc5 hg5 hown5
              obtain ⟨U6, HL6', HU6'⟩ := HNEW
              rw [← HST.out] at HL6'
              have HL6 : Hid (LaidR (B + 2) w6 (.slice (some ⟨g5, 0, none⟩) (k' + j + 1) cap5) (prsTo NN RR k ++ (prsOf NN RR k).take (j + 1)) U6) := HL6'
              have HU6 : Hid (Use w4 U w6 U6) := HUQ.out.trans HU6'
              clear h1 hown5 hgrow5 hloc5 hg5 hc5 HL6' HU6' H3 H4
              go_wp2
              go_roundw
              case rel => exact ⟨j + 1, k' + (j + 1), _, U6, by go_num, rfl, by omega, rfl, HL6, HU6⟩
              case measure => simp [intOf]; omega
            · obtain rfl : j = n4 := by omega
              have HTA : Hid (prsTo NN RR k ++ (prsOf NN RR k).take j = prsTo NN RR (k + 1)) := by
                show _ = _
                have : (prsOf NN RR k).length = j := by unfold prsOf; rw [List.length_map, HL4.out]
                rw [prsTo, ← this, List.take_length]
              rw [HTA.out] at HLQ HLEN
              go_wp2
              go_roundw
              case rel => exact ⟨k + 1, k' + j, _, U', by go_num, rfl, by omega, HLEN, HLQ, HUS4.out.trans HUQ.out⟩
              case measure => simp [intOf]; omega
        · obtain rfl : k = NN := by omega
          obtain ⟨a9, c9, e9, HOW⟩ := HLD.out.toOwn
          rw [HKL.out] at e9
          subst e9
          have HOW2 : Hid (RowsOwn (B + 2) V.heap.size V a9 (prsTo k RR k)) := HOW
          have HBX : Hid (Below w.heap.size w V) := HBW2.out.trans (HBR.out.mono (by have := HB.out; omega))
          clear HOW
          go_wp2
          obtain rfl : FF = Try.f29 := HFF.out
          go_ret
          rw [HPP.out]
          exact ⟨a9, k', c9, rfl, HKL, HOW2.out.wide (by have := HB.out; omega) (Nat.le_refl _), HBX⟩
    · subst hr
      go_wp2
      obtain rfl : FF = Try.f29 := HFF.out
      go_ret
      exact HEND.out _ HBX2.out (HNO.out (by simp))
  · subst hr
    go_wp2
    obtain rfl : FF = Try.f29 := HFF.out
    go_ret
    exact HEND.out _ HB1.out (HNO.out (by simp))
end Go.Proofs.Ytdbogikcmfnpdaa

/-
  Lists of rows of numbers, held against one another, marked, and whether the marks are held.
-/
namespace Go.Proofs.Ytdbogikcmfnpdaa
open Go.RowKit

set_option maxHeartbeats 4000000 in
set_option maxRecDepth 100000 in
theorem eqIntSS_any (lo hi lo' hi' : Nat) (a a' : Option Addr) (n n' cap cap' : Nat) (l l' : Rw) (r : Bool) (w : World) (ha : RowsIn lo hi w a l) (hb : RowsIn lo' hi' w a' l') (hh : hi ≤ w.heap.size) (hh' : hi' ≤ w.heap.size) (hn : l.length = n) (hn' : l'.length = n') (hm : n ≤ 1048576) (hr : ∀ i, i < n → (rat l i).length ≤ 1048576) (hR : r = decide (l = l')) :
    Calls Try.prog 31 #[.slice a n cap, .slice a' n' cap'] w fun e w' => e = .returned (.bool r) ∧ Hid (Below w.heap.size w w') := by
  have HR : Hid (r = decide (l = l')) := hR
  have HN : Hid (l.length = n) := hn
  have HN' : Hid (l'.length = n') := hn'
  have HA : Hid (RowsIn lo hi w a l) := ha
  have HB : Hid (RowsIn lo' hi' w a' l') := hb
  have HH : Hid (hi ≤ w.heap.size ∧ hi' ≤ w.heap.size) := ⟨hh, hh'⟩
  have HQ : Hid (∀ i, i < n → (rat l i).length ≤ 1048576) := hr
  clear ha hb hn hn' hh hh' hr hR
  by_cases hne : n = n'
  · subst hne
    go_enter Try.func31, Try.ntmps31
    go_wp2
    go_loopw [5] (fun i wr => ∃ k : Nat, i = .int .i64 k ∧ k ≤ n ∧ Hid (∀ j, j < k → rat l j = rat l' j) ∧ Hid (Below w.heap.size w wr)) (fun i _ => n - (intOf i).toNat)
    case atStart => exact ⟨0, rfl, by omega, fun j hj => absurd hj (by omega), Below.refl _ _⟩
    case round =>
      obtain ⟨k, rfl, hk, HE, HL⟩ := hrel
      by_cases hlt : k < n
      · have hlt1 : (k : Int) < (n : Int) := by omega
        obtain ⟨b, o, rfl, _, _, ra, rc, hc, hrow⟩ := (HA.out.below HL.out HH.out.1).row (k := k) (by rw [HN.out]; exact hlt)
        obtain ⟨b', o', rfl, _, _, ra', rc', hc', hrow'⟩ := (HB.out.below HL.out HH.out.2).row (k := k) (by rw [HN'.out]; exact hlt)
        have HROW : Hid (RowIn lo hi wr ra (rat l k)) := hrow
        have HROW' : Hid (RowIn lo' hi' wr ra' (rat l' k)) := hrow'
        obtain ⟨q, HQ1⟩ : ∃ q : Nat, Hid (q = (rat l k).length) := ⟨_, rfl⟩
        obtain ⟨q', HQ'⟩ : ∃ q : Nat, Hid (q = (rat l' k).length) := ⟨_, rfl⟩
        rw [← HQ1.out] at hc
        rw [← HQ'.out] at hc'
        clear hrow hrow'
        have hq : q ≤ 1048576 := by rw [HQ1.out]; exact HQ.out k hlt
        obtain ⟨s, HS⟩ : ∃ s : Bool, Hid (s = decide (rat l k = rat l' k)) := ⟨_, rfl⟩
        have hl1 := lt_of_cell hc
        have hl2 := lt_of_cell hc'
        have HC : Hid (∀ w0, Below wr.heap.size wr w0 → Calls Try.prog 22 #[.slice ra q rc, .slice ra' q' rc'] w0 fun e w' => e = .returned (.bool s) ∧ Hid (Below w.heap.size w w') ∧ (w'.cell? ⟨b, o + k, none⟩ = some (.slice ra q rc) ∧ w'.cell? ⟨b', o' + k, none⟩ = some (.slice ra' q' rc'))) := by
          intro w0 h
          have e1 := HH.out.1; have e2 := HH.out.2; have e3 := HL.out.size; have e4 := h.size
          refine (eqInts_any lo hi lo' hi' ra ra' q q' rc rc' (rat l k) (rat l' k) s w0 (HROW.out.below h (by omega)) (HROW'.out.below h (by omega)) HQ1.out.symm HQ'.out.symm hq HS.out).mono ?_
          exact fun _ _ ⟨h1, h2⟩ => ⟨h1, (HL.out.trans (h.mono e3)).trans (h2.mono (by omega)), cell_below hc (h.trans (h2.mono e4)) hl1, cell_below hc' (h.trans (h2.mono e4)) hl2⟩
        clear hl1 hl2
        go_wp2_with fail
        go_region_held3 (fun w' => w'.cell? ⟨b, o + k, none⟩ = some (.slice ra q rc) ∧ w'.cell? ⟨b', o' + k, none⟩ = some (.slice ra' q' rc')) (first | exact ⟨hc, hc'⟩ | exact hk1) (first | (go_at_call 22; refine (HC.out _ (Below.drew (Below.refl _ _))).mono ?_; rintro e w1 ⟨rfl, hb1, hk1⟩))
        all_goals clear hk1
        all_goals (rcases Bool.eq_false_or_eq_true s with hs | hs)
        all_goals subst hs
        · go_wp2
          go_roundw
          case rel =>
            refine ⟨k + 1, by go_num, by omega, ?_, hb1⟩
            intro j hj
            rcases Nat.lt_or_ge j k with h | h
            · exact HE.out j h
            · obtain rfl : j = k := by omega
              have := HS.out
              simpa using this.symm
          case measure => simp [intOf]; omega
        · go_wp2
          go_ret
          refine ⟨?_, hb1⟩
          have hf : r = false := by
            rw [HR.out]; simp only [decide_eq_false_iff_not]
            intro e
            have := HS.out
            rw [e] at this
            simp at this
          rw [hf]; rfl
      · go_wp2
        go_ret
        refine ⟨?_, HL⟩
        have ht : r = true := by
          rw [HR.out]; simp only [decide_eq_true_eq]
          refine rat_ext (by rw [HN.out, HN'.out]) fun i h1 => ?_
          exact HE.out i (by have := HN.out; omega)
        rw [ht]; rfl
  · have hf : r = false := by
      rw [HR.out]; simp only [decide_eq_false_iff_not]
      intro e; subst e; have := HN.out; have := HN'.out; omega
    subst hf
    go_enter Try.func31, Try.ntmps31
    go_wp2
    go_ret
    exact ⟨rfl, Below.refl _ _⟩

/-- the numbers of all rows ahead of place k -/
def rwLen (l : Rw) : Nat → Nat
  | 0 => 0
  | k + 1 => rwLen l k + (rat l k).length
theorem rwLen_mono (l : Rw) {i k : Nat} (h : i ≤ k) : rwLen l i ≤ rwLen l k := by
  induction k with
  | zero => obtain rfl : i = 0 := by omega
            exact Nat.le_refl _
  | succ k ih =>
    rcases Nat.lt_or_ge i (k + 1) with h1 | h1
    · have := ih (by omega); simp only [rwLen]; omega
    · obtain rfl : i = k + 1 := by omega
      exact Nat.le_refl _
theorem rw_le (l : Rw) {i k : Nat} (h : i < k) : (rat l i).length ≤ rwLen l k := by
  have := rwLen_mono l (i := i + 1) (k := k) (by omega)
  simp only [rwLen] at this
  omega
theorem rwLen_le {l : Rw} {c : Nat} (h : ∀ i, (rat l i).length ≤ c) : ∀ k, rwLen l k ≤ k * c
  | 0 => by simp [rwLen]
  | k + 1 => by
    have := rwLen_le h k
    have := h k
    rw [rwLen, Nat.add_mul]; omega
/-- the first mark of row i -/
def posR (K : Nat) (l : Rw) (i : Nat) : Nat := K + rwLen l i
/-- the rows ahead of place k are marked -/
def mkToR (K : Nat) (l : Rw) (k : Nat) : Rw := (List.range l.length).map fun i => if i < k then marks (posR K l i) (rat l i).length else rat l i
theorem mkToR_len (K : Nat) (l : Rw) (k : Nat) : (mkToR K l k).length = l.length := by simp [mkToR]
theorem mkToR_at {K : Nat} {l : Rw} {k i : Nat} (h : i < l.length) : rat (mkToR K l k) i = if i < k then marks (posR K l i) (rat l i).length else rat l i := by simp [mkToR, rat, List.getD, h]
theorem mkToR_zero (K : Nat) (l : Rw) : mkToR K l 0 = l := by
  refine rat_ext (mkToR_len K l 0) fun i hi => ?_
  rw [mkToR_at (by rw [mkToR_len] at hi; exact hi)]; simp
theorem mkToR_rowlen {K : Nat} {l : Rw} {k i : Nat} (h : i < l.length) : (rat (mkToR K l k) i).length = (rat l i).length := by
  rw [mkToR_at h]; split
  · exact marks_len _ _
  · rfl
theorem posR_step (K : Nat) (l : Rw) (k : Nat) : posR K l (k + 1) = posR K l k + (rat l k).length := by simp only [posR, rwLen]; omega
/-- one row turned in place -/
theorem PartR.turned {lo hi b n k : Nat} {w w1 : World} {l l' : Rw} {f : Nat → Value} {R : Nat → Option Addr} {C : Nat → Nat} {r' : List Int}
    (h1 : Blk w b n f)
    (h2 : ∀ i, i < n → f i = .slice (R i) (rat l i).length (C i) ∧ RowOwn lo hi w (R i) (rat l i) ∧ (rat l i ≠ [] → (∀ c, R i = some ⟨c, 0, none⟩ → c ≠ b) ∧ ∀ j, j < i → rat l j ≠ [] → R j ≠ R i))
    (hk : k < n) (hK : KeptP (fun c => rat l k ≠ [] ∧ R k = some ⟨c, 0, none⟩) w w1) (hr : RowOwn lo hi w1 (R k) r') (hl : r'.length = (rat l k).length)
    (e1 : rat l' k = r') (e2 : ∀ i, i < n → i ≠ k → rat l' i = rat l i) : PartR lo hi w1 b l' n n := by
  have hrow : ∀ i, i < n → (rat l' i).length = (rat l i).length := by
    intro i hi
    by_cases e : i = k
    · subst e; rw [e1]; exact hl
    · rw [e2 i hi e]
  have hne : ∀ i, i < n → (rat l' i ≠ [] ↔ rat l i ≠ []) := fun i hi => ne_nil_len (hrow i hi)
  have hb1 := hK.blk h1 (fun ⟨h3, h4⟩ => ((h2 k hk).2.2 h3).1 b h4 rfl)
  refine ⟨_, R, C, hb1, fun i hin => ?_⟩
  obtain ⟨p2, p3, p4⟩ := h2 i hin
  refine ⟨by rw [p2, hrow i hin], ?_, ?_⟩
  · by_cases e : i = k
    · subst e; rw [e1]; exact hr
    · rw [e2 i hin e]
      by_cases hi0 : rat l i = []
      · exact .inl hi0
      · rcases p3 with h | ⟨c, ec, h5, h6, h7⟩
        · exact absurd h hi0
        · refine .inr ⟨c, ec, h5, h6, hK.blk h7 (fun ⟨h9, h10⟩ => ?_)⟩
          rcases Nat.lt_or_ge i k with h | h
          · exact ((h2 k hk).2.2 h9).2 i h hi0 (by rw [ec, h10])
          · exact (p4 hi0).2 k (by omega) h9 (by rw [ec, h10])
  · intro h3
    have h4 := p4 ((hne i hin).1 h3)
    exact ⟨h4.1, fun j hj hj0 => h4.2 j hj ((hne j (by omega)).1 hj0)⟩

set_option maxHeartbeats 4000000 in
set_option maxRecDepth 100000 in
theorem markIntSS_any (lo hi : Nat) (a : Option Addr) (n cap K : Nat) (l : Rw) (w : World) (ha : RowsOwn lo hi w a l) (hn : l.length = n) (hm : n ≤ 1048576) (hs : rwLen l n ≤ 1048576) (hK : K ≤ 1000000000) :
    Calls Try.prog 32 #[.slice a n cap, .int .i64 (K : Int)] w fun e w' => ∃ m : Nat, e = .returned (.int .i64 (m : Int)) ∧ Hid (m = posR K l n) ∧ Hid (RowsOwn lo hi w' a (mkToR K l n)) ∧ Hid (KeptP (fun c => lo ≤ c ∧ c < hi) w w') := by
  have HN : Hid (l.length = n) := hn
  have HQ : Hid (∀ i, i < n → (rat l i).length ≤ 1048576) := fun i hi => Nat.le_trans (rw_le l hi) hs
  have HBD : Hid (∀ k, k ≤ n → posR K l k ≤ 1010000000) := by
    intro k hk
    have := rwLen_mono l hk
    unfold posR
    omega
  by_cases h0 : n = 0
  · subst h0
    have hl : l = [] := List.length_eq_zero_iff.1 hn
    have HP : Hid (K = posR K l 0) := by show _ = _; simp [posR, rwLen]
    clear hn hs
    have HL : Hid (l = []) := hl
    clear ha hl
    go_enter Try.func32, Try.ntmps32
    go_wp2
    go_loop [5, 1] (fun i k => i = .int .i64 0 ∧ k = .int .i64 (K : Int)) (fun _ _ => 0)
    case atStart => exact ⟨rfl, rfl⟩
    case round =>
      obtain ⟨rfl, rfl⟩ := hrel
      go_wp2
      go_ret
      exact ⟨K, rfl, HP, .inl (by rw [HL.out]; rfl), KeptP.refl _ _⟩
  · obtain ⟨b, rfl, h1, h2, hp⟩ : ∃ b, a = some ⟨b, 0, none⟩ ∧ lo ≤ b ∧ b < hi ∧ PartR lo hi w b l l.length l.length := by
      rcases ha with rfl | h
      · exact absurd hn (by simp; omega)
      · exact h
    have HX : Hid (lo ≤ b ∧ b < hi) := ⟨h1, h2⟩
    have HP0 : Hid (PartR lo hi w b (mkToR K l 0) n n) := by rw [mkToR_zero]; rw [hn] at hp; exact hp
    clear ha hp hn hs h1 h2
    go_enter Try.func32, Try.ntmps32
    go_wp2
    go_loopw [5, 1] (fun i s wr => ∃ k : Nat, i = .int .i64 k ∧ (∃ m : Nat, s = .int .i64 (m : Int) ∧ Hid (m = posR K l k)) ∧ k ≤ n ∧ Hid (PartR lo hi wr b (mkToR K l k) n n) ∧ Hid (KeptP (fun c => lo ≤ c ∧ c < hi) w wr)) (fun i _ _ => n - (intOf i).toNat)
    case atStart => exact ⟨0, rfl, ⟨K, rfl, by show _ = _; simp [posR, rwLen]⟩, by omega, HP0, KeptP.refl _ _⟩
    case round =>
      obtain ⟨k, rfl, ⟨m, rfl, HM⟩, hk, HP, HL⟩ := hrel
      by_cases hlt : k < n
      · have hlt1 : (k : Int) < (n : Int) := by omega
        obtain ⟨f, R, C, hblk, hrows⟩ := HP.out
        have HBK : Hid (Blk wr b n f) := hblk
        have HRS : Hid (∀ i, i < n → f i = .slice (R i) (rat (mkToR K l k) i).length (C i) ∧ RowOwn lo hi wr (R i) (rat (mkToR K l k) i) ∧ (rat (mkToR K l k) i ≠ [] → (∀ c, R i = some ⟨c, 0, none⟩ → c ≠ b) ∧ ∀ j, j < i → rat (mkToR K l k) j ≠ [] → R j ≠ R i)) := hrows
        obtain ⟨q, HQ1⟩ : ∃ q : Nat, Hid (q = (rat (mkToR K l k) k).length) := ⟨_, rfl⟩
        obtain ⟨ra, HRA⟩ : ∃ ra, Hid (ra = R k) := ⟨_, rfl⟩
        obtain ⟨rc, HRC⟩ : ∃ rc, Hid (rc = C k) := ⟨_, rfl⟩
        have hd2 := hblk.cell (i := k) (by omega)
        rw [(hrows k hlt).1, ← HQ1.out, ← HRA.out, ← HRC.out] at hd2
        have HQ2 : Hid (q = (rat l k).length) := by show _ = _; rw [HQ1.out, mkToR_rowlen (by rw [HN.out]; exact hlt)]
        have hq : q ≤ 1048576 := by rw [HQ2.out]; exact HQ.out k hlt
        have hmb : m ≤ 1010000000 := by rw [HM.out]; exact HBD.out k hk
        have HRW : Hid (RowOwn lo hi wr ra (rat (mkToR K l k) k)) := by rw [HRA.out]; exact (hrows k hlt).2.1
        clear hblk hrows
        go_wp2_with fail
        refine (markInts_any (fun c => rat (mkToR K l k) k ≠ [] ∧ R k = some ⟨c, 0, none⟩) lo hi ra q rc m (rat (mkToR K l k) k) wr HRW.out HQ1.out.symm hq (by omega) (fun c hc hne => ⟨hne, by rw [← HRA.out]; exact hc⟩)).mono ?_
        rintro e w1 ⟨rfl, hr1, hk1, _⟩
        have HR1 : Hid (RowOwn lo hi w1 (R k) (marks m q)) := by rw [← HRA.out]; exact hr1
        have HK1 : Hid (KeptP (fun c => rat (mkToR K l k) k ≠ [] ∧ R k = some ⟨c, 0, none⟩) wr w1) := hk1
        clear hr1 hk1 hd2 HRW
        go_wp2
        go_roundw
        case rel =>
          refine ⟨k + 1, by go_num, ⟨m + q, by go_num, by show _ = _; rw [posR_step, HM.out, HQ2.out]⟩, by omega, ?_, ?_⟩
          · refine PartR.turned (r' := marks m q) HBK.out HRS.out hlt HK1.out HR1.out (by rw [marks_len, HQ1.out]) ?_ ?_
            · rw [mkToR_at (by rw [HN.out]; exact hlt), if_pos (by omega), ← HM.out, ← HQ2.out]
            · intro i hi hne
              rw [mkToR_at (by rw [HN.out]; exact hi), mkToR_at (by rw [HN.out]; exact hi)]
              by_cases e : i < k
              · rw [if_pos (by omega), if_pos e]
              · rw [if_neg (by omega), if_neg e]
          · refine HL.out.trans (HK1.out.mono ?_)
            rintro c ⟨h3, h4⟩
            rcases (HRS.out k hlt).2.1 with h | ⟨c', ec, h5, h6, _⟩
            · exact absurd h h3
            · rw [h4] at ec; simp at ec; subst ec; exact ⟨h5, h6⟩
        case measure => simp [intOf]; omega
      · obtain rfl : k = n := by omega
        go_wp2
        go_ret
        refine ⟨m, rfl, HM, .inr ⟨b, rfl, HX.out.1, HX.out.2, ?_⟩, HL⟩
        rw [mkToR_len, HN.out]
        exact HP.out

set_option maxHeartbeats 4000000 in
set_option maxRecDepth 100000 in
theorem heldIntSS_any (lo hi : Nat) (a : Option Addr) (n cap K : Nat) (l : Rw) (w : World) (ha : RowsIn lo hi w a (mkToR K l n)) (hn : l.length = n) (hm : n ≤ 1048576) (hs : rwLen l n ≤ 1048576) (hK : K ≤ 1000000000) :
    Calls Try.prog 33 #[.slice a n cap, .int .i64 (K : Int)] w fun e w' => ∃ m : Nat, e = .returned (.int .i64 (m : Int)) ∧ Hid (m = posR K l n) ∧ Hid (Below w.heap.size w w') := by
  have HN : Hid (l.length = n) := hn
  have HA : Hid (RowsIn lo hi w a (mkToR K l n)) := ha
  have HQ : Hid (∀ i, i < n → (rat l i).length ≤ 1048576) := fun i hi => Nat.le_trans (rw_le l hi) hs
  have HBD : Hid (∀ k, k ≤ n → posR K l k ≤ 1010000000) := by
    intro k hk
    have := rwLen_mono l hk
    unfold posR
    omega
  clear ha hn hs
  go_enter Try.func33, Try.ntmps33
  go_wp2
  go_loop [5, 1] (fun i s => ∃ k : Nat, i = .int .i64 k ∧ (∃ m : Nat, s = .int .i64 (m : Int) ∧ Hid (m = posR K l k)) ∧ k ≤ n) (fun i _ => n - (intOf i).toNat)
  case atStart => exact ⟨0, rfl, ⟨K, rfl, by show _ = _; simp [posR, rwLen]⟩, by omega⟩
  case round =>
    obtain ⟨k, rfl, ⟨m, rfl, HM⟩, hk⟩ := hrel
    by_cases hlt : k < n
    · have hlt1 : (k : Int) < (n : Int) := by omega
      have hkl : k < l.length := by rw [HN.out]; exact hlt
      obtain ⟨b, o, rfl, _, _, ra, rc, hc2, hrow⟩ := HA.out.row (k := k) (by rw [mkToR_len]; exact hkl)
      have hat : rat (mkToR K l n) k = marks (posR K l k) (rat l k).length := by rw [mkToR_at hkl, if_pos hlt]
      obtain ⟨q, HQ1⟩ : ∃ q : Nat, Hid (q = (rat l k).length) := ⟨_, rfl⟩
      rw [hat, marks_len, ← HQ1.out] at hc2
      rw [hat, ← HM.out, ← HQ1.out] at hrow
      have HROW : Hid (RowIn lo hi w ra (marks m q)) := hrow
      have hq : q ≤ 1048576 := by rw [HQ1.out]; exact HQ.out k hlt
      have hmb : m ≤ 1010000000 := by rw [HM.out]; exact HBD.out k hk
      clear hrow hat hkl
      go_wp2_with fail
      refine (heldInts_any lo hi ra q rc m w HROW.out hq (by omega)).mono ?_
      rintro e w1 ⟨rfl, rfl⟩
      have hz : ¬ ((m + q : Nat) : Int) < 0 := by omega
      go_wp2
      go_roundw
      case rel => exact ⟨k + 1, by go_num, ⟨m + q, by go_num, by show _ = _; rw [posR_step, HM.out, HQ1.out]⟩, by omega⟩
      case measure => simp [intOf]; omega
    · obtain rfl : k = n := by omega
      go_wp2
      go_ret
      exact ⟨m, rfl, HM, Below.refl _ _⟩
end Go.Proofs.Ytdbogikcmfnpdaa

/-
  The walk of FnExactPathPairs.
-/
namespace Go.Proofs.Ytdbogikcmfnpdaa
open Go.RowKit
set_option maxHeartbeats 400000 in
theorem szGraph_two (a : Option Addr) (n cap L : Nat) (s : Int) (w : World) (hm : n ≤ 9223372036854775807) (hL : L ≤ 1048576) :
    Calls Try.prog 16 #[.agg #[.int .i64 s, .slice a n cap], .int .i64 (L : Int)] w fun e w' => ∃ x : Int, e = .returned (.int .i64 x) ∧ Hid (x < 0 ∨ (n ≤ L ∧ ∃ m : Nat, x = (m : Int) ∧ m ≤ L)) ∧ Hid (Below w.heap.size w w') := by
  by_cases h : n ≤ L
  · have hn : ¬ ((L - n : Nat) : Int) < 0 := by omega
    go_enter Try.func16, Try.ntmps16
    go_wp2_with fail
    refine (szEdges_yes a n cap L _ hm hL h).mono ?_
    rintro e w' ⟨rfl, rfl⟩
    go_wp2
    go_ret
    exact ⟨_, rfl, .inr ⟨h, _, rfl, by omega⟩, (Below.refl _ _).alloc (Nat.le_refl _) _⟩
  · go_enter Try.func16, Try.ntmps16
    go_wp2_with fail
    refine (szEdges_no a n cap L _ hm hL (by omega)).mono ?_
    rintro e w' ⟨rfl, rfl⟩
    go_wp2
    go_ret
    exact ⟨-1, rfl, .inl (by omega), (Below.refl _ _).alloc (Nat.le_refl _) _⟩

set_option maxHeartbeats 16000000 in
set_option maxRecDepth 100000 in
theorem law_9 (s0 : Int) (a0 : Option Addr) (n0 cap0 : Nat) (l0 : List Ed) (a1 : Option Addr) (n1 cap1 : Nat) (l1 : List Pc) (w : World) (hm0 : n0 ≤ maxLen) (hl0 : l0.length = n0) (hr0 : EdgesIn 0 w.heap.size w a0 l0) (hm1 : n1 ≤ maxLen) (hl1 : l1.length = n1 ∧ ∀ i, i < n1 → (pat l1 i).2.2.length ≤ maxLen) (hr1 : PathIn 0 w.heap.size w a1 l1) :
    Calls Try.prog 6 #[gv s0 a0 n0 cap0, pv a1 n1 cap1] w fun e w' => e = .returned (.bool true) ∧ Below w.heap.size w w' := by
  have HR1 : Hid (PathIn 0 w.heap.size w a1 l1) := hr1
  have HL1 : Hid (l1.length = n1) := hl1.1
  have HLM1 : Hid (∀ i, i < n1 → (pat l1 i).2.2.length ≤ maxLen) := hl1.2
  have HMX1 : Hid (n1 ≤ maxLen) := hm1
  clear hr1 hl1 hm1
  have HR0 : Hid (EdgesIn 0 w.heap.size w a0 l0) := hr0
  have HL0 : Hid (l0.length = n0) := hl0
  have HMX : Hid (n0 ≤ 9223372036854775807) := by unfold maxLen at hm0; show _ ≤ _; omega
  clear hr0 hl0 hm0
  obtain ⟨LL, HLL⟩ : ∃ LL, Hid (LL = pPairs s0 l0 l1) := ⟨_, rfl⟩
  have HLB : Hid (LL.length ≤ 144 ∧ (∀ i, (rat LL i).length ≤ 2)) := by rw [HLL.out]; exact pPairs_bound s0 l0 l1
  unfold pv
  go_enter Try.func6, Try.ntmps6
  go_wp2_with fail
  refine (szGraph_two a0 n0 cap0 1048576 s0 _ HMX.out (by omega)).mono ?_
  rintro e w1 ⟨x, rfl, HX, hb1⟩
  have HD_1 : Hid (Hold w w1 [(w.heap.size + 1, [.slice a1 n1 cap1]), (w.heap.size, [.int .i64 s0, .slice a0 n0 cap0])]) := by show Hold _ _ _; have h := (((Hold.none w).more [.int .i64 s0, .slice a0 n0 cap0] 42).more [.slice a1 n1 cap1] 45).below hb1.out; simpa using h
  clear hb1
  by_cases hx : x < 0
  · go_wp2
    go_ret
    exact ⟨rfl, HD_1.out.bel⟩
  obtain ⟨LX, rfl, HM, hlx⟩ : ∃ L : Nat, x = (L : Int) ∧ Hid (n0 ≤ 1048576) ∧ L ≤ 1048576 := by
    rcases HX.out with h | ⟨h1, m, h2, h3⟩
    · omega
    · exact ⟨m, h2, h1, h3⟩
  clear HX
  have ZZ2 : Hid (w.heap.size + 1 < w1.heap.size) := HD_1.out.lt (vs := [.slice a1 n1 cap1]) (by simp)
  have q_3 : w1.cell? ⟨w.heap.size + 1, 0, none⟩ = some (.slice a1 n1 cap1) := HD_1.out.cell (b := w.heap.size + 1) (vs := [.slice a1 n1 cap1]) (i := 0) (by simp) (by simp)
  go_wp2_with fail
  refine (szPath_any 0 w.heap.size a1 n1 cap1 LX l1 _ (HR1.out.below HD_1.out.bel (Nat.le_refl _)) HD_1.out.bel.size HL1.out HMX1.out HLM1.out hlx).mono ?_
  rintro e w2 ⟨y, rfl, HX1, B_4⟩
  clear q_3
  have HD_5 : Hid (Hold w w2 [(w.heap.size + 1, [.slice a1 n1 cap1]), (w.heap.size, [.int .i64 s0, .slice a0 n0 cap0])]) := HD_1.out.below B_4.out
  clear HD_1
  have ZZ6 : Hid (w1.heap.size ≤ w2.heap.size) := B_4.out.size
  clear B_4
  by_cases hy : y < 0
  · go_wp2
    go_ret
    exact ⟨rfl, HD_5.out.bel⟩
  have HM1 : Hid (n1 ≤ 1048576 ∧ (∀ i, i < n1 → (pat l1 i).2.2.length ≤ 1048576) ∧ kidsLen l1 n1 ≤ 1048576) := by
    rcases HX1.out with h | ⟨h1, h2⟩
    · omega
    · refine ⟨by omega, fun i hi => ?_, by omega⟩
      have := kids_le l1 hi
      omega
  clear HX1 HMX1 HLM1
  have q_7 : w2.cell? ⟨w.heap.size, 0, none⟩ = some (.int .i64 s0) := HD_5.out.cell (b := w.heap.size) (vs := [.int .i64 s0, .slice a0 n0 cap0]) (i := 0) (by simp) (by simp)
  have q_8 : w2.cell? ⟨w.heap.size, 1, none⟩ = some (.slice a0 n0 cap0) := HD_5.out.cell (b := w.heap.size) (vs := [.int .i64 s0, .slice a0 n0 cap0]) (i := 1) (by simp) (by simp)
  have q_9 : w2.cell? ⟨w.heap.size + 1, 0, none⟩ = some (.slice a1 n1 cap1) := HD_5.out.cell (b := w.heap.size + 1) (vs := [.slice a1 n1 cap1]) (i := 0) (by simp) (by simp)
  have HTG : Hid (∀ w0, Below w2.heap.size w2 w0 → Calls Try.prog 19 #[gv s0 a0 n0 cap0] w0 fun e w' => ∃ g : Nat, e = .returned (gv s0 (some ⟨g, 0, none⟩) n0 n0) ∧ Hid (EdgesIn w2.heap.size w'.heap.size w' (some ⟨g, 0, none⟩) l0) ∧ Hid (Below w2.heap.size w2 w') ∧ Hid (Below w0.heap.size w0 w') ∧ (w'.cell? ⟨w.heap.size, 0, none⟩ = some (.int .i64 s0) ∧ w'.cell? ⟨w.heap.size, 1, none⟩ = some (.slice a0 n0 cap0) ∧ w'.cell? ⟨w.heap.size + 1, 0, none⟩ = some (.slice a1 n1 cap1))) := fun w0 h =>
    (toGraph_any 0 w.heap.size s0 a0 n0 cap0 l0 w0 (HR0.out.below (HD_5.out.below h).bel (Nat.le_refl _)) (HD_5.out.below h).bel.size HL0.out HM.out).mono fun _ w' ⟨g, h1, h2, h4⟩ =>
      have h3 : Hid (Hold w w' [(w.heap.size + 1, [.slice a1 n1 cap1]), (w.heap.size, [.int .i64 s0, .slice a0 n0 cap0])]) := (HD_5.out.below h).below h4.out
      ⟨g, h1, h2.out.toIn.wide h.size (Nat.le_refl _), h.trans (h4.out.mono h.size), h4, h3.out.cell (b := w.heap.size) (vs := [.int .i64 s0, .slice a0 n0 cap0]) (i := 0) (by simp) (by simp), h3.out.cell (b := w.heap.size) (vs := [.int .i64 s0, .slice a0 n0 cap0]) (i := 1) (by simp) (by simp), h3.out.cell (b := w.heap.size + 1) (vs := [.slice a1 n1 cap1]) (i := 0) (by simp) (by simp)⟩
  have HTP : Hid (∀ w0, Below w2.heap.size w2 w0 → Calls Try.prog 20 #[.agg #[.slice a1 n1 cap1]] w0 fun e w' => ∃ g : Nat, e = .returned (.agg #[.slice (some ⟨g, 0, none⟩) n1 n1]) ∧ Hid (PathIn w2.heap.size w'.heap.size w' (some ⟨g, 0, none⟩) l1) ∧ Hid (Below w2.heap.size w2 w') ∧ Hid (Below w0.heap.size w0 w') ∧ (w'.cell? ⟨w.heap.size, 0, none⟩ = some (.int .i64 s0) ∧ w'.cell? ⟨w.heap.size, 1, none⟩ = some (.slice a0 n0 cap0) ∧ w'.cell? ⟨w.heap.size + 1, 0, none⟩ = some (.slice a1 n1 cap1))) := fun w0 h =>
    (toPath_any 0 w.heap.size a1 n1 cap1 l1 w0 (HR1.out.below (HD_5.out.below h).bel (Nat.le_refl _)) (HD_5.out.below h).bel.size HL1.out HM1.out.1 HM1.out.2.1).mono fun _ w' ⟨g, h1, h2, h4⟩ =>
      have h3 : Hid (Hold w w' [(w.heap.size + 1, [.slice a1 n1 cap1]), (w.heap.size, [.int .i64 s0, .slice a0 n0 cap0])]) := (HD_5.out.below h).below h4.out
      ⟨g, h1, h2.out.toIn.wide h.size (Nat.le_refl _), h.trans (h4.out.mono h.size), h4, h3.out.cell (b := w.heap.size) (vs := [.int .i64 s0, .slice a0 n0 cap0]) (i := 0) (by simp) (by simp), h3.out.cell (b := w.heap.size) (vs := [.int .i64 s0, .slice a0 n0 cap0]) (i := 1) (by simp) (by simp), h3.out.cell (b := w.heap.size + 1) (vs := [.slice a1 n1 cap1]) (i := 0) (by simp) (by simp)⟩
  have HTF : Hid (∀ w0 (g g' : Nat), Below w2.heap.size w2 w0 → EdgesIn w2.heap.size w0.heap.size w0 (some ⟨g, 0, none⟩) l0 → PathIn w2.heap.size w0.heap.size w0 (some ⟨g', 0, none⟩) l1 → Calls Try.prog 29 #[gv s0 (some ⟨g, 0, none⟩) n0 n0, .agg #[.slice (some ⟨g', 0, none⟩) n1 n1]] w0 fun e w' => ∃ (a' : Option Addr) (n' c' : Nat), e = .returned (.slice a' n' c') ∧ Hid (LL.length = n') ∧ Hid (RowsOwn w2.heap.size w'.heap.size w' a' LL) ∧ Hid (Below w2.heap.size w2 w') ∧ (w'.cell? ⟨w.heap.size, 0, none⟩ = some (.int .i64 s0) ∧ w'.cell? ⟨w.heap.size, 1, none⟩ = some (.slice a0 n0 cap0) ∧ w'.cell? ⟨w.heap.size + 1, 0, none⟩ = some (.slice a1 n1 cap1))) := fun w0 g g' h h1 h2 =>
    (specPairs_any w2.heap.size w0.heap.size s0 (some ⟨g, 0, none⟩) n0 n0 l0 w2.heap.size w0.heap.size (some ⟨g', 0, none⟩) n1 n1 l1 w0 h1 (Nat.le_refl _) HL0.out HM.out h2 (Nat.le_refl _) HL1.out HM1.out.1 HM1.out.2.1).mono fun _ w' ⟨a', n', c', e1, e2, e3, e4⟩ =>
      have h3 : Hid (Hold w w' [(w.heap.size + 1, [.slice a1 n1 cap1]), (w.heap.size, [.int .i64 s0, .slice a0 n0 cap0])]) := (HD_5.out.below h).below e4.out
      ⟨a', n', c', e1, by rw [HLL.out]; exact e2, by rw [HLL.out]; exact e3.out.wide h.size (Nat.le_refl _), h.trans (e4.out.mono h.size), h3.out.cell (b := w.heap.size) (vs := [.int .i64 s0, .slice a0 n0 cap0]) (i := 0) (by simp) (by simp), h3.out.cell (b := w.heap.size) (vs := [.int .i64 s0, .slice a0 n0 cap0]) (i := 1) (by simp) (by simp), h3.out.cell (b := w.heap.size + 1) (vs := [.slice a1 n1 cap1]) (i := 0) (by simp) (by simp)⟩
  go_upto_region 8 with fail
  go_cut [6] (fun v wc => ∃ (a : Option Addr) (n c : Nat), v = .slice a n c ∧ Hid (LL.length = n) ∧ Hid (RowsOwn w2.heap.size wc.heap.size wc a LL) ∧ Hid (Below w2.heap.size w2 wc))
  case first =>
    go_region_held3 (fun w' => w'.cell? ⟨w.heap.size, 0, none⟩ = some (.int .i64 s0) ∧ w'.cell? ⟨w.heap.size, 1, none⟩ = some (.slice a0 n0 cap0) ∧ w'.cell? ⟨w.heap.size + 1, 0, none⟩ = some (.slice a1 n1 cap1)) (first | exact ⟨q_7, q_8, q_9⟩ | exact hk9 | exact hk10 | exact hk11) (first | (go_at_call 19; refine (HTG.out _ (by first | exact (Below.refl _ _).drew | exact B10.out)).mono ?_; rintro e w9 ⟨g9, rfl, X9, B9, C9, hk9⟩) | (go_at_call 20; refine (HTP.out _ (by first | exact (Below.refl _ _).drew | exact B9.out)).mono ?_; rintro e w10 ⟨g10, rfl, X10, B10, C10, hk10⟩) | (go_at_call 29; (first | refine (HTF.out _ _ _ B10.out ((X9.out.below C10.out (Nat.le_refl _)).wide (Nat.le_refl _) C10.out.size) X10.out).mono ?_ | refine (HTF.out _ _ _ B9.out X9.out ((X10.out.below C9.out (Nat.le_refl _)).wide (Nat.le_refl _) C9.out.size)).mono ?_); rintro e w11 ⟨a11, n11, c11, rfl, HN11, X11, B11, hk11⟩))
    all_goals first | (go_meet; case rel => exact ⟨_, _, _, rfl, HN11, X11, B11⟩) | (go_wp2_with fail; go_meet; case rel => exact ⟨_, _, _, rfl, HN11, X11, B11⟩)
  case rest =>
    obtain ⟨w3, rfl⟩ : ∃ V, V = wc := ⟨_, rfl⟩
    obtain ⟨a3, n3, cap3, rfl, HN3, X3, BC_w3⟩ := hcut
    clear q_7 q_8 q_9 HTG HTP HTF
    have HD_10 : Hid (Hold w w3 [(w.heap.size + 1, [.slice a1 n1 cap1]), (w.heap.size, [.int .i64 s0, .slice a0 n0 cap0])]) := HD_5.out.below BC_w3.out
    clear HD_5
    have ZZ11 : Hid (w2.heap.size ≤ w3.heap.size) := BC_w3.out.size
    clear BC_w3
    have W0_12 : Hid (RowsOwn w2.heap.size w3.heap.size w3 a3 LL) := X3.out
    clear X3
    have HM3 : Hid (n3 ≤ 1048576 ∧ (∀ i, i < n3 → (rat LL i).length ≤ 1048576) ∧ rwLen LL n3 ≤ 1048576) := by
      have h1 := HLB.out.1; have h2 := HLB.out.2; have h3 := HN3.out
      have h4 := rwLen_le h2 n3
      exact ⟨by omega, fun i _ => Nat.le_trans (h2 i) (by omega), by omega⟩
    have q_14 : w3.cell? ⟨w.heap.size, 0, none⟩ = some (.int .i64 s0) := HD_10.out.cell (b := w.heap.size) (vs := [.int .i64 s0, .slice a0 n0 cap0]) (i := 0) (by simp) (by simp)
    have q_15 : w3.cell? ⟨w.heap.size, 1, none⟩ = some (.slice a0 n0 cap0) := HD_10.out.cell (b := w.heap.size) (vs := [.int .i64 s0, .slice a0 n0 cap0]) (i := 1) (by simp) (by simp)
    go_wp2_with fail
    refine (toGraph_any 0 w.heap.size s0 a0 n0 cap0 l0 _ (HR0.out.below HD_10.out.bel (Nat.le_refl _)) HD_10.out.bel.size HL0.out HM.out).mono ?_
    rintro e w4 ⟨g4, rfl, X_13, B_16⟩
    clear q_14 q_15
    have HD_17 : Hid (Hold w w4 [(w.heap.size + 1, [.slice a1 n1 cap1]), (w.heap.size, [.int .i64 s0, .slice a0 n0 cap0])]) := HD_10.out.below B_16.out
    clear HD_10
    have ZZ18 : Hid (w3.heap.size ≤ w4.heap.size) := B_16.out.size
    have W0_18 : Hid (RowsOwn w2.heap.size w3.heap.size w4 a3 LL) := W0_12.out.below B_16.out (by have y0 := ZZ2.out; have y1 := ZZ6.out; have y2 := ZZ11.out; have y3 := ZZ18.out; omega)
    clear W0_12
    clear B_16
    have X0_19 : Hid (EdgesOwn w3.heap.size w4.heap.size w4 (some ⟨g4, 0, none⟩) l0) := X_13.out
    clear X_13
    have BA_20 : Hid (Below w4.heap.size w4 (w4.alloc (.cells #[.int .i64 s0, .slice (some ⟨g4, 0, none⟩) n0 n0] 26))) := below1' w4 _
    have HD_21 : Hid (Hold w (w4.alloc (.cells #[.int .i64 s0, .slice (some ⟨g4, 0, none⟩) n0 n0] 26)) [(w4.heap.size, [.int .i64 s0, .slice (some ⟨g4, 0, none⟩) n0 n0]), (w.heap.size + 1, [.slice a1 n1 cap1]), (w.heap.size, [.int .i64 s0, .slice a0 n0 cap0])]) := HD_17.out.more [.int .i64 s0, .slice (some ⟨g4, 0, none⟩) n0 n0] 26
    clear HD_17
    have ZZ22 : Hid ((w4.alloc (.cells #[.int .i64 s0, .slice (some ⟨g4, 0, none⟩) n0 n0] 26)).heap.size = w4.heap.size + 1) := by show _ = _; simp
    have ZZ23 : Hid (w4.heap.size ≤ (w4.alloc (.cells #[.int .i64 s0, .slice (some ⟨g4, 0, none⟩) n0 n0] 26)).heap.size) := BA_20.out.size
    have W0_23 : Hid (RowsOwn w2.heap.size w3.heap.size (w4.alloc (.cells #[.int .i64 s0, .slice (some ⟨g4, 0, none⟩) n0 n0] 26)) a3 LL) := W0_18.out.below BA_20.out (by have y0 := ZZ2.out; have y1 := ZZ6.out; have y2 := ZZ11.out; have y3 := ZZ18.out; have y4 := ZZ22.out; have y5 := ZZ23.out; omega)
    have X0_23 : Hid (EdgesOwn w3.heap.size w4.heap.size (w4.alloc (.cells #[.int .i64 s0, .slice (some ⟨g4, 0, none⟩) n0 n0] 26)) (some ⟨g4, 0, none⟩) l0) := X0_19.out.below BA_20.out (by have y0 := ZZ2.out; have y1 := ZZ6.out; have y2 := ZZ11.out; have y3 := ZZ18.out; have y4 := ZZ22.out; have y5 := ZZ23.out; omega)
    clear W0_18 X0_19
    clear BA_20
    have q_25 : (w4.alloc (.cells #[.int .i64 s0, .slice (some ⟨g4, 0, none⟩) n0 n0] 26)).cell? ⟨w.heap.size + 1, 0, none⟩ = some (.slice a1 n1 cap1) := HD_21.out.cell (b := w.heap.size + 1) (vs := [.slice a1 n1 cap1]) (i := 0) (by simp) (by simp)
    go_wp2_with fail
    refine (toPath_any 0 w.heap.size a1 n1 cap1 l1 _ (HR1.out.below HD_21.out.bel (Nat.le_refl _)) HD_21.out.bel.size HL1.out HM1.out.1 HM1.out.2.1).mono ?_
    rintro e w5 ⟨g5, rfl, X_24, B_26⟩
    clear q_25
    have HD_27 : Hid (Hold w w5 [(w4.heap.size, [.int .i64 s0, .slice (some ⟨g4, 0, none⟩) n0 n0]), (w.heap.size + 1, [.slice a1 n1 cap1]), (w.heap.size, [.int .i64 s0, .slice a0 n0 cap0])]) := HD_21.out.below B_26.out
    clear HD_21
    have ZZ28 : Hid ((w4.alloc (.cells #[.int .i64 s0, .slice (some ⟨g4, 0, none⟩) n0 n0] 26)).heap.size ≤ w5.heap.size) := B_26.out.size
    have W0_28 : Hid (RowsOwn w2.heap.size w3.heap.size w5 a3 LL) := W0_23.out.below B_26.out (by have y0 := ZZ2.out; have y1 := ZZ6.out; have y2 := ZZ11.out; have y3 := ZZ18.out; have y4 := ZZ22.out; have y5 := ZZ23.out; have y6 := ZZ28.out; omega)
    have X0_28 : Hid (EdgesOwn w3.heap.size w4.heap.size w5 (some ⟨g4, 0, none⟩) l0) := X0_23.out.below B_26.out (by have y0 := ZZ2.out; have y1 := ZZ6.out; have y2 := ZZ11.out; have y3 := ZZ18.out; have y4 := ZZ22.out; have y5 := ZZ23.out; have y6 := ZZ28.out; omega)
    clear W0_23 X0_23
    clear B_26
    have X1_29 : Hid (PathOwn (w4.alloc (.cells #[.int .i64 s0, .slice (some ⟨g4, 0, none⟩) n0 n0] 26)).heap.size w5.heap.size w5 (some ⟨g5, 0, none⟩) l1) := X_24.out
    clear X_24
    have BA_30 : Hid (Below w5.heap.size w5 (w5.alloc (.cells #[.slice (some ⟨g5, 0, none⟩) n1 n1] 36))) := below1' w5 _
    have HD_31 : Hid (Hold w (w5.alloc (.cells #[.slice (some ⟨g5, 0, none⟩) n1 n1] 36)) [(w5.heap.size, [.slice (some ⟨g5, 0, none⟩) n1 n1]), (w4.heap.size, [.int .i64 s0, .slice (some ⟨g4, 0, none⟩) n0 n0]), (w.heap.size + 1, [.slice a1 n1 cap1]), (w.heap.size, [.int .i64 s0, .slice a0 n0 cap0])]) := HD_27.out.more [.slice (some ⟨g5, 0, none⟩) n1 n1] 36
    clear HD_27
    have ZZ32 : Hid ((w5.alloc (.cells #[.slice (some ⟨g5, 0, none⟩) n1 n1] 36)).heap.size = w5.heap.size + 1) := by show _ = _; simp
    have ZZ33 : Hid (w5.heap.size ≤ (w5.alloc (.cells #[.slice (some ⟨g5, 0, none⟩) n1 n1] 36)).heap.size) := BA_30.out.size
    have W0_33 : Hid (RowsOwn w2.heap.size w3.heap.size (w5.alloc (.cells #[.slice (some ⟨g5, 0, none⟩) n1 n1] 36)) a3 LL) := W0_28.out.below BA_30.out (by have y0 := ZZ2.out; have y1 := ZZ6.out; have y2 := ZZ11.out; have y3 := ZZ18.out; have y4 := ZZ22.out; have y5 := ZZ23.out; have y6 := ZZ28.out; have y7 := ZZ32.out; have y8 := ZZ33.out; omega)
    have X0_33 : Hid (EdgesOwn w3.heap.size w4.heap.size (w5.alloc (.cells #[.slice (some ⟨g5, 0, none⟩) n1 n1] 36)) (some ⟨g4, 0, none⟩) l0) := X0_28.out.below BA_30.out (by have y0 := ZZ2.out; have y1 := ZZ6.out; have y2 := ZZ11.out; have y3 := ZZ18.out; have y4 := ZZ22.out; have y5 := ZZ23.out; have y6 := ZZ28.out; have y7 := ZZ32.out; have y8 := ZZ33.out; omega)
    have X1_33 : Hid (PathOwn (w4.alloc (.cells #[.int .i64 s0, .slice (some ⟨g4, 0, none⟩) n0 n0] 26)).heap.size w5.heap.size (w5.alloc (.cells #[.slice (some ⟨g5, 0, none⟩) n1 n1] 36)) (some ⟨g5, 0, none⟩) l1) := X1_29.out.below BA_30.out (by have y0 := ZZ2.out; have y1 := ZZ6.out; have y2 := ZZ11.out; have y3 := ZZ18.out; have y4 := ZZ22.out; have y5 := ZZ23.out; have y6 := ZZ28.out; have y7 := ZZ32.out; have y8 := ZZ33.out; omega)
    clear W0_28 X0_28 X1_29
    clear BA_30
    have q_34 : (w5.alloc (.cells #[.slice (some ⟨g5, 0, none⟩) n1 n1] 36)).cell? ⟨w4.heap.size, 0, none⟩ = some (.int .i64 s0) := HD_31.out.cell (b := w4.heap.size) (vs := [.int .i64 s0, .slice (some ⟨g4, 0, none⟩) n0 n0]) (i := 0) (by simp) (by simp)
    have q_35 : (w5.alloc (.cells #[.slice (some ⟨g5, 0, none⟩) n1 n1] 36)).cell? ⟨w4.heap.size, 1, none⟩ = some (.slice (some ⟨g4, 0, none⟩) n0 n0) := HD_31.out.cell (b := w4.heap.size) (vs := [.int .i64 s0, .slice (some ⟨g4, 0, none⟩) n0 n0]) (i := 1) (by simp) (by simp)
    have q_36 : (w5.alloc (.cells #[.slice (some ⟨g5, 0, none⟩) n1 n1] 36)).cell? ⟨w5.heap.size, 0, none⟩ = some (.slice (some ⟨g5, 0, none⟩) n1 n1) := HD_31.out.cell (b := w5.heap.size) (vs := [.slice (some ⟨g5, 0, none⟩) n1 n1]) (i := 0) (by simp) (by simp)
    go_wp2_with fail
    refine (pathPairs_any w3.heap.size w4.heap.size s0 (some ⟨g4, 0, none⟩) n0 n0 l0 (w4.alloc (.cells #[.int .i64 s0, .slice (some ⟨g4, 0, none⟩) n0 n0] 26)).heap.size w5.heap.size (some ⟨g5, 0, none⟩) n1 n1 l1 _ X0_33.out.toIn (by have y0 := ZZ2.out; have y1 := ZZ6.out; have y2 := ZZ11.out; have y3 := ZZ18.out; have y4 := ZZ22.out; have y5 := ZZ23.out; have y6 := ZZ28.out; have y7 := ZZ32.out; have y8 := ZZ33.out; omega) HL0.out HM.out X1_33.out.toIn (by have y0 := ZZ2.out; have y1 := ZZ6.out; have y2 := ZZ11.out; have y3 := ZZ18.out; have y4 := ZZ22.out; have y5 := ZZ23.out; have y6 := ZZ28.out; have y7 := ZZ32.out; have y8 := ZZ33.out; omega) HL1.out HM1.out.1 HM1.out.2.1).mono ?_
    rintro e w6 ⟨a6, n6, cap6, rfl, HN6, X6, B_37⟩
    clear q_34 q_35 q_36
    have HD_38 : Hid (Hold w w6 [(w5.heap.size, [.slice (some ⟨g5, 0, none⟩) n1 n1]), (w4.heap.size, [.int .i64 s0, .slice (some ⟨g4, 0, none⟩) n0 n0]), (w.heap.size + 1, [.slice a1 n1 cap1]), (w.heap.size, [.int .i64 s0, .slice a0 n0 cap0])]) := HD_31.out.below B_37.out
    clear HD_31
    have ZZ39 : Hid ((w5.alloc (.cells #[.slice (some ⟨g5, 0, none⟩) n1 n1] 36)).heap.size ≤ w6.heap.size) := B_37.out.size
    have W0_39 : Hid (RowsOwn w2.heap.size w3.heap.size w6 a3 LL) := W0_33.out.below B_37.out (by have y0 := ZZ2.out; have y1 := ZZ6.out; have y2 := ZZ11.out; have y3 := ZZ18.out; have y4 := ZZ22.out; have y5 := ZZ23.out; have y6 := ZZ28.out; have y7 := ZZ32.out; have y8 := ZZ33.out; have y9 := ZZ39.out; omega)
    have X0_39 : Hid (EdgesOwn w3.heap.size w4.heap.size w6 (some ⟨g4, 0, none⟩) l0) := X0_33.out.below B_37.out (by have y0 := ZZ2.out; have y1 := ZZ6.out; have y2 := ZZ11.out; have y3 := ZZ18.out; have y4 := ZZ22.out; have y5 := ZZ23.out; have y6 := ZZ28.out; have y7 := ZZ32.out; have y8 := ZZ33.out; have y9 := ZZ39.out; omega)
    have X1_39 : Hid (PathOwn (w4.alloc (.cells #[.int .i64 s0, .slice (some ⟨g4, 0, none⟩) n0 n0] 26)).heap.size w5.heap.size w6 (some ⟨g5, 0, none⟩) l1) := X1_33.out.below B_37.out (by have y0 := ZZ2.out; have y1 := ZZ6.out; have y2 := ZZ11.out; have y3 := ZZ18.out; have y4 := ZZ22.out; have y5 := ZZ23.out; have y6 := ZZ28.out; have y7 := ZZ32.out; have y8 := ZZ33.out; have y9 := ZZ39.out; omega)
    clear W0_33 X0_33 X1_33
    clear B_37
    rw [← HLL.out] at HN6 X6
    obtain rfl : n3 = n6 := by rw [← HN3.out, HN6.out]
    clear HN6
    have G0_40 : Hid (RowsOwn (w5.alloc (.cells #[.slice (some ⟨g5, 0, none⟩) n1 n1] 36)).heap.size w6.heap.size w6 a6 LL) := X6.out
    clear X6
    go_wp2_with fail
    refine (eqIntSS_any (w5.alloc (.cells #[.slice (some ⟨g5, 0, none⟩) n1 n1] 36)).heap.size w6.heap.size w2.heap.size w3.heap.size a6 a3 n3 n3 cap6 cap3 LL LL true _ G0_40.out.toIn W0_39.out.toIn (by have y0 := ZZ2.out; have y1 := ZZ6.out; have y2 := ZZ11.out; have y3 := ZZ18.out; have y4 := ZZ22.out; have y5 := ZZ23.out; have y6 := ZZ28.out; have y7 := ZZ32.out; have y8 := ZZ33.out; have y9 := ZZ39.out; omega) (by have y0 := ZZ2.out; have y1 := ZZ6.out; have y2 := ZZ11.out; have y3 := ZZ18.out; have y4 := ZZ22.out; have y5 := ZZ23.out; have y6 := ZZ28.out; have y7 := ZZ32.out; have y8 := ZZ33.out; have y9 := ZZ39.out; omega) HN3.out HN3.out HM3.out.1 HM3.out.2.1 (by simp)).mono ?_
    rintro e w7 ⟨rfl, B_41⟩
    have HD_42 : Hid (Hold w w7 [(w5.heap.size, [.slice (some ⟨g5, 0, none⟩) n1 n1]), (w4.heap.size, [.int .i64 s0, .slice (some ⟨g4, 0, none⟩) n0 n0]), (w.heap.size + 1, [.slice a1 n1 cap1]), (w.heap.size, [.int .i64 s0, .slice a0 n0 cap0])]) := HD_38.out.below B_41.out
    clear HD_38
    have ZZ43 : Hid (w6.heap.size ≤ w7.heap.size) := B_41.out.size
    have W0_43 : Hid (RowsOwn w2.heap.size w3.heap.size w7 a3 LL) := W0_39.out.below B_41.out (by have y0 := ZZ2.out; have y1 := ZZ6.out; have y2 := ZZ11.out; have y3 := ZZ18.out; have y4 := ZZ22.out; have y5 := ZZ23.out; have y6 := ZZ28.out; have y7 := ZZ32.out; have y8 := ZZ33.out; have y9 := ZZ39.out; have y10 := ZZ43.out; omega)
    have X0_43 : Hid (EdgesOwn w3.heap.size w4.heap.size w7 (some ⟨g4, 0, none⟩) l0) := X0_39.out.below B_41.out (by have y0 := ZZ2.out; have y1 := ZZ6.out; have y2 := ZZ11.out; have y3 := ZZ18.out; have y4 := ZZ22.out; have y5 := ZZ23.out; have y6 := ZZ28.out; have y7 := ZZ32.out; have y8 := ZZ33.out; have y9 := ZZ39.out; have y10 := ZZ43.out; omega)
    have X1_43 : Hid (PathOwn (w4.alloc (.cells #[.int .i64 s0, .slice (some ⟨g4, 0, none⟩) n0 n0] 26)).heap.size w5.heap.size w7 (some ⟨g5, 0, none⟩) l1) := X1_39.out.below B_41.out (by have y0 := ZZ2.out; have y1 := ZZ6.out; have y2 := ZZ11.out; have y3 := ZZ18.out; have y4 := ZZ22.out; have y5 := ZZ23.out; have y6 := ZZ28.out; have y7 := ZZ32.out; have y8 := ZZ33.out; have y9 := ZZ39.out; have y10 := ZZ43.out; omega)
    have G0_43 : Hid (RowsOwn (w5.alloc (.cells #[.slice (some ⟨g5, 0, none⟩) n1 n1] 36)).heap.size w6.heap.size w7 a6 LL) := G0_40.out.below B_41.out (by have y0 := ZZ2.out; have y1 := ZZ6.out; have y2 := ZZ11.out; have y3 := ZZ18.out; have y4 := ZZ22.out; have y5 := ZZ23.out; have y6 := ZZ28.out; have y7 := ZZ32.out; have y8 := ZZ33.out; have y9 := ZZ39.out; have y10 := ZZ43.out; omega)
    clear W0_39 X0_39 X1_39 G0_40
    clear B_41
    have q_44 : w7.cell? ⟨w4.heap.size, 0, none⟩ = some (.int .i64 s0) := HD_42.out.cell (b := w4.heap.size) (vs := [.int .i64 s0, .slice (some ⟨g4, 0, none⟩) n0 n0]) (i := 0) (by simp) (by simp)
    have q_45 : w7.cell? ⟨w4.heap.size, 1, none⟩ = some (.slice (some ⟨g4, 0, none⟩) n0 n0) := HD_42.out.cell (b := w4.heap.size) (vs := [.int .i64 s0, .slice (some ⟨g4, 0, none⟩) n0 n0]) (i := 1) (by simp) (by simp)
    have q_46 : w7.cell? ⟨w.heap.size, 0, none⟩ = some (.int .i64 s0) := HD_42.out.cell (b := w.heap.size) (vs := [.int .i64 s0, .slice a0 n0 cap0]) (i := 0) (by simp) (by simp)
    have q_47 : w7.cell? ⟨w.heap.size, 1, none⟩ = some (.slice a0 n0 cap0) := HD_42.out.cell (b := w.heap.size) (vs := [.int .i64 s0, .slice a0 n0 cap0]) (i := 1) (by simp) (by simp)
    have HC1 : Hid (∀ w0, Below w7.heap.size w7 w0 → Calls Try.prog 19 #[gv s0 a0 n0 cap0] w0 fun e w' => ∃ g : Nat, e = .returned (gv s0 (some ⟨g, 0, none⟩) n0 n0) ∧ Hid (EdgesIn w7.heap.size w'.heap.size w' (some ⟨g, 0, none⟩) l0) ∧ Hid (Below w7.heap.size w7 w') ∧ (w'.cell? ⟨w4.heap.size, 0, none⟩ = some (.int .i64 s0) ∧ w'.cell? ⟨w4.heap.size, 1, none⟩ = some (.slice (some ⟨g4, 0, none⟩) n0 n0) ∧ w'.cell? ⟨w.heap.size, 0, none⟩ = some (.int .i64 s0) ∧ w'.cell? ⟨w.heap.size, 1, none⟩ = some (.slice a0 n0 cap0))) := fun w0 h =>
      (toGraph_any 0 w.heap.size s0 a0 n0 cap0 l0 w0 (HR0.out.below (HD_42.out.below h).bel (Nat.le_refl _)) (HD_42.out.below h).bel.size HL0.out HM.out).mono fun _ w' ⟨g, h1, h2, h4⟩ =>
        have h3 : Hid (Hold w w' [(w5.heap.size, [.slice (some ⟨g5, 0, none⟩) n1 n1]), (w4.heap.size, [.int .i64 s0, .slice (some ⟨g4, 0, none⟩) n0 n0]), (w.heap.size + 1, [.slice a1 n1 cap1]), (w.heap.size, [.int .i64 s0, .slice a0 n0 cap0])]) := (HD_42.out.below h).below h4.out
        ⟨g, h1, h2.out.toIn.wide h.size (Nat.le_refl _), h.trans (h4.out.mono h.size), h3.out.cell (b := w4.heap.size) (vs := [.int .i64 s0, .slice (some ⟨g4, 0, none⟩) n0 n0]) (i := 0) (by simp) (by simp), h3.out.cell (b := w4.heap.size) (vs := [.int .i64 s0, .slice (some ⟨g4, 0, none⟩) n0 n0]) (i := 1) (by simp) (by simp), h3.out.cell (b := w.heap.size) (vs := [.int .i64 s0, .slice a0 n0 cap0]) (i := 0) (by simp) (by simp), h3.out.cell (b := w.heap.size) (vs := [.int .i64 s0, .slice a0 n0 cap0]) (i := 1) (by simp) (by simp)⟩
    have HC2 : Hid (∀ (g : Nat) w0, Below w7.heap.size w7 w0 → EdgesIn w7.heap.size w0.heap.size w0 (some ⟨g, 0, none⟩) l0 → Calls Try.prog 23 #[gv s0 (some ⟨g4, 0, none⟩) n0 n0, gv s0 (some ⟨g, 0, none⟩) n0 n0] w0 fun e w' => e = .returned (.bool true) ∧ Hid (Below w7.heap.size w7 w') ∧ (w'.cell? ⟨w4.heap.size, 0, none⟩ = some (.int .i64 s0) ∧ w'.cell? ⟨w4.heap.size, 1, none⟩ = some (.slice (some ⟨g4, 0, none⟩) n0 n0) ∧ w'.cell? ⟨w.heap.size, 0, none⟩ = some (.int .i64 s0) ∧ w'.cell? ⟨w.heap.size, 1, none⟩ = some (.slice a0 n0 cap0))) := fun g w0 h hx =>
      (eqGraph_any w3.heap.size w4.heap.size w7.heap.size w0.heap.size s0 s0 (some ⟨g4, 0, none⟩) (some ⟨g, 0, none⟩) n0 n0 n0 n0 l0 l0 true w0 (X0_43.out.toIn.below h (by have y0 := ZZ2.out; have y1 := ZZ6.out; have y2 := ZZ11.out; have y3 := ZZ18.out; have y4 := ZZ22.out; have y5 := ZZ23.out; have y6 := ZZ28.out; have y7 := ZZ32.out; have y8 := ZZ33.out; have y9 := ZZ39.out; have y10 := ZZ43.out; omega)) hx (by have yy := h.size; have y0 := ZZ2.out; have y1 := ZZ6.out; have y2 := ZZ11.out; have y3 := ZZ18.out; have y4 := ZZ22.out; have y5 := ZZ23.out; have y6 := ZZ28.out; have y7 := ZZ32.out; have y8 := ZZ33.out; have y9 := ZZ39.out; have y10 := ZZ43.out; omega) (Nat.le_refl _) HL0.out HL0.out HM.out (by simp)).mono fun _ w' ⟨h1, h4⟩ =>
        have h3 : Hid (Hold w w' [(w5.heap.size, [.slice (some ⟨g5, 0, none⟩) n1 n1]), (w4.heap.size, [.int .i64 s0, .slice (some ⟨g4, 0, none⟩) n0 n0]), (w.heap.size + 1, [.slice a1 n1 cap1]), (w.heap.size, [.int .i64 s0, .slice a0 n0 cap0])]) := (HD_42.out.below h).below h4.out
        ⟨h1, h.trans (h4.out.mono h.size), h3.out.cell (b := w4.heap.size) (vs := [.int .i64 s0, .slice (some ⟨g4, 0, none⟩) n0 n0]) (i := 0) (by simp) (by simp), h3.out.cell (b := w4.heap.size) (vs := [.int .i64 s0, .slice (some ⟨g4, 0, none⟩) n0 n0]) (i := 1) (by simp) (by simp), h3.out.cell (b := w.heap.size) (vs := [.int .i64 s0, .slice a0 n0 cap0]) (i := 0) (by simp) (by simp), h3.out.cell (b := w.heap.size) (vs := [.int .i64 s0, .slice a0 n0 cap0]) (i := 1) (by simp) (by simp)⟩
    go_wp2_with fail
    go_region_held3 (fun w' => w'.cell? ⟨w4.heap.size, 0, none⟩ = some (.int .i64 s0) ∧ w'.cell? ⟨w4.heap.size, 1, none⟩ = some (.slice (some ⟨g4, 0, none⟩) n0 n0) ∧ w'.cell? ⟨w.heap.size, 0, none⟩ = some (.int .i64 s0) ∧ w'.cell? ⟨w.heap.size, 1, none⟩ = some (.slice a0 n0 cap0)) (first | exact ⟨q_44, q_45, q_46, q_47⟩ | exact hk9 | exact hk10) (first | (go_at_call 19; refine (HC1.out _ ((Below.refl _ _).drew)).mono ?_; rintro e w8 ⟨g9, rfl, X9, B9, hk9⟩) | (go_at_call 23; refine (HC2.out _ _ B9.out X9.out).mono ?_; rintro e w12 ⟨rfl, B10, hk10⟩))
    clear q_44 q_45 q_46 q_47
    clear hk9 hk10 B9 X9 HC1 HC2
    have HD_48 : Hid (Hold w w12 [(w5.heap.size, [.slice (some ⟨g5, 0, none⟩) n1 n1]), (w4.heap.size, [.int .i64 s0, .slice (some ⟨g4, 0, none⟩) n0 n0]), (w.heap.size + 1, [.slice a1 n1 cap1]), (w.heap.size, [.int .i64 s0, .slice a0 n0 cap0])]) := HD_42.out.below B10.out
    clear HD_42
    have ZZ49 : Hid (w7.heap.size ≤ w12.heap.size) := B10.out.size
    have W0_49 : Hid (RowsOwn w2.heap.size w3.heap.size w12 a3 LL) := W0_43.out.below B10.out (by have y0 := ZZ2.out; have y1 := ZZ6.out; have y2 := ZZ11.out; have y3 := ZZ18.out; have y4 := ZZ22.out; have y5 := ZZ23.out; have y6 := ZZ28.out; have y7 := ZZ32.out; have y8 := ZZ33.out; have y9 := ZZ39.out; have y10 := ZZ43.out; have y11 := ZZ49.out; omega)
    have X0_49 : Hid (EdgesOwn w3.heap.size w4.heap.size w12 (some ⟨g4, 0, none⟩) l0) := X0_43.out.below B10.out (by have y0 := ZZ2.out; have y1 := ZZ6.out; have y2 := ZZ11.out; have y3 := ZZ18.out; have y4 := ZZ22.out; have y5 := ZZ23.out; have y6 := ZZ28.out; have y7 := ZZ32.out; have y8 := ZZ33.out; have y9 := ZZ39.out; have y10 := ZZ43.out; have y11 := ZZ49.out; omega)
    have X1_49 : Hid (PathOwn (w4.alloc (.cells #[.int .i64 s0, .slice (some ⟨g4, 0, none⟩) n0 n0] 26)).heap.size w5.heap.size w12 (some ⟨g5, 0, none⟩) l1) := X1_43.out.below B10.out (by have y0 := ZZ2.out; have y1 := ZZ6.out; have y2 := ZZ11.out; have y3 := ZZ18.out; have y4 := ZZ22.out; have y5 := ZZ23.out; have y6 := ZZ28.out; have y7 := ZZ32.out; have y8 := ZZ33.out; have y9 := ZZ39.out; have y10 := ZZ43.out; have y11 := ZZ49.out; omega)
    have G0_49 : Hid (RowsOwn (w5.alloc (.cells #[.slice (some ⟨g5, 0, none⟩) n1 n1] 36)).heap.size w6.heap.size w12 a6 LL) := G0_43.out.below B10.out (by have y0 := ZZ2.out; have y1 := ZZ6.out; have y2 := ZZ11.out; have y3 := ZZ18.out; have y4 := ZZ22.out; have y5 := ZZ23.out; have y6 := ZZ28.out; have y7 := ZZ32.out; have y8 := ZZ33.out; have y9 := ZZ39.out; have y10 := ZZ43.out; have y11 := ZZ49.out; omega)
    clear W0_43 X0_43 X1_43 G0_43
    clear B10
    have q_50 : w12.cell? ⟨w5.heap.size, 0, none⟩ = some (.slice (some ⟨g5, 0, none⟩) n1 n1) := HD_48.out.cell (b := w5.heap.size) (vs := [.slice (some ⟨g5, 0, none⟩) n1 n1]) (i := 0) (by simp) (by simp)
    have q_51 : w12.cell? ⟨w.heap.size + 1, 0, none⟩ = some (.slice a1 n1 cap1) := HD_48.out.cell (b := w.heap.size + 1) (vs := [.slice a1 n1 cap1]) (i := 0) (by simp) (by simp)
    have HC1 : Hid (∀ w0, Below w12.heap.size w12 w0 → Calls Try.prog 20 #[.agg #[.slice a1 n1 cap1]] w0 fun e w' => ∃ g : Nat, e = .returned (.agg #[.slice (some ⟨g, 0, none⟩) n1 n1]) ∧ Hid (PathIn w12.heap.size w'.heap.size w' (some ⟨g, 0, none⟩) l1) ∧ Hid (Below w12.heap.size w12 w') ∧ (w'.cell? ⟨w5.heap.size, 0, none⟩ = some (.slice (some ⟨g5, 0, none⟩) n1 n1) ∧ w'.cell? ⟨w.heap.size + 1, 0, none⟩ = some (.slice a1 n1 cap1))) := fun w0 h =>
      (toPath_any 0 w.heap.size a1 n1 cap1 l1 w0 (HR1.out.below (HD_48.out.below h).bel (Nat.le_refl _)) (HD_48.out.below h).bel.size HL1.out HM1.out.1 HM1.out.2.1).mono fun _ w' ⟨g, h1, h2, h4⟩ =>
        have h3 : Hid (Hold w w' [(w5.heap.size, [.slice (some ⟨g5, 0, none⟩) n1 n1]), (w4.heap.size, [.int .i64 s0, .slice (some ⟨g4, 0, none⟩) n0 n0]), (w.heap.size + 1, [.slice a1 n1 cap1]), (w.heap.size, [.int .i64 s0, .slice a0 n0 cap0])]) := (HD_48.out.below h).below h4.out
        ⟨g, h1, h2.out.toIn.wide h.size (Nat.le_refl _), h.trans (h4.out.mono h.size), h3.out.cell (b := w5.heap.size) (vs := [.slice (some ⟨g5, 0, none⟩) n1 n1]) (i := 0) (by simp) (by simp), h3.out.cell (b := w.heap.size + 1) (vs := [.slice a1 n1 cap1]) (i := 0) (by simp) (by simp)⟩
    have HC2 : Hid (∀ (g : Nat) w0, Below w12.heap.size w12 w0 → PathIn w12.heap.size w0.heap.size w0 (some ⟨g, 0, none⟩) l1 → Calls Try.prog 24 #[.agg #[.slice (some ⟨g5, 0, none⟩) n1 n1], .agg #[.slice (some ⟨g, 0, none⟩) n1 n1]] w0 fun e w' => e = .returned (.bool true) ∧ Hid (Below w12.heap.size w12 w') ∧ (w'.cell? ⟨w5.heap.size, 0, none⟩ = some (.slice (some ⟨g5, 0, none⟩) n1 n1) ∧ w'.cell? ⟨w.heap.size + 1, 0, none⟩ = some (.slice a1 n1 cap1))) := fun g w0 h hx =>
      (eqPath_any (w4.alloc (.cells #[.int .i64 s0, .slice (some ⟨g4, 0, none⟩) n0 n0] 26)).heap.size w5.heap.size w12.heap.size w0.heap.size (some ⟨g5, 0, none⟩) (some ⟨g, 0, none⟩) n1 n1 n1 n1 l1 l1 true w0 (X1_49.out.toIn.below h (by have y0 := ZZ2.out; have y1 := ZZ6.out; have y2 := ZZ11.out; have y3 := ZZ18.out; have y4 := ZZ22.out; have y5 := ZZ23.out; have y6 := ZZ28.out; have y7 := ZZ32.out; have y8 := ZZ33.out; have y9 := ZZ39.out; have y10 := ZZ43.out; have y11 := ZZ49.out; omega)) hx (by have yy := h.size; have y0 := ZZ2.out; have y1 := ZZ6.out; have y2 := ZZ11.out; have y3 := ZZ18.out; have y4 := ZZ22.out; have y5 := ZZ23.out; have y6 := ZZ28.out; have y7 := ZZ32.out; have y8 := ZZ33.out; have y9 := ZZ39.out; have y10 := ZZ43.out; have y11 := ZZ49.out; omega) (Nat.le_refl _) HL1.out HL1.out HM1.out.1 HM1.out.2.1 (by simp)).mono fun _ w' ⟨h1, h4⟩ =>
        have h3 : Hid (Hold w w' [(w5.heap.size, [.slice (some ⟨g5, 0, none⟩) n1 n1]), (w4.heap.size, [.int .i64 s0, .slice (some ⟨g4, 0, none⟩) n0 n0]), (w.heap.size + 1, [.slice a1 n1 cap1]), (w.heap.size, [.int .i64 s0, .slice a0 n0 cap0])]) := (HD_48.out.below h).below h4.out
        ⟨h1, h.trans (h4.out.mono h.size), h3.out.cell (b := w5.heap.size) (vs := [.slice (some ⟨g5, 0, none⟩) n1 n1]) (i := 0) (by simp) (by simp), h3.out.cell (b := w.heap.size + 1) (vs := [.slice a1 n1 cap1]) (i := 0) (by simp) (by simp)⟩
    go_wp2_with fail
    go_region_held3 (fun w' => w'.cell? ⟨w5.heap.size, 0, none⟩ = some (.slice (some ⟨g5, 0, none⟩) n1 n1) ∧ w'.cell? ⟨w.heap.size + 1, 0, none⟩ = some (.slice a1 n1 cap1)) (first | exact ⟨q_50, q_51⟩ | exact hk9 | exact hk10) (first | (go_at_call 20; refine (HC1.out _ ((Below.refl _ _).drew)).mono ?_; rintro e w13 ⟨g9, rfl, X9, B9, hk9⟩) | (go_at_call 24; refine (HC2.out _ _ B9.out X9.out).mono ?_; rintro e w14 ⟨rfl, B10, hk10⟩))
    clear q_50 q_51
    clear hk9 hk10 B9 X9 HC1 HC2
    have HD_52 : Hid (Hold w w14 [(w5.heap.size, [.slice (some ⟨g5, 0, none⟩) n1 n1]), (w4.heap.size, [.int .i64 s0, .slice (some ⟨g4, 0, none⟩) n0 n0]), (w.heap.size + 1, [.slice a1 n1 cap1]), (w.heap.size, [.int .i64 s0, .slice a0 n0 cap0])]) := HD_48.out.below B10.out
    clear HD_48
    have ZZ53 : Hid (w12.heap.size ≤ w14.heap.size) := B10.out.size
    have W0_53 : Hid (RowsOwn w2.heap.size w3.heap.size w14 a3 LL) := W0_49.out.below B10.out (by have y0 := ZZ2.out; have y1 := ZZ6.out; have y2 := ZZ11.out; have y3 := ZZ18.out; have y4 := ZZ22.out; have y5 := ZZ23.out; have y6 := ZZ28.out; have y7 := ZZ32.out; have y8 := ZZ33.out; have y9 := ZZ39.out; have y10 := ZZ43.out; have y11 := ZZ49.out; have y12 := ZZ53.out; omega)
    have X0_53 : Hid (EdgesOwn w3.heap.size w4.heap.size w14 (some ⟨g4, 0, none⟩) l0) := X0_49.out.below B10.out (by have y0 := ZZ2.out; have y1 := ZZ6.out; have y2 := ZZ11.out; have y3 := ZZ18.out; have y4 := ZZ22.out; have y5 := ZZ23.out; have y6 := ZZ28.out; have y7 := ZZ32.out; have y8 := ZZ33.out; have y9 := ZZ39.out; have y10 := ZZ43.out; have y11 := ZZ49.out; have y12 := ZZ53.out; omega)
    have X1_53 : Hid (PathOwn (w4.alloc (.cells #[.int .i64 s0, .slice (some ⟨g4, 0, none⟩) n0 n0] 26)).heap.size w5.heap.size w14 (some ⟨g5, 0, none⟩) l1) := X1_49.out.below B10.out (by have y0 := ZZ2.out; have y1 := ZZ6.out; have y2 := ZZ11.out; have y3 := ZZ18.out; have y4 := ZZ22.out; have y5 := ZZ23.out; have y6 := ZZ28.out; have y7 := ZZ32.out; have y8 := ZZ33.out; have y9 := ZZ39.out; have y10 := ZZ43.out; have y11 := ZZ49.out; have y12 := ZZ53.out; omega)
    have G0_53 : Hid (RowsOwn (w5.alloc (.cells #[.slice (some ⟨g5, 0, none⟩) n1 n1] 36)).heap.size w6.heap.size w14 a6 LL) := G0_49.out.below B10.out (by have y0 := ZZ2.out; have y1 := ZZ6.out; have y2 := ZZ11.out; have y3 := ZZ18.out; have y4 := ZZ22.out; have y5 := ZZ23.out; have y6 := ZZ28.out; have y7 := ZZ32.out; have y8 := ZZ33.out; have y9 := ZZ39.out; have y10 := ZZ43.out; have y11 := ZZ49.out; have y12 := ZZ53.out; omega)
    clear W0_49 X0_49 X1_49 G0_49
    clear B10
    have q_54 : w14.cell? ⟨w4.heap.size, 0, none⟩ = some (.int .i64 s0) := HD_52.out.cell (b := w4.heap.size) (vs := [.int .i64 s0, .slice (some ⟨g4, 0, none⟩) n0 n0]) (i := 0) (by simp) (by simp)
    have q_55 : w14.cell? ⟨w4.heap.size, 1, none⟩ = some (.slice (some ⟨g4, 0, none⟩) n0 n0) := HD_52.out.cell (b := w4.heap.size) (vs := [.int .i64 s0, .slice (some ⟨g4, 0, none⟩) n0 n0]) (i := 1) (by simp) (by simp)
    go_wp2_with fail
    refine (markGraph_any w3.heap.size w4.heap.size s0 (some ⟨g4, 0, none⟩) n0 n0 1 l0 _ X0_53.out (by have y0 := ZZ2.out; have y1 := ZZ6.out; have y2 := ZZ11.out; have y3 := ZZ18.out; have y4 := ZZ22.out; have y5 := ZZ23.out; have y6 := ZZ28.out; have y7 := ZZ32.out; have y8 := ZZ33.out; have y9 := ZZ39.out; have y10 := ZZ43.out; have y11 := ZZ49.out; have y12 := ZZ53.out; omega) HL0.out HM.out (by omega)).mono ?_
    rintro e w15 ⟨m15, rfl, HM_m15, X_56, K_56⟩
    clear q_54 q_55
    have HD_57 : Hid (Hold w w15 [(w5.heap.size, [.slice (some ⟨g5, 0, none⟩) n1 n1]), (w4.heap.size, [.int .i64 s0, .slice (some ⟨g4, 0, none⟩) n0 n0]), (w.heap.size + 1, [.slice a1 n1 cap1]), (w.heap.size, [.int .i64 s0, .slice a0 n0 cap0])]) := HD_52.out.kept K_56.out (by intro x hx; simp only [List.mem_cons, List.not_mem_nil, or_false] at hx; have y0 := ZZ2.out; have y1 := ZZ6.out; have y2 := ZZ11.out; have y3 := ZZ18.out; have y4 := ZZ22.out; have y5 := ZZ23.out; have y6 := ZZ28.out; have y7 := ZZ32.out; have y8 := ZZ33.out; have y9 := ZZ39.out; have y10 := ZZ43.out; have y11 := ZZ49.out; have y12 := ZZ53.out; rcases hx with rfl | rfl | rfl | rfl <;> dsimp only <;> omega) (fun k hk => by have y0 := ZZ2.out; have y1 := ZZ6.out; have y2 := ZZ11.out; have y3 := ZZ18.out; have y4 := ZZ22.out; have y5 := ZZ23.out; have y6 := ZZ28.out; have y7 := ZZ32.out; have y8 := ZZ33.out; have y9 := ZZ39.out; have y10 := ZZ43.out; have y11 := ZZ49.out; have y12 := ZZ53.out; omega)
    clear HD_52
    have ZZ58 : Hid (w14.heap.size ≤ w15.heap.size) := K_56.out.size
    have W0_58 : Hid (RowsOwn w2.heap.size w3.heap.size w15 a3 LL) := W0_53.out.kept K_56.out (by have y0 := ZZ2.out; have y1 := ZZ6.out; have y2 := ZZ11.out; have y3 := ZZ18.out; have y4 := ZZ22.out; have y5 := ZZ23.out; have y6 := ZZ28.out; have y7 := ZZ32.out; have y8 := ZZ33.out; have y9 := ZZ39.out; have y10 := ZZ43.out; have y11 := ZZ49.out; have y12 := ZZ53.out; have y13 := ZZ58.out; omega) (fun c h1 h2 h3 => by have y0 := ZZ2.out; have y1 := ZZ6.out; have y2 := ZZ11.out; have y3 := ZZ18.out; have y4 := ZZ22.out; have y5 := ZZ23.out; have y6 := ZZ28.out; have y7 := ZZ32.out; have y8 := ZZ33.out; have y9 := ZZ39.out; have y10 := ZZ43.out; have y11 := ZZ49.out; have y12 := ZZ53.out; have y13 := ZZ58.out; omega)
    have X1_58 : Hid (PathOwn (w4.alloc (.cells #[.int .i64 s0, .slice (some ⟨g4, 0, none⟩) n0 n0] 26)).heap.size w5.heap.size w15 (some ⟨g5, 0, none⟩) l1) := X1_53.out.kept K_56.out (by have y0 := ZZ2.out; have y1 := ZZ6.out; have y2 := ZZ11.out; have y3 := ZZ18.out; have y4 := ZZ22.out; have y5 := ZZ23.out; have y6 := ZZ28.out; have y7 := ZZ32.out; have y8 := ZZ33.out; have y9 := ZZ39.out; have y10 := ZZ43.out; have y11 := ZZ49.out; have y12 := ZZ53.out; have y13 := ZZ58.out; omega) (fun c h1 h2 h3 => by have y0 := ZZ2.out; have y1 := ZZ6.out; have y2 := ZZ11.out; have y3 := ZZ18.out; have y4 := ZZ22.out; have y5 := ZZ23.out; have y6 := ZZ28.out; have y7 := ZZ32.out; have y8 := ZZ33.out; have y9 := ZZ39.out; have y10 := ZZ43.out; have y11 := ZZ49.out; have y12 := ZZ53.out; have y13 := ZZ58.out; omega)
    have G0_58 : Hid (RowsOwn (w5.alloc (.cells #[.slice (some ⟨g5, 0, none⟩) n1 n1] 36)).heap.size w6.heap.size w15 a6 LL) := G0_53.out.kept K_56.out (by have y0 := ZZ2.out; have y1 := ZZ6.out; have y2 := ZZ11.out; have y3 := ZZ18.out; have y4 := ZZ22.out; have y5 := ZZ23.out; have y6 := ZZ28.out; have y7 := ZZ32.out; have y8 := ZZ33.out; have y9 := ZZ39.out; have y10 := ZZ43.out; have y11 := ZZ49.out; have y12 := ZZ53.out; have y13 := ZZ58.out; omega) (fun c h1 h2 h3 => by have y0 := ZZ2.out; have y1 := ZZ6.out; have y2 := ZZ11.out; have y3 := ZZ18.out; have y4 := ZZ22.out; have y5 := ZZ23.out; have y6 := ZZ28.out; have y7 := ZZ32.out; have y8 := ZZ33.out; have y9 := ZZ39.out; have y10 := ZZ43.out; have y11 := ZZ49.out; have y12 := ZZ53.out; have y13 := ZZ58.out; omega)
    clear W0_53 X0_53 X1_53 G0_53
    clear K_56
    have hk15 : m15 ≤ 1000000000 := by have := HM_m15.out; have := HM.out; omega
    have q_59 : w15.cell? ⟨w5.heap.size, 0, none⟩ = some (.slice (some ⟨g5, 0, none⟩) n1 n1) := HD_57.out.cell (b := w5.heap.size) (vs := [.slice (some ⟨g5, 0, none⟩) n1 n1]) (i := 0) (by simp) (by simp)
    go_wp2_with fail
    refine (markPath_any (w4.alloc (.cells #[.int .i64 s0, .slice (some ⟨g4, 0, none⟩) n0 n0] 26)).heap.size w5.heap.size (some ⟨g5, 0, none⟩) n1 n1 m15 l1 _ X1_58.out (by have y0 := ZZ2.out; have y1 := ZZ6.out; have y2 := ZZ11.out; have y3 := ZZ18.out; have y4 := ZZ22.out; have y5 := ZZ23.out; have y6 := ZZ28.out; have y7 := ZZ32.out; have y8 := ZZ33.out; have y9 := ZZ39.out; have y10 := ZZ43.out; have y11 := ZZ49.out; have y12 := ZZ53.out; have y13 := ZZ58.out; omega) HL1.out HM1.out.1 HM1.out.2.2 (by omega)).mono ?_
    rintro e w16 ⟨m16, rfl, HM_m16, X_60, K_60⟩
    clear q_59
    have HD_61 : Hid (Hold w w16 [(w5.heap.size, [.slice (some ⟨g5, 0, none⟩) n1 n1]), (w4.heap.size, [.int .i64 s0, .slice (some ⟨g4, 0, none⟩) n0 n0]), (w.heap.size + 1, [.slice a1 n1 cap1]), (w.heap.size, [.int .i64 s0, .slice a0 n0 cap0])]) := HD_57.out.kept K_60.out (by intro x hx; simp only [List.mem_cons, List.not_mem_nil, or_false] at hx; have y0 := ZZ2.out; have y1 := ZZ6.out; have y2 := ZZ11.out; have y3 := ZZ18.out; have y4 := ZZ22.out; have y5 := ZZ23.out; have y6 := ZZ28.out; have y7 := ZZ32.out; have y8 := ZZ33.out; have y9 := ZZ39.out; have y10 := ZZ43.out; have y11 := ZZ49.out; have y12 := ZZ53.out; have y13 := ZZ58.out; rcases hx with rfl | rfl | rfl | rfl <;> dsimp only <;> omega) (fun k hk => by have y0 := ZZ2.out; have y1 := ZZ6.out; have y2 := ZZ11.out; have y3 := ZZ18.out; have y4 := ZZ22.out; have y5 := ZZ23.out; have y6 := ZZ28.out; have y7 := ZZ32.out; have y8 := ZZ33.out; have y9 := ZZ39.out; have y10 := ZZ43.out; have y11 := ZZ49.out; have y12 := ZZ53.out; have y13 := ZZ58.out; omega)
    clear HD_57
    have ZZ62 : Hid (w15.heap.size ≤ w16.heap.size) := K_60.out.size
    have W0_62 : Hid (RowsOwn w2.heap.size w3.heap.size w16 a3 LL) := W0_58.out.kept K_60.out (by have y0 := ZZ2.out; have y1 := ZZ6.out; have y2 := ZZ11.out; have y3 := ZZ18.out; have y4 := ZZ22.out; have y5 := ZZ23.out; have y6 := ZZ28.out; have y7 := ZZ32.out; have y8 := ZZ33.out; have y9 := ZZ39.out; have y10 := ZZ43.out; have y11 := ZZ49.out; have y12 := ZZ53.out; have y13 := ZZ58.out; have y14 := ZZ62.out; omega) (fun c h1 h2 h3 => by have y0 := ZZ2.out; have y1 := ZZ6.out; have y2 := ZZ11.out; have y3 := ZZ18.out; have y4 := ZZ22.out; have y5 := ZZ23.out; have y6 := ZZ28.out; have y7 := ZZ32.out; have y8 := ZZ33.out; have y9 := ZZ39.out; have y10 := ZZ43.out; have y11 := ZZ49.out; have y12 := ZZ53.out; have y13 := ZZ58.out; have y14 := ZZ62.out; omega)
    have G0_62 : Hid (RowsOwn (w5.alloc (.cells #[.slice (some ⟨g5, 0, none⟩) n1 n1] 36)).heap.size w6.heap.size w16 a6 LL) := G0_58.out.kept K_60.out (by have y0 := ZZ2.out; have y1 := ZZ6.out; have y2 := ZZ11.out; have y3 := ZZ18.out; have y4 := ZZ22.out; have y5 := ZZ23.out; have y6 := ZZ28.out; have y7 := ZZ32.out; have y8 := ZZ33.out; have y9 := ZZ39.out; have y10 := ZZ43.out; have y11 := ZZ49.out; have y12 := ZZ53.out; have y13 := ZZ58.out; have y14 := ZZ62.out; omega) (fun c h1 h2 h3 => by have y0 := ZZ2.out; have y1 := ZZ6.out; have y2 := ZZ11.out; have y3 := ZZ18.out; have y4 := ZZ22.out; have y5 := ZZ23.out; have y6 := ZZ28.out; have y7 := ZZ32.out; have y8 := ZZ33.out; have y9 := ZZ39.out; have y10 := ZZ43.out; have y11 := ZZ49.out; have y12 := ZZ53.out; have y13 := ZZ58.out; have y14 := ZZ62.out; omega)
    clear W0_58 X1_58 G0_58
    clear K_60
    have hn_m16 : ¬ ((m16 : Nat) : Int) < 0 := by omega
    go_wp2_with fail
    refine (eqIntSS_any (w5.alloc (.cells #[.slice (some ⟨g5, 0, none⟩) n1 n1] 36)).heap.size w6.heap.size w2.heap.size w3.heap.size a6 a3 n3 n3 cap6 cap3 LL LL true _ G0_62.out.toIn W0_62.out.toIn (by have y0 := ZZ2.out; have y1 := ZZ6.out; have y2 := ZZ11.out; have y3 := ZZ18.out; have y4 := ZZ22.out; have y5 := ZZ23.out; have y6 := ZZ28.out; have y7 := ZZ32.out; have y8 := ZZ33.out; have y9 := ZZ39.out; have y10 := ZZ43.out; have y11 := ZZ49.out; have y12 := ZZ53.out; have y13 := ZZ58.out; have y14 := ZZ62.out; omega) (by have y0 := ZZ2.out; have y1 := ZZ6.out; have y2 := ZZ11.out; have y3 := ZZ18.out; have y4 := ZZ22.out; have y5 := ZZ23.out; have y6 := ZZ28.out; have y7 := ZZ32.out; have y8 := ZZ33.out; have y9 := ZZ39.out; have y10 := ZZ43.out; have y11 := ZZ49.out; have y12 := ZZ53.out; have y13 := ZZ58.out; have y14 := ZZ62.out; omega) HN3.out HN3.out HM3.out.1 HM3.out.2.1 (by simp)).mono ?_
    rintro e w17 ⟨rfl, B_63⟩
    have HD_64 : Hid (Hold w w17 [(w5.heap.size, [.slice (some ⟨g5, 0, none⟩) n1 n1]), (w4.heap.size, [.int .i64 s0, .slice (some ⟨g4, 0, none⟩) n0 n0]), (w.heap.size + 1, [.slice a1 n1 cap1]), (w.heap.size, [.int .i64 s0, .slice a0 n0 cap0])]) := HD_61.out.below B_63.out
    clear HD_61
    have ZZ65 : Hid (w16.heap.size ≤ w17.heap.size) := B_63.out.size
    have W0_65 : Hid (RowsOwn w2.heap.size w3.heap.size w17 a3 LL) := W0_62.out.below B_63.out (by have y0 := ZZ2.out; have y1 := ZZ6.out; have y2 := ZZ11.out; have y3 := ZZ18.out; have y4 := ZZ22.out; have y5 := ZZ23.out; have y6 := ZZ28.out; have y7 := ZZ32.out; have y8 := ZZ33.out; have y9 := ZZ39.out; have y10 := ZZ43.out; have y11 := ZZ49.out; have y12 := ZZ53.out; have y13 := ZZ58.out; have y14 := ZZ62.out; have y15 := ZZ65.out; omega)
    have G0_65 : Hid (RowsOwn (w5.alloc (.cells #[.slice (some ⟨g5, 0, none⟩) n1 n1] 36)).heap.size w6.heap.size w17 a6 LL) := G0_62.out.below B_63.out (by have y0 := ZZ2.out; have y1 := ZZ6.out; have y2 := ZZ11.out; have y3 := ZZ18.out; have y4 := ZZ22.out; have y5 := ZZ23.out; have y6 := ZZ28.out; have y7 := ZZ32.out; have y8 := ZZ33.out; have y9 := ZZ39.out; have y10 := ZZ43.out; have y11 := ZZ49.out; have y12 := ZZ53.out; have y13 := ZZ58.out; have y14 := ZZ62.out; have y15 := ZZ65.out; omega)
    clear W0_62 G0_62
    clear B_63
    go_wp2_with fail
    refine (markIntSS_any (w5.alloc (.cells #[.slice (some ⟨g5, 0, none⟩) n1 n1] 36)).heap.size w6.heap.size a6 n3 cap6 1 LL _ G0_65.out HN3.out HM3.out.1 HM3.out.2.2 (by omega)).mono ?_
    rintro e w18 ⟨m18, rfl, HM_m18, X_66, K_66⟩
    have HD_67 : Hid (Hold w w18 [(w5.heap.size, [.slice (some ⟨g5, 0, none⟩) n1 n1]), (w4.heap.size, [.int .i64 s0, .slice (some ⟨g4, 0, none⟩) n0 n0]), (w.heap.size + 1, [.slice a1 n1 cap1]), (w.heap.size, [.int .i64 s0, .slice a0 n0 cap0])]) := HD_64.out.kept K_66.out (by intro x hx; simp only [List.mem_cons, List.not_mem_nil, or_false] at hx; have y0 := ZZ2.out; have y1 := ZZ6.out; have y2 := ZZ11.out; have y3 := ZZ18.out; have y4 := ZZ22.out; have y5 := ZZ23.out; have y6 := ZZ28.out; have y7 := ZZ32.out; have y8 := ZZ33.out; have y9 := ZZ39.out; have y10 := ZZ43.out; have y11 := ZZ49.out; have y12 := ZZ53.out; have y13 := ZZ58.out; have y14 := ZZ62.out; have y15 := ZZ65.out; rcases hx with rfl | rfl | rfl | rfl <;> dsimp only <;> omega) (fun k hk => by have y0 := ZZ2.out; have y1 := ZZ6.out; have y2 := ZZ11.out; have y3 := ZZ18.out; have y4 := ZZ22.out; have y5 := ZZ23.out; have y6 := ZZ28.out; have y7 := ZZ32.out; have y8 := ZZ33.out; have y9 := ZZ39.out; have y10 := ZZ43.out; have y11 := ZZ49.out; have y12 := ZZ53.out; have y13 := ZZ58.out; have y14 := ZZ62.out; have y15 := ZZ65.out; omega)
    clear HD_64
    have ZZ68 : Hid (w17.heap.size ≤ w18.heap.size) := K_66.out.size
    have W0_68 : Hid (RowsOwn w2.heap.size w3.heap.size w18 a3 LL) := W0_65.out.kept K_66.out (by have y0 := ZZ2.out; have y1 := ZZ6.out; have y2 := ZZ11.out; have y3 := ZZ18.out; have y4 := ZZ22.out; have y5 := ZZ23.out; have y6 := ZZ28.out; have y7 := ZZ32.out; have y8 := ZZ33.out; have y9 := ZZ39.out; have y10 := ZZ43.out; have y11 := ZZ49.out; have y12 := ZZ53.out; have y13 := ZZ58.out; have y14 := ZZ62.out; have y15 := ZZ65.out; have y16 := ZZ68.out; omega) (fun c h1 h2 h3 => by have y0 := ZZ2.out; have y1 := ZZ6.out; have y2 := ZZ11.out; have y3 := ZZ18.out; have y4 := ZZ22.out; have y5 := ZZ23.out; have y6 := ZZ28.out; have y7 := ZZ32.out; have y8 := ZZ33.out; have y9 := ZZ39.out; have y10 := ZZ43.out; have y11 := ZZ49.out; have y12 := ZZ53.out; have y13 := ZZ58.out; have y14 := ZZ62.out; have y15 := ZZ65.out; have y16 := ZZ68.out; omega)
    clear W0_65 G0_65
    clear K_66
    have G0_69 : Hid (RowsOwn (w5.alloc (.cells #[.slice (some ⟨g5, 0, none⟩) n1 n1] 36)).heap.size w6.heap.size w18 a6 (mkToR 1 LL n3)) := X_66.out
    clear X_66
    go_wp2_with fail
    refine (heldIntSS_any (w5.alloc (.cells #[.slice (some ⟨g5, 0, none⟩) n1 n1] 36)).heap.size w6.heap.size a6 n3 cap6 1 LL _ G0_69.out.toIn HN3.out HM3.out.1 HM3.out.2.2 (by omega)).mono ?_
    rintro e w19 ⟨m19, rfl, HM_m19, B_70⟩
    have HD_71 : Hid (Hold w w19 [(w5.heap.size, [.slice (some ⟨g5, 0, none⟩) n1 n1]), (w4.heap.size, [.int .i64 s0, .slice (some ⟨g4, 0, none⟩) n0 n0]), (w.heap.size + 1, [.slice a1 n1 cap1]), (w.heap.size, [.int .i64 s0, .slice a0 n0 cap0])]) := HD_67.out.below B_70.out
    clear HD_67
    have ZZ72 : Hid (w18.heap.size ≤ w19.heap.size) := B_70.out.size
    have W0_72 : Hid (RowsOwn w2.heap.size w3.heap.size w19 a3 LL) := W0_68.out.below B_70.out (by have y0 := ZZ2.out; have y1 := ZZ6.out; have y2 := ZZ11.out; have y3 := ZZ18.out; have y4 := ZZ22.out; have y5 := ZZ23.out; have y6 := ZZ28.out; have y7 := ZZ32.out; have y8 := ZZ33.out; have y9 := ZZ39.out; have y10 := ZZ43.out; have y11 := ZZ49.out; have y12 := ZZ53.out; have y13 := ZZ58.out; have y14 := ZZ62.out; have y15 := ZZ65.out; have y16 := ZZ68.out; have y17 := ZZ72.out; omega)
    have G0_72 : Hid (RowsOwn (w5.alloc (.cells #[.slice (some ⟨g5, 0, none⟩) n1 n1] 36)).heap.size w6.heap.size w19 a6 (mkToR 1 LL n3)) := G0_69.out.below B_70.out (by have y0 := ZZ2.out; have y1 := ZZ6.out; have y2 := ZZ11.out; have y3 := ZZ18.out; have y4 := ZZ22.out; have y5 := ZZ23.out; have y6 := ZZ28.out; have y7 := ZZ32.out; have y8 := ZZ33.out; have y9 := ZZ39.out; have y10 := ZZ43.out; have y11 := ZZ49.out; have y12 := ZZ53.out; have y13 := ZZ58.out; have y14 := ZZ62.out; have y15 := ZZ65.out; have y16 := ZZ68.out; have y17 := ZZ72.out; omega)
    clear W0_68 G0_69
    clear B_70
    obtain rfl : m18 = m19 := by rw [HM_m19.out, HM_m18.out]
    clear HM_m19
    have hn_m19 : ¬ ((m18 : Nat) : Int) < 0 := by omega
    have q_73 : w19.cell? ⟨w.heap.size, 0, none⟩ = some (.int .i64 s0) := HD_71.out.cell (b := w.heap.size) (vs := [.int .i64 s0, .slice a0 n0 cap0]) (i := 0) (by simp) (by simp)
    have q_74 : w19.cell? ⟨w.heap.size, 1, none⟩ = some (.slice a0 n0 cap0) := HD_71.out.cell (b := w.heap.size) (vs := [.int .i64 s0, .slice a0 n0 cap0]) (i := 1) (by simp) (by simp)
    have q_75 : w19.cell? ⟨w.heap.size + 1, 0, none⟩ = some (.slice a1 n1 cap1) := HD_71.out.cell (b := w.heap.size + 1) (vs := [.slice a1 n1 cap1]) (i := 0) (by simp) (by simp)
    have HTG : Hid (∀ w0, Below w19.heap.size w19 w0 → Calls Try.prog 19 #[gv s0 a0 n0 cap0] w0 fun e w' => ∃ g : Nat, e = .returned (gv s0 (some ⟨g, 0, none⟩) n0 n0) ∧ Hid (EdgesIn w19.heap.size w'.heap.size w' (some ⟨g, 0, none⟩) l0) ∧ Hid (Below w19.heap.size w19 w') ∧ Hid (Below w0.heap.size w0 w') ∧ (w'.cell? ⟨w.heap.size, 0, none⟩ = some (.int .i64 s0) ∧ w'.cell? ⟨w.heap.size, 1, none⟩ = some (.slice a0 n0 cap0) ∧ w'.cell? ⟨w.heap.size + 1, 0, none⟩ = some (.slice a1 n1 cap1))) := fun w0 h =>
      (toGraph_any 0 w.heap.size s0 a0 n0 cap0 l0 w0 (HR0.out.below (HD_71.out.below h).bel (Nat.le_refl _)) (HD_71.out.below h).bel.size HL0.out HM.out).mono fun _ w' ⟨g, h1, h2, h4⟩ =>
        have h3 : Hid (Hold w w' [(w5.heap.size, [.slice (some ⟨g5, 0, none⟩) n1 n1]), (w4.heap.size, [.int .i64 s0, .slice (some ⟨g4, 0, none⟩) n0 n0]), (w.heap.size + 1, [.slice a1 n1 cap1]), (w.heap.size, [.int .i64 s0, .slice a0 n0 cap0])]) := (HD_71.out.below h).below h4.out
        ⟨g, h1, h2.out.toIn.wide h.size (Nat.le_refl _), h.trans (h4.out.mono h.size), h4, h3.out.cell (b := w.heap.size) (vs := [.int .i64 s0, .slice a0 n0 cap0]) (i := 0) (by simp) (by simp), h3.out.cell (b := w.heap.size) (vs := [.int .i64 s0, .slice a0 n0 cap0]) (i := 1) (by simp) (by simp), h3.out.cell (b := w.heap.size + 1) (vs := [.slice a1 n1 cap1]) (i := 0) (by simp) (by simp)⟩
    have HTP : Hid (∀ w0, Below w19.heap.size w19 w0 → Calls Try.prog 20 #[.agg #[.slice a1 n1 cap1]] w0 fun e w' => ∃ g : Nat, e = .returned (.agg #[.slice (some ⟨g, 0, none⟩) n1 n1]) ∧ Hid (PathIn w19.heap.size w'.heap.size w' (some ⟨g, 0, none⟩) l1) ∧ Hid (Below w19.heap.size w19 w') ∧ Hid (Below w0.heap.size w0 w') ∧ (w'.cell? ⟨w.heap.size, 0, none⟩ = some (.int .i64 s0) ∧ w'.cell? ⟨w.heap.size, 1, none⟩ = some (.slice a0 n0 cap0) ∧ w'.cell? ⟨w.heap.size + 1, 0, none⟩ = some (.slice a1 n1 cap1))) := fun w0 h =>
      (toPath_any 0 w.heap.size a1 n1 cap1 l1 w0 (HR1.out.below (HD_71.out.below h).bel (Nat.le_refl _)) (HD_71.out.below h).bel.size HL1.out HM1.out.1 HM1.out.2.1).mono fun _ w' ⟨g, h1, h2, h4⟩ =>
        have h3 : Hid (Hold w w' [(w5.heap.size, [.slice (some ⟨g5, 0, none⟩) n1 n1]), (w4.heap.size, [.int .i64 s0, .slice (some ⟨g4, 0, none⟩) n0 n0]), (w.heap.size + 1, [.slice a1 n1 cap1]), (w.heap.size, [.int .i64 s0, .slice a0 n0 cap0])]) := (HD_71.out.below h).below h4.out
        ⟨g, h1, h2.out.toIn.wide h.size (Nat.le_refl _), h.trans (h4.out.mono h.size), h4, h3.out.cell (b := w.heap.size) (vs := [.int .i64 s0, .slice a0 n0 cap0]) (i := 0) (by simp) (by simp), h3.out.cell (b := w.heap.size) (vs := [.int .i64 s0, .slice a0 n0 cap0]) (i := 1) (by simp) (by simp), h3.out.cell (b := w.heap.size + 1) (vs := [.slice a1 n1 cap1]) (i := 0) (by simp) (by simp)⟩
    have HTF : Hid (∀ w0 (g g' : Nat), Below w19.heap.size w19 w0 → EdgesIn w19.heap.size w0.heap.size w0 (some ⟨g, 0, none⟩) l0 → PathIn w19.heap.size w0.heap.size w0 (some ⟨g', 0, none⟩) l1 → Calls Try.prog 30 #[gv s0 (some ⟨g, 0, none⟩) n0 n0, .agg #[.slice (some ⟨g', 0, none⟩) n1 n1]] w0 fun e w' => ∃ (a' : Option Addr) (n' c' : Nat), e = .returned (.slice a' n' c') ∧ Hid (LL.length = n') ∧ Hid (RowsOwn w19.heap.size w'.heap.size w' a' LL) ∧ Hid (Below w19.heap.size w19 w') ∧ (w'.cell? ⟨w.heap.size, 0, none⟩ = some (.int .i64 s0) ∧ w'.cell? ⟨w.heap.size, 1, none⟩ = some (.slice a0 n0 cap0) ∧ w'.cell? ⟨w.heap.size + 1, 0, none⟩ = some (.slice a1 n1 cap1))) := fun w0 g g' h h1 h2 =>
      (pathPairs_any w19.heap.size w0.heap.size s0 (some ⟨g, 0, none⟩) n0 n0 l0 w19.heap.size w0.heap.size (some ⟨g', 0, none⟩) n1 n1 l1 w0 h1 (Nat.le_refl _) HL0.out HM.out h2 (Nat.le_refl _) HL1.out HM1.out.1 HM1.out.2.1).mono fun _ w' ⟨a', n', c', e1, e2, e3, e4⟩ =>
        have h3 : Hid (Hold w w' [(w5.heap.size, [.slice (some ⟨g5, 0, none⟩) n1 n1]), (w4.heap.size, [.int .i64 s0, .slice (some ⟨g4, 0, none⟩) n0 n0]), (w.heap.size + 1, [.slice a1 n1 cap1]), (w.heap.size, [.int .i64 s0, .slice a0 n0 cap0])]) := (HD_71.out.below h).below e4.out
        ⟨a', n', c', e1, by rw [HLL.out]; exact e2, by rw [HLL.out]; exact e3.out.wide h.size (Nat.le_refl _), h.trans (e4.out.mono h.size), h3.out.cell (b := w.heap.size) (vs := [.int .i64 s0, .slice a0 n0 cap0]) (i := 0) (by simp) (by simp), h3.out.cell (b := w.heap.size) (vs := [.int .i64 s0, .slice a0 n0 cap0]) (i := 1) (by simp) (by simp), h3.out.cell (b := w.heap.size + 1) (vs := [.slice a1 n1 cap1]) (i := 0) (by simp) (by simp)⟩
    go_upto_region 31 with fail
    go_cut [13] (fun v wc => ∃ (a : Option Addr) (n c : Nat), v = .slice a n c ∧ Hid (LL.length = n) ∧ Hid (RowsOwn w19.heap.size wc.heap.size wc a LL) ∧ Hid (Below w19.heap.size w19 wc))
    case first =>
      go_region_held3 (fun w' => w'.cell? ⟨w.heap.size, 0, none⟩ = some (.int .i64 s0) ∧ w'.cell? ⟨w.heap.size, 1, none⟩ = some (.slice a0 n0 cap0) ∧ w'.cell? ⟨w.heap.size + 1, 0, none⟩ = some (.slice a1 n1 cap1)) (first | exact ⟨q_73, q_74, q_75⟩ | exact hk9 | exact hk10 | exact hk11) (first | (go_at_call 19; refine (HTG.out _ (by first | exact (Below.refl _ _).drew | exact B10.out)).mono ?_; rintro e w9 ⟨g9, rfl, X9, B9, C9, hk9⟩) | (go_at_call 20; refine (HTP.out _ (by first | exact (Below.refl _ _).drew | exact B9.out)).mono ?_; rintro e w10 ⟨g10, rfl, X10, B10, C10, hk10⟩) | (go_at_call 30; (first | refine (HTF.out _ _ _ B10.out ((X9.out.below C10.out (Nat.le_refl _)).wide (Nat.le_refl _) C10.out.size) X10.out).mono ?_ | refine (HTF.out _ _ _ B9.out X9.out ((X10.out.below C9.out (Nat.le_refl _)).wide (Nat.le_refl _) C9.out.size)).mono ?_); rintro e w11 ⟨a11, n11, c11, rfl, HN11, X11, B11, hk11⟩))
      all_goals first | (go_meet; case rel => exact ⟨_, _, _, rfl, HN11, X11, B11⟩) | (go_wp2_with fail; go_meet; case rel => exact ⟨_, _, _, rfl, HN11, X11, B11⟩)
    case rest =>
      obtain ⟨w20, rfl⟩ : ∃ V, V = wc := ⟨_, rfl⟩
      obtain ⟨a20, n20, cap20, rfl, HN20, X20, BC_w20⟩ := hcut
      clear q_73 q_74 q_75 HTG HTP HTF
      have HD_76 : Hid (Hold w w20 [(w5.heap.size, [.slice (some ⟨g5, 0, none⟩) n1 n1]), (w4.heap.size, [.int .i64 s0, .slice (some ⟨g4, 0, none⟩) n0 n0]), (w.heap.size + 1, [.slice a1 n1 cap1]), (w.heap.size, [.int .i64 s0, .slice a0 n0 cap0])]) := HD_71.out.below BC_w20.out
      clear HD_71
      have ZZ77 : Hid (w19.heap.size ≤ w20.heap.size) := BC_w20.out.size
      have W0_77 : Hid (RowsOwn w2.heap.size w3.heap.size w20 a3 LL) := W0_72.out.below BC_w20.out (by have y0 := ZZ2.out; have y1 := ZZ6.out; have y2 := ZZ11.out; have y3 := ZZ18.out; have y4 := ZZ22.out; have y5 := ZZ23.out; have y6 := ZZ28.out; have y7 := ZZ32.out; have y8 := ZZ33.out; have y9 := ZZ39.out; have y10 := ZZ43.out; have y11 := ZZ49.out; have y12 := ZZ53.out; have y13 := ZZ58.out; have y14 := ZZ62.out; have y15 := ZZ65.out; have y16 := ZZ68.out; have y17 := ZZ72.out; have y18 := ZZ77.out; omega)
      have G0_77 : Hid (RowsOwn (w5.alloc (.cells #[.slice (some ⟨g5, 0, none⟩) n1 n1] 36)).heap.size w6.heap.size w20 a6 (mkToR 1 LL n3)) := G0_72.out.below BC_w20.out (by have y0 := ZZ2.out; have y1 := ZZ6.out; have y2 := ZZ11.out; have y3 := ZZ18.out; have y4 := ZZ22.out; have y5 := ZZ23.out; have y6 := ZZ28.out; have y7 := ZZ32.out; have y8 := ZZ33.out; have y9 := ZZ39.out; have y10 := ZZ43.out; have y11 := ZZ49.out; have y12 := ZZ53.out; have y13 := ZZ58.out; have y14 := ZZ62.out; have y15 := ZZ65.out; have y16 := ZZ68.out; have y17 := ZZ72.out; have y18 := ZZ77.out; omega)
      clear W0_72 G0_72
      clear BC_w20
      obtain rfl : n3 = n20 := by rw [← HN3.out, HN20.out]
      clear HN20
      have H0_78 : Hid (RowsOwn w19.heap.size w20.heap.size w20 a20 LL) := X20.out
      clear X20
      go_wp2_with fail
      refine (eqIntSS_any w19.heap.size w20.heap.size w2.heap.size w3.heap.size a20 a3 n3 n3 cap20 cap3 LL LL true _ H0_78.out.toIn W0_77.out.toIn (by have y0 := ZZ2.out; have y1 := ZZ6.out; have y2 := ZZ11.out; have y3 := ZZ18.out; have y4 := ZZ22.out; have y5 := ZZ23.out; have y6 := ZZ28.out; have y7 := ZZ32.out; have y8 := ZZ33.out; have y9 := ZZ39.out; have y10 := ZZ43.out; have y11 := ZZ49.out; have y12 := ZZ53.out; have y13 := ZZ58.out; have y14 := ZZ62.out; have y15 := ZZ65.out; have y16 := ZZ68.out; have y17 := ZZ72.out; have y18 := ZZ77.out; omega) (by have y0 := ZZ2.out; have y1 := ZZ6.out; have y2 := ZZ11.out; have y3 := ZZ18.out; have y4 := ZZ22.out; have y5 := ZZ23.out; have y6 := ZZ28.out; have y7 := ZZ32.out; have y8 := ZZ33.out; have y9 := ZZ39.out; have y10 := ZZ43.out; have y11 := ZZ49.out; have y12 := ZZ53.out; have y13 := ZZ58.out; have y14 := ZZ62.out; have y15 := ZZ65.out; have y16 := ZZ68.out; have y17 := ZZ72.out; have y18 := ZZ77.out; omega) HN3.out HN3.out HM3.out.1 HM3.out.2.1 (by simp)).mono ?_
      rintro e w21 ⟨rfl, B_79⟩
      have HD_80 : Hid (Hold w w21 [(w5.heap.size, [.slice (some ⟨g5, 0, none⟩) n1 n1]), (w4.heap.size, [.int .i64 s0, .slice (some ⟨g4, 0, none⟩) n0 n0]), (w.heap.size + 1, [.slice a1 n1 cap1]), (w.heap.size, [.int .i64 s0, .slice a0 n0 cap0])]) := HD_76.out.below B_79.out
      clear HD_76
      have ZZ81 : Hid (w20.heap.size ≤ w21.heap.size) := B_79.out.size
      have W0_81 : Hid (RowsOwn w2.heap.size w3.heap.size w21 a3 LL) := W0_77.out.below B_79.out (by have y0 := ZZ2.out; have y1 := ZZ6.out; have y2 := ZZ11.out; have y3 := ZZ18.out; have y4 := ZZ22.out; have y5 := ZZ23.out; have y6 := ZZ28.out; have y7 := ZZ32.out; have y8 := ZZ33.out; have y9 := ZZ39.out; have y10 := ZZ43.out; have y11 := ZZ49.out; have y12 := ZZ53.out; have y13 := ZZ58.out; have y14 := ZZ62.out; have y15 := ZZ65.out; have y16 := ZZ68.out; have y17 := ZZ72.out; have y18 := ZZ77.out; have y19 := ZZ81.out; omega)
      have G0_81 : Hid (RowsOwn (w5.alloc (.cells #[.slice (some ⟨g5, 0, none⟩) n1 n1] 36)).heap.size w6.heap.size w21 a6 (mkToR 1 LL n3)) := G0_77.out.below B_79.out (by have y0 := ZZ2.out; have y1 := ZZ6.out; have y2 := ZZ11.out; have y3 := ZZ18.out; have y4 := ZZ22.out; have y5 := ZZ23.out; have y6 := ZZ28.out; have y7 := ZZ32.out; have y8 := ZZ33.out; have y9 := ZZ39.out; have y10 := ZZ43.out; have y11 := ZZ49.out; have y12 := ZZ53.out; have y13 := ZZ58.out; have y14 := ZZ62.out; have y15 := ZZ65.out; have y16 := ZZ68.out; have y17 := ZZ72.out; have y18 := ZZ77.out; have y19 := ZZ81.out; omega)
      have H0_81 : Hid (RowsOwn w19.heap.size w20.heap.size w21 a20 LL) := H0_78.out.below B_79.out (by have y0 := ZZ2.out; have y1 := ZZ6.out; have y2 := ZZ11.out; have y3 := ZZ18.out; have y4 := ZZ22.out; have y5 := ZZ23.out; have y6 := ZZ28.out; have y7 := ZZ32.out; have y8 := ZZ33.out; have y9 := ZZ39.out; have y10 := ZZ43.out; have y11 := ZZ49.out; have y12 := ZZ53.out; have y13 := ZZ58.out; have y14 := ZZ62.out; have y15 := ZZ65.out; have y16 := ZZ68.out; have y17 := ZZ72.out; have y18 := ZZ77.out; have y19 := ZZ81.out; omega)
      clear W0_77 G0_77 H0_78
      clear B_79
      go_wp2_with fail
      refine (heldIntSS_any (w5.alloc (.cells #[.slice (some ⟨g5, 0, none⟩) n1 n1] 36)).heap.size w6.heap.size a6 n3 cap6 1 LL _ G0_81.out.toIn HN3.out HM3.out.1 HM3.out.2.2 (by omega)).mono ?_
      rintro e w22 ⟨m22, rfl, HM_m22, B_82⟩
      have HD_83 : Hid (Hold w w22 [(w5.heap.size, [.slice (some ⟨g5, 0, none⟩) n1 n1]), (w4.heap.size, [.int .i64 s0, .slice (some ⟨g4, 0, none⟩) n0 n0]), (w.heap.size + 1, [.slice a1 n1 cap1]), (w.heap.size, [.int .i64 s0, .slice a0 n0 cap0])]) := HD_80.out.below B_82.out
      clear HD_80
      have ZZ84 : Hid (w21.heap.size ≤ w22.heap.size) := B_82.out.size
      have W0_84 : Hid (RowsOwn w2.heap.size w3.heap.size w22 a3 LL) := W0_81.out.below B_82.out (by have y0 := ZZ2.out; have y1 := ZZ6.out; have y2 := ZZ11.out; have y3 := ZZ18.out; have y4 := ZZ22.out; have y5 := ZZ23.out; have y6 := ZZ28.out; have y7 := ZZ32.out; have y8 := ZZ33.out; have y9 := ZZ39.out; have y10 := ZZ43.out; have y11 := ZZ49.out; have y12 := ZZ53.out; have y13 := ZZ58.out; have y14 := ZZ62.out; have y15 := ZZ65.out; have y16 := ZZ68.out; have y17 := ZZ72.out; have y18 := ZZ77.out; have y19 := ZZ81.out; have y20 := ZZ84.out; omega)
      have G0_84 : Hid (RowsOwn (w5.alloc (.cells #[.slice (some ⟨g5, 0, none⟩) n1 n1] 36)).heap.size w6.heap.size w22 a6 (mkToR 1 LL n3)) := G0_81.out.below B_82.out (by have y0 := ZZ2.out; have y1 := ZZ6.out; have y2 := ZZ11.out; have y3 := ZZ18.out; have y4 := ZZ22.out; have y5 := ZZ23.out; have y6 := ZZ28.out; have y7 := ZZ32.out; have y8 := ZZ33.out; have y9 := ZZ39.out; have y10 := ZZ43.out; have y11 := ZZ49.out; have y12 := ZZ53.out; have y13 := ZZ58.out; have y14 := ZZ62.out; have y15 := ZZ65.out; have y16 := ZZ68.out; have y17 := ZZ72.out; have y18 := ZZ77.out; have y19 := ZZ81.out; have y20 := ZZ84.out; omega)
      have H0_84 : Hid (RowsOwn w19.heap.size w20.heap.size w22 a20 LL) := H0_81.out.below B_82.out (by have y0 := ZZ2.out; have y1 := ZZ6.out; have y2 := ZZ11.out; have y3 := ZZ18.out; have y4 := ZZ22.out; have y5 := ZZ23.out; have y6 := ZZ28.out; have y7 := ZZ32.out; have y8 := ZZ33.out; have y9 := ZZ39.out; have y10 := ZZ43.out; have y11 := ZZ49.out; have y12 := ZZ53.out; have y13 := ZZ58.out; have y14 := ZZ62.out; have y15 := ZZ65.out; have y16 := ZZ68.out; have y17 := ZZ72.out; have y18 := ZZ77.out; have y19 := ZZ81.out; have y20 := ZZ84.out; omega)
      clear W0_81 G0_81 H0_81
      clear B_82
      obtain rfl : m18 = m22 := by rw [HM_m22.out, HM_m18.out]
      clear HM_m22
      have hn_m22 : ¬ ((m18 : Nat) : Int) < 0 := by omega
      go_wp2
      go_ret
      exact ⟨rfl, HD_83.out.bel⟩
end Go.Proofs.Ytdbogikcmfnpdaa

namespace Go.Proofs.Ytdbogikcmfnpdaa.fnExactPathPairs
open Go.ChangeShapes Go.WideShapes Go.ChangeAt Go.RowKit
open Go.ChangeMaps (open_string shut_string)
set_option linter.unusedVariables false

theorem own : ownKnob Try.prog.godebug = none := by kernel_rfl
theorem laidOut : laidOutB Try.prog = true := by kernel_rfl

set_option maxRecDepth 100000 in
theorem lifted (os : Os) (started : os.Started) (H : Type) (enc : TypeId × Value → H) :
    ReturnsInHanded {} Try.checked os 6 .any (Rows.fnExactPathPairsSpec.pre6 enc Try.prog Try.f6 Rows.fnExactPathPairsRow.domain false) (Rows.fnExactPathPairsSpec.post enc Try.prog Try.f6 false true false false) := by
  refine returnsInHanded_of_change (C := Try.checked) own started (by kernel_rfl) Try.func6
    (ChangeSpec.witness6 (enc := enc) (C := Try.checked) false ⟨#[], #[.agg #[.int .i64 0, .slice none 0 0], .agg #[.slice none 0 0]], []⟩ 8 (by kernel_rfl) (by kernel_rfl) (by kernel_rfl) (by kernel_rfl)) ?_
  intro W base args ds gs before hval0 hW hcnd _
  have hval : ∀ (j : Nat) t v, Try.f6.params[j]? = some t → args[j]? = some v → Value.okWide Try.prog W .any base t v := hval0
  have hW' := hW
  obtain ⟨p, q, hA0, hV, rfl, hfz, hnd⟩ := hW
  have hA : DataW.TrodAll enc Try.prog W 0 (fun _ => true) true Try.f6.params.toList args.toList ds p := hA0
  rw [Try.params6] at hA hval
  obtain ⟨v0, vs0, d0, ds0, p0, q0, hargs, rfl, rfl, h0, r0⟩ := trodAll_cons hA
  obtain ⟨v1, vs1, d1, ds1, p1, q1, rfl, rfl, rfl, h1, r1⟩ := trodAll_cons r0
  obtain ⟨rfl, rfl, rfl⟩ := trodAll_nil r1
  obtain rfl : args = #[v0, v1] := by cases args; simp_all
  obtain ⟨rfl, rfl⟩ := trodVars_none hV
  have k0 := h0
  have lt0 : ∀ x ∈ p0, x.block < W.heap.size := by obtain ⟨m, hm⟩ := k0; exact DataW.trod_lt m _ _ _ hm
  have k1 := h1
  have lt1 : ∀ x ∈ p1, x.block < W.heap.size := by obtain ⟨m, hm⟩ := k1; exact DataW.trod_lt m _ _ _ hm
  obtain ⟨s0, a0, n0, cap0, l0, rfl, hm0, hl0, hr0⟩ := graph_in (hval 0 42 v0 rfl rfl) k0
  obtain ⟨a1, n1, cap1, l1, rfl, hm1, hl1, hr1⟩ := path_in (hval 1 45 v1 rfl rfl) k1
  clear hA0 hval0
  refine (law_9 s0 a0 n0 cap0 l0 a1 n1 cap1 l1 W hm0 hl0 hr0 hm1 hl1 hr1).mono fun e W' ⟨he, bel⟩ => ?_
  subst he
  exact ⟨_, rfl, _, _, _, [], _, [], hW', trodAll_mk1 (shut_bool Try.underlying4 _), (trodAll_cons_mk (Below.trod laidOut (by kernel_rfl) (of_decide_eq_true (by kernel_rfl)) k0 bel lt0) (trodAll_cons_mk (Below.trod laidOut (by kernel_rfl) (of_decide_eq_true (by kernel_rfl)) k1 bel lt1) trodAll_mk0)), rfl, bel.frame _, fun h => by cases h⟩

theorem over : Rows.fnExactPathPairsRow.holds Try.pinned (OpenSpec.ofChange Rows.fnExactPathPairsSpec) :=
  OpenClaim.holds_of_wide 6 Try.f6 rfl rfl rfl rfl rfl rfl rfl ⟨rfl, rfl, rfl, rfl, rfl⟩ rfl rfl rfl rfl rfl (by kernel_rfl) Try.func6 (by kernel_rfl)
    (of_decide_eq_true (by kernel_rfl)) (by unfold Func.isWrapper; first | (rw [if_pos (by decide +kernel)]; kernel_rfl) | (rw [if_neg (by decide +kernel)]; exact ⟨rfl, rfl⟩))
    (fun os started H enc _ => lifted os started H enc)

end Go.Proofs.Ytdbogikcmfnpdaa.fnExactPathPairs
namespace Go.Proofs.Ytdbogikcmfnpdaa

theorem fnExactPathPairs_holds : Rows.FnExactPathPairsSaid := fnExactPathPairs.over
#print axioms fnExactPathPairs_holds
end Go.Proofs.Ytdbogikcmfnpdaa
