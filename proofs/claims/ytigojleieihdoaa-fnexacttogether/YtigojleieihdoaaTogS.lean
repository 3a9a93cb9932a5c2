/-
  Graphs put together, by the model: spec.Together.
-/
import Derived.Test.YtigojleieihdoaaGs
import Derived.Test.YtigojleieihdoaaGOkS
import Derived.Deep.DeepCutAuto
namespace Go.Proofs.Ytigojleieihdoaa
open Go.RowKit

set_option maxHeartbeats 8000000 in
set_option maxRecDepth 100000 in
theorem specTogether_any (lo hi : Nat) (a : Option Addr) (n cap : Nat) (G : List Gr) (w : World) (ha : GrsIn lo hi w a G) (hh : hi ≤ w.heap.size) (hn : G.length = n) (hm : n ≤ 1048576) (ht : (catTo G G.length).length ≤ 1048576) :
    Calls Try.prog 5 #[.slice a n cap] w fun e w' => ∃ (a' : Option Addr) (n' cap' : Nat), e = .returned (.tuple #[gv (togS G) a' n' cap', .bool (togB G)]) ∧ Hid ((togE G).length = n') ∧ Hid (EdgesOwn w.heap.size w'.heap.size w' a' (togE G)) ∧ Hid (Below w.heap.size w w') := by
  have HN : Hid (G.length = n) := hn
  have HA : Hid (GrsIn lo hi w a G) := ha
  have HH : Hid (hi ≤ w.heap.size) := hh
  have HTT : Hid ((catTo G G.length).length ≤ 1048576) := ht
  obtain ⟨i0, hi0, hz0, hz1, hz2⟩ := info_parts Try.info43
  clear ha hh hn ht
  obtain ⟨B, HB⟩ : ∃ B, Hid (w.heap.size = B) := ⟨_, rfl⟩
  by_cases h0 : n = 0
  · subst h0
    have HG : Hid (G = []) := List.length_eq_zero_iff.1 HN.out
    have HF : Hid (togB G = false) := by rw [HG.out]; exact togB_none
    have HR0 : Hid (Blk (w.alloc (.cells #[.int .i64 0, .slice none 0 0] 26)) B 2 (fun i => if i = 0 then .int .i64 0 else .slice none 0 0)) := blk_two w B HB.out.symm _ _ _
    obtain ⟨W, HW⟩ : ∃ W, Hid (W = w.alloc (.cells #[.int .i64 0, .slice none 0 0] 26)) := ⟨_, rfl⟩
    have HBW : Hid (Below w.heap.size w W) := by rw [HW.out]; exact below1 w _
    rw [← HW.out] at HR0
    go_enter Try.func5, Try.ntmps5
    go_upto_region 1 with fail
    rw [HB.out, ← HW.out]
    clear HW
    obtain ⟨r0, r1⟩ := blk_pair_cells HR0.out
    have rf0 := Blk.frozen HR0.out 0
    have rf1 := Blk.frozen HR0.out 1
    go_wp2
    refine bodyPost_ret (v := .tuple #[.agg #[.int .i64 0, .slice none 0 0], .bool false]) (by simp [results, Try.results5, go_sem, r0, r1]) rfl ?_
    have hbl : Below w.heap.size w W := HBW.out
    refine ⟨none, 0, 0, by rw [togS_no HF.out, HF.out], by rw [togE_no HF.out]; rfl, by rw [togE_no HF.out]; exact .inl rfl, ?_⟩
    show Below _ _ _
    exact (hbl.setCell (p := ⟨B, 0, none⟩) (by show w.heap.size ≤ B; have := HB.out; omega) _).setCell (p := ⟨B, 1, none⟩) (by show w.heap.size ≤ B; have := HB.out; omega) _
  have hne : ¬ (n : Int) = 0 := by omega
  have hne2 : ((n : Int) == 0) = false := by simp; omega
  have hne3 : decide ((n : Int) = 0) = false := by simp; omega
  have h0n : (0 : Int) < (n : Int) := by omega
  obtain ⟨s0, HS0⟩ : ∃ s0, Hid (s0 = (gat G 0).1) := ⟨_, rfl⟩
  obtain ⟨b, o, rfl, hbh, hg0⟩ := HA.out.graph (k := 0) (by rw [HN.out]; omega)
  obtain ⟨a9, c9, g0, _, _⟩ := hg0
  rw [← HS0.out] at g0
  have g0' : w.cell? ⟨b, o, none⟩ = some (.int .i64 s0) := by simpa using g0
  have g0w : (w.alloc (.cells #[.int .i64 0, .slice none 0 0] 26)).cell? ⟨b, o, none⟩ = some (.int .i64 s0) := cell_below g0' (below1 w _) (lt_of_cell g0')
  obtain ⟨W1, HW1⟩ : ∃ W1, Hid (W1 = (w.alloc (.cells #[.int .i64 0, .slice none 0 0] 26)).alloc (.cells #[.int .i64 s0, .slice none 0 0] 26)) := ⟨_, rfl⟩
  have HTI : Hid (TI w W1 B s0 none 0 0 []) := by
    rw [HW1.out]
    exact ⟨below2 w _ _, (blk_two w B HB.out.symm _ _ _).alloc _, blk_two _ (B + 1) (by simp [HB.out]) _ _ _, World.ownsRow_nil _ _ _ _, rfl, HB.out, by simp; have := HB.out; omega⟩
  clear g0 g0' hbh
  go_enter Try.func5, Try.ntmps5
  go_wp2
  rw [HB.out, ← HW1.out]
  clear HW1 g0w
  go_loopw [5] (fun i wr => ∃ (k m : Nat) (a' : Option Addr) (cap' : Nat), i = .int .i64 k ∧ k ≤ n ∧ Hid (TI w wr B s0 a' m cap' (putOn [] (catTo G k))) ∧ Hid (∀ i, i < k → okG (gat G i).1 (gat G i).2 = true ∧ (gat G i).1 = s0)) (fun i _ => n - (intOf i).toNat)
  case atStart => exact ⟨0, 0, none, 0, rfl, by omega, HTI, fun i hi => absurd hi (by omega)⟩
  case round =>
    obtain ⟨k, m, a', cap', rfl, hk, HT, HAL⟩ := hrel
    by_cases hlt : k < n
    · have hlt1 : (k : Int) < (n : Int) := by omega
      have hlt0 : (0 : Int) ≤ (k : Int) := by omega
      have hkl : k < G.length := by rw [HN.out]; exact hlt
      obtain ⟨b2, o2, eq2, hb2, hgk⟩ := HA.out.graph hkl
      simp only [Option.some.injEq, Addr.mk.injEq, and_true] at eq2
      obtain ⟨rfl, rfl⟩ := eq2
      obtain ⟨ak, ck, q0, q1, hek⟩ := hgk
      obtain ⟨gk, HGK⟩ : ∃ gk : Gr, Hid (gk = gat G k) := ⟨_, rfl⟩
      rw [← HGK.out] at q0 q1 hek
      have HST : Hid (catTo G (k + 1) = catTo G k ++ gk.2) := by show _ = _; rw [catTo_step hkl, HGK.out]
      have HTL : Hid ((catTo G (k + 1)).length ≤ 1048576) := Nat.le_trans (catTo_le (by rw [HN.out]; omega)) HTT.out
      obtain ⟨sk, lk⟩ := gk
      dsimp only at q0 q1 hek
      obtain ⟨nk, HNK⟩ : ∃ nk, Hid (lk.length = nk) := ⟨_, rfl⟩
      rw [HNK.out] at q1
      have HLB : Hid ((catTo G k).length + nk ≤ 1048576) := by
        have h1 := HTL.out
        rw [HST.out, List.length_append] at h1
        have h2 := HNK.out
        show _ ≤ _
        dsimp only at h1
        omega
      have hnk : nk ≤ 1048576 := by have := HLB.out; omega
      have HEK : Hid (EdgesIn lo hi w ak lk) := hek
      have HQ1 : Hid (w.cell? ⟨b, o + k * 2 + 1, none⟩ = some (.slice ak nk ck)) := q1
      have hbw : b < w.heap.size := lt_of_cell q1
      have q0' := cell_below q0 HT.out.bel hbw
      have q1' := cell_below q1 HT.out.bel hbw
      clear q0 q1 hek
      have q0 := q0'
      have q1 := q1'
      clear q0' q1'
      obtain ⟨r, HR⟩ : ∃ r, Hid (r = okG sk lk) := ⟨_, rfl⟩
      obtain ⟨t0, _⟩ := blk_pair_cells HT.out.box
      rcases Bool.eq_false_or_eq_true r with hr | hr
      · subst hr
        have HC1 : Hid (∀ w0, Below wr.heap.size wr w0 → Calls Try.prog 14 #[gv sk ak nk ck] w0 fun e w' => e = .returned (.bool true) ∧ Hid (Below wr.heap.size wr w') ∧ (w'.cell? ⟨b, o + k * 2, none⟩ = some (.int .i64 sk) ∧ w'.cell? ⟨b, o + k * 2 + 1, none⟩ = some (.slice ak nk ck) ∧ w'.cell? ⟨B + 1, 0, none⟩ = some (.int .i64 s0))) := fun w0 h =>
          (specGOk_any lo hi sk ak nk ck lk true w0 (HEK.out.below (HT.out.bel.trans (h.mono HT.out.bel.size)) HH.out) (Nat.le_trans HH.out (HT.out.bel.trans (h.mono HT.out.bel.size)).size) HNK.out (by omega) HR.out).mono fun _ w' ⟨h1, h4⟩ =>
            have h5 := h.trans (h4.out.mono h.size)
            ⟨h1, h5, cell_below q0 h5 (lt_of_cell q0), cell_below q1 h5 (lt_of_cell q1), cell_below t0 h5 (lt_of_cell t0)⟩
        by_cases hs : sk = s0
        · subst hs
          go_wp2_with fail
          refine wp_region_held_drew (S := fun w' => w'.cell? ⟨b, o + k * 2, none⟩ = some (.int .i64 sk) ∧ w'.cell? ⟨b, o + k * 2 + 1, none⟩ = some (.slice ak nk ck) ∧ w'.cell? ⟨B + 1, 0, none⟩ = some (.int .i64 sk)) (by kernel_rfl) ⟨q0, q1, t0⟩ (fun hHeld => ?_)
          clear q0 q1 t0
          refine wpAnyH_take (i := 0) (oi := { dst := some 22, op := Go.Op.move (Go.Operand.tmp 0), type := 29, pos := "l05_share.go:44", after := #[], guard := none }) (v := ?_) rfl (by kernel_rfl) (by kernel_rfl) (by kernel_rfl) (fun _ _ _ h => h) (Or.inl ⟨by kernel_rfl, ?_⟩) (by assumption) ?_
          rotate_left
          · intro w hSw; (try dsimp only at hSw); go_simp; try with_reducible rfl
          simp only [Act.put, List.setIfInBounds_toArray, List.set_cons_zero, List.set_cons_succ]
          refine wpAnyH_take (i := 1) (oi := { dst := some 23, op := Go.Op.move (Go.Operand.tmp 5), type := 3, pos := "l05_share.go:44", after := #[], guard := none }) (v := ?_) rfl (by kernel_rfl) (by kernel_rfl) (by kernel_rfl) (fun _ _ _ h => h) (Or.inl ⟨by kernel_rfl, ?_⟩) (by assumption) ?_
          rotate_left
          · intro w hSw; (try dsimp only at hSw); go_simp; try with_reducible rfl
          simp only [Act.put, List.setIfInBounds_toArray, List.set_cons_zero, List.set_cons_succ]
          refine wpAnyH_take (i := 2) (oi := { dst := some 24, op := Go.Op.indexAddr 29 (Go.Operand.tmp 22) (Go.Operand.tmp 23), type := 0, pos := "l05_share.go:44", after := #[{ on := 0, ground := Go.Ground.data }, { on := 1, ground := Go.Ground.data }], guard := none }) (v := ?_) rfl (by kernel_rfl) (by kernel_rfl) (by kernel_rfl) (fun _ _ _ h => h) (Or.inl ⟨by kernel_rfl, ?_⟩) (by assumption) ?_
          rotate_left
          · intro w hSw; (try dsimp only at hSw); go_simp; try with_reducible rfl
          simp only [Act.put, List.setIfInBounds_toArray, List.set_cons_zero, List.set_cons_succ]
          refine wpAnyH_take (i := 3) (oi := { dst := some 25, op := Go.Op.load 26 (Go.Operand.tmp 24), type := 26, pos := "l05_share.go:44", after := #[{ on := 2, ground := Go.Ground.data }], guard := none }) (v := ?_) rfl (by kernel_rfl) (by kernel_rfl) (by kernel_rfl) (fun _ _ _ h => h) (Or.inl ⟨by kernel_rfl, ?_⟩) (by assumption) ?_
          rotate_left
          · intro w hSw; (try dsimp only at hSw); go_simp; try with_reducible rfl
          simp only [Act.put, List.setIfInBounds_toArray, List.set_cons_zero, List.set_cons_succ]
          refine wpAnyH_ready (rs := [4]) (by kernel_rfl) (by simp) ?_
          refine AllReadyH.cons (o := { dst := some 26, op := Go.Op.call { callee := Go.Callee.value (Go.Operand.func 14), args := #[Go.Operand.tmp 25], argTypes := #[26] }, type := 4, pos := "l05_share.go:44", after := #[{ on := 3, ground := Go.Ground.data }], guard := none }) rfl (fun K hK => ?_) ?_
          · go_simp
            go_wp2_with (go_at_call 14; refine (HC1.out _ ((Below.refl _ _).drew)).mono ?_; rintro e w3 ⟨rfl, B3, hk3⟩)
            refine hK.out _ _ hk3 (fun hHeld => ?_)
            clear hK K
            try simp only [Act.put, List.setIfInBounds_toArray, List.set_cons_zero, List.set_cons_succ]
            refine wpAnyH_take (i := 5) (oi := { dst := some 27, op := Go.Op.unOp Go.UnOp.not 4 (Go.Operand.tmp 26), type := 4, pos := "l05_share.go:44", after := #[{ on := 4, ground := Go.Ground.data }], guard := none }) (v := ?_) rfl (by kernel_rfl) (by kernel_rfl) (by kernel_rfl) (fun _ _ _ h => h) (Or.inl ⟨by kernel_rfl, ?_⟩) (by assumption) ?_
            rotate_left
            · intro w hSw; (try dsimp only at hSw); go_simp; try with_reducible rfl
            simp only [Act.put, List.setIfInBounds_toArray, List.set_cons_zero, List.set_cons_succ]
            refine wpAnyH_take (i := 6) (oi := { dst := some 28, op := Go.Op.move (Go.Operand.tmp 27), type := 4, pos := "l05_share.go:44", after := #[{ on := 5, ground := Go.Ground.data }, { on := 4, ground := Go.Ground.chain }], guard := none }) (v := ?_) rfl (by kernel_rfl) (by kernel_rfl) (by kernel_rfl) (fun _ _ _ h => h) (Or.inl ⟨by kernel_rfl, ?_⟩) (by assumption) ?_
            rotate_left
            · intro w hSw; (try dsimp only at hSw); go_simp; try with_reducible rfl
            simp only [Act.put, List.setIfInBounds_toArray, List.set_cons_zero, List.set_cons_succ]
            refine wpAnyH_take (i := 7) (oi := { dst := some 29, op := Go.Op.move (Go.Operand.tmp 0), type := 29, pos := "l05_share.go:44", after := #[{ on := 6, ground := Go.Ground.guard }], guard := some (6, false) }) (v := ?_) rfl (by kernel_rfl) (by kernel_rfl) (by kernel_rfl) (fun _ _ _ h => h) (Or.inl ⟨by kernel_rfl, ?_⟩) (by assumption) ?_
            rotate_left
            · intro w hSw; (try dsimp only at hSw); go_simp; try with_reducible rfl
            simp only [Act.put, List.setIfInBounds_toArray, List.set_cons_zero, List.set_cons_succ]
            refine wpAnyH_take (i := 8) (oi := { dst := some 30, op := Go.Op.move (Go.Operand.tmp 5), type := 3, pos := "l05_share.go:44", after := #[{ on := 6, ground := Go.Ground.guard }], guard := some (6, false) }) (v := ?_) rfl (by kernel_rfl) (by kernel_rfl) (by kernel_rfl) (fun _ _ _ h => h) (Or.inl ⟨by kernel_rfl, ?_⟩) (by assumption) ?_
            rotate_left
            · intro w hSw; (try dsimp only at hSw); go_simp; try with_reducible rfl
            simp only [Act.put, List.setIfInBounds_toArray, List.set_cons_zero, List.set_cons_succ]
            refine wpAnyH_take (i := 9) (oi := { dst := some 31, op := Go.Op.indexAddr 29 (Go.Operand.tmp 29) (Go.Operand.tmp 30), type := 0, pos := "l05_share.go:44", after := #[{ on := 7, ground := Go.Ground.data }, { on := 8, ground := Go.Ground.data }, { on := 6, ground := Go.Ground.guard }], guard := some (6, false) }) (v := ?_) rfl (by kernel_rfl) (by kernel_rfl) (by kernel_rfl) (fun _ _ _ h => h) (Or.inl ⟨by kernel_rfl, ?_⟩) (by assumption) ?_
            rotate_left
            · intro w hSw; (try dsimp only at hSw); go_simp; try with_reducible rfl
            simp only [Act.put, List.setIfInBounds_toArray, List.set_cons_zero, List.set_cons_succ]
            refine wpAnyH_take (i := 10) (oi := { dst := some 32, op := Go.Op.fieldAddr 26 (Go.Operand.tmp 31) 0, type := 0, pos := "l05_share.go:44", after := #[{ on := 9, ground := Go.Ground.data }, { on := 6, ground := Go.Ground.guard }], guard := some (6, false) }) (v := ?_) rfl (by kernel_rfl) (by kernel_rfl) (by kernel_rfl) (fun _ _ _ h => h) (Or.inl ⟨by kernel_rfl, ?_⟩) (by assumption) ?_
            rotate_left
            · intro w hSw; (try dsimp only at hSw); go_simp; try with_reducible rfl
            simp only [Act.put, List.setIfInBounds_toArray, List.set_cons_zero, List.set_cons_succ]
            refine wpAnyH_take (i := 11) (oi := { dst := some 33, op := Go.Op.load 3 (Go.Operand.tmp 32), type := 3, pos := "l05_share.go:44", after := #[{ on := 10, ground := Go.Ground.data }, { on := 6, ground := Go.Ground.guard }], guard := some (6, false) }) (v := ?_) rfl (by kernel_rfl) (by kernel_rfl) (by kernel_rfl) (fun _ _ _ h => h) (Or.inl ⟨by kernel_rfl, ?_⟩) (by assumption) ?_
            rotate_left
            · intro w hSw; (try dsimp only at hSw); go_simp; try with_reducible rfl
            simp only [Act.put, List.setIfInBounds_toArray, List.set_cons_zero, List.set_cons_succ]
            refine wpAnyH_take (i := 12) (oi := { dst := some 34, op := Go.Op.fieldAddr 26 (Go.Operand.tmp 4) 0, type := 0, pos := "l05_share.go:44", after := #[{ on := 6, ground := Go.Ground.guard }], guard := some (6, false) }) (v := ?_) rfl (by kernel_rfl) (by kernel_rfl) (by kernel_rfl) (fun _ _ _ h => h) (Or.inl ⟨by kernel_rfl, ?_⟩) (by assumption) ?_
            rotate_left
            · intro w hSw; (try dsimp only at hSw); go_simp; try with_reducible rfl
            simp only [Act.put, List.setIfInBounds_toArray, List.set_cons_zero, List.set_cons_succ]
            refine wpAnyH_take (i := 13) (oi := { dst := some 35, op := Go.Op.load 3 (Go.Operand.tmp 34), type := 3, pos := "l05_share.go:44", after := #[{ on := 12, ground := Go.Ground.data }, { on := 6, ground := Go.Ground.guard }], guard := some (6, false) }) (v := ?_) rfl (by kernel_rfl) (by kernel_rfl) (by kernel_rfl) (fun _ _ _ h => h) (Or.inl ⟨by kernel_rfl, ?_⟩) (by assumption) ?_
            rotate_left
            · intro w hSw; (try dsimp only at hSw); go_simp; try with_reducible rfl
            simp only [Act.put, List.setIfInBounds_toArray, List.set_cons_zero, List.set_cons_succ]
            refine wpAnyH_take (i := 14) (oi := { dst := some 36, op := Go.Op.binOp Go.BinOp.neq 3 (Go.Operand.tmp 33) (Go.Operand.tmp 35) 3, type := 4, pos := "l05_share.go:44", after := #[{ on := 11, ground := Go.Ground.data }, { on := 13, ground := Go.Ground.data }, { on := 6, ground := Go.Ground.guard }], guard := some (6, false) }) (v := ?_) rfl (by kernel_rfl) (by kernel_rfl) (by kernel_rfl) (fun _ _ _ h => h) (Or.inl ⟨by kernel_rfl, ?_⟩) (by assumption) ?_
            rotate_left
            · intro w hSw; (try dsimp only at hSw); go_simp; try with_reducible rfl
            simp only [Act.put, List.setIfInBounds_toArray, List.set_cons_zero, List.set_cons_succ]
            refine wpAnyH_take (i := 15) (oi := { dst := some 37, op := Go.Op.pick (Go.Operand.tmp 28) (Go.Operand.const (Go.Value.bool true)) (Go.Operand.tmp 36), type := 4, pos := "l05_share.go:44", after := #[{ on := 6, ground := Go.Ground.data }, { on := 14, ground := Go.Ground.data }], guard := none }) (v := ?_) rfl (by kernel_rfl) (by kernel_rfl) (by kernel_rfl) (fun _ _ _ h => h) (Or.inl ⟨by kernel_rfl, ?_⟩) (by assumption) ?_
            rotate_left
            · intro w hSw; (try dsimp only at hSw); go_simp; try with_reducible rfl
            simp only [Act.put, List.setIfInBounds_toArray, List.set_cons_zero, List.set_cons_succ]
            refine wpAnyH_done (by kernel_rfl) ?_ _
            clear hHeld hk3
            have HT3 : Hid (TI w w3 B sk a' m cap' (putOn [] (catTo G k))) := HT.out.below B3.out
            clear HT HC1 B3 HTI
            go_wp2
            go_loopw [6] (fun i wq => ∃ (j m1 : Nat) (a1 : Option Addr) (cap1 : Nat), i = .int .i64 j ∧ j ≤ nk ∧ Hid (TI w wq B sk a1 m1 cap1 (putOn (putOn [] (catTo G k)) (lk.take j)))) (fun i _ => nk - (intOf i).toNat)
            case atStart => exact ⟨0, m, a', cap', rfl, by omega, HT3⟩
            case round =>
              obtain ⟨j, m1, a1, cap1, rfl, hj, HTQ⟩ := hrel
              have q1 := cell_below HQ1.out HTQ.out.bel hbw
              by_cases hjl : j < nk
              · have hjl1 : (j : Int) < (nk : Int) := by omega
                have hjl0 : (0 : Int) ≤ (j : Int) := by omega
                obtain ⟨be, oe, rfl, _, _, hx⟩ := (HEK.out.below HTQ.out.bel HH.out).edge (k := j) (by rw [HNK.out]; exact hjl)
                obtain ⟨x, HXX⟩ : ∃ x : Ed, Hid (x = eat lk j) := ⟨_, rfl⟩
                rw [← HXX.out] at hx
                have HSJ : Hid (putOn (putOn [] (catTo G k)) (lk.take (j + 1)) = putE (putOn (putOn [] (catTo G k)) (lk.take j)) x) := by show _ = _; rw [putOn_step _ (by rw [HNK.out]; exact hjl), HXX.out]
                have hm1 : m1 ≤ 1048576 := by
                  have h1 := putOn_len (lk.take j) (putOn [] (catTo G k))
                  have h2 := putOn_len (catTo G k) []
                  have h3 := HTQ.out.len
                  have h4 := HLB.out
                  rw [List.length_take] at h1
                  simp at h2
                  omega
                obtain ⟨x0, x1, x2⟩ := x
                obtain ⟨p0, p1, p2⟩ := hx
                dsimp only at p0 p1 p2
                obtain ⟨_, t1⟩ := blk_pair_cells HTQ.out.box
                have HC2 : Hid (∀ w0, Below wr.heap.size wr w0 → Calls Try.prog 15 #[.slice a1 m1 cap1, ev (x0, x1, x2)] w0 fun e w' => ∃ (a3 : Option Addr) (m3 cap3 : Nat), e = .returned (.slice a3 m3 cap3) ∧ Hid ((putE (putOn (putOn [] (catTo G k)) (lk.take j)) (x0, x1, x2)).length = m3) ∧ Hid (w'.ownsRow (B + 2) 43 3 (.slice a3 m3 cap3) m3 (ecells (putE (putOn (putOn [] (catTo G k)) (lk.take j)) (x0, x1, x2)))) ∧ Hid (Below (B + 2) wr w')) := fun w0 h =>
                  (l04Put_any (B + 2) w0.heap.size a1 m1 cap1 _ (x0, x1, x2) w0 (HTQ.out.below h).own.toIn (Nat.le_refl _) HTQ.out.len hm1).mono fun _ w' ⟨a3, m3, cap3, h1, h2, h3, h4⟩ =>
                    ⟨a3, m3, cap3, h1, h2, owns_low h3.out (HTQ.out.below h).lt.2, (h.mono HTQ.out.lt.2).trans (h4.out.mono (HTQ.out.below h).lt.2)⟩
                go_wp2_with fail
                refine wp_region_held_drew (S := fun _ => True) (by kernel_rfl) trivial (fun hHeld => ?_)
                refine wpAnyH_take (i := 0) (oi := { dst := some 49, op := Go.Op.fieldAddr 26 (Go.Operand.tmp 4) 1, type := 0, pos := "l05_share.go:48", after := #[], guard := none }) (v := ?_) rfl (by kernel_rfl) (by kernel_rfl) (by kernel_rfl) (fun _ _ _ h => h) (Or.inl ⟨by kernel_rfl, ?_⟩) (by assumption) ?_
                rotate_left
                · intro w hSw; (try dsimp only at hSw); go_simp; try with_reducible rfl
                simp only [Act.put, List.setIfInBounds_toArray, List.set_cons_zero, List.set_cons_succ]
                refine wpAnyH_take (i := 2) (oi := { dst := some 51, op := Go.Op.move (Go.Operand.tmp 0), type := 29, pos := "l05_share.go:48", after := #[], guard := none }) (v := ?_) rfl (by kernel_rfl) (by kernel_rfl) (by kernel_rfl) (fun _ _ _ h => h) (Or.inl ⟨by kernel_rfl, ?_⟩) (by assumption) ?_
                rotate_left
                · intro w hSw; (try dsimp only at hSw); go_simp; try with_reducible rfl
                simp only [Act.put, List.setIfInBounds_toArray, List.set_cons_zero, List.set_cons_succ]
                refine wpAnyH_take (i := 3) (oi := { dst := some 52, op := Go.Op.move (Go.Operand.tmp 5), type := 3, pos := "l05_share.go:48", after := #[], guard := none }) (v := ?_) rfl (by kernel_rfl) (by kernel_rfl) (by kernel_rfl) (fun _ _ _ h => h) (Or.inl ⟨by kernel_rfl, ?_⟩) (by assumption) ?_
                rotate_left
                · intro w hSw; (try dsimp only at hSw); go_simp; try with_reducible rfl
                simp only [Act.put, List.setIfInBounds_toArray, List.set_cons_zero, List.set_cons_succ]
                refine wpAnyH_take (i := 4) (oi := { dst := some 53, op := Go.Op.indexAddr 29 (Go.Operand.tmp 51) (Go.Operand.tmp 52), type := 0, pos := "l05_share.go:48", after := #[{ on := 2, ground := Go.Ground.data }, { on := 3, ground := Go.Ground.data }], guard := none }) (v := ?_) rfl (by kernel_rfl) (by kernel_rfl) (by kernel_rfl) (fun _ _ _ h => h) (Or.inl ⟨by kernel_rfl, ?_⟩) (by assumption) ?_
                rotate_left
                · intro w hSw; (try dsimp only at hSw); go_simp; try with_reducible rfl
                simp only [Act.put, List.setIfInBounds_toArray, List.set_cons_zero, List.set_cons_succ]
                refine wpAnyH_take (i := 5) (oi := { dst := some 54, op := Go.Op.fieldAddr 26 (Go.Operand.tmp 53) 1, type := 0, pos := "l05_share.go:48", after := #[{ on := 4, ground := Go.Ground.data }], guard := none }) (v := ?_) rfl (by kernel_rfl) (by kernel_rfl) (by kernel_rfl) (fun _ _ _ h => h) (Or.inl ⟨by kernel_rfl, ?_⟩) (by assumption) ?_
                rotate_left
                · intro w hSw; (try dsimp only at hSw); go_simp; try with_reducible rfl
                simp only [Act.put, List.setIfInBounds_toArray, List.set_cons_zero, List.set_cons_succ]
                refine wpAnyH_take (i := 7) (oi := { dst := some 56, op := Go.Op.move (Go.Operand.tmp 6), type := 3, pos := "l05_share.go:48", after := #[], guard := none }) (v := ?_) rfl (by kernel_rfl) (by kernel_rfl) (by kernel_rfl) (fun _ _ _ h => h) (Or.inl ⟨by kernel_rfl, ?_⟩) (by assumption) ?_
                rotate_left
                · intro w hSw; (try dsimp only at hSw); go_simp; try with_reducible rfl
                simp only [Act.put, List.setIfInBounds_toArray, List.set_cons_zero, List.set_cons_succ]
                refine wpAnyH_ready (rs := [1, 6]) (by kernel_rfl) (by simp) ?_
                refine AllReadyH.cons (o := { dst := some 50, op := Go.Op.load 24 (Go.Operand.tmp 49), type := 24, pos := "l05_share.go:48", after := #[{ on := 0, ground := Go.Ground.data }], guard := none }) rfl (fun K hK => ?_) ?_
                · go_simp
                  refine hK.out _ _ trivial (fun hHeld => ?_)
                  clear hK K
                  try simp only [Act.put, List.setIfInBounds_toArray, List.set_cons_zero, List.set_cons_succ]
                  refine wpAnyH_ready (rs := [6]) (by kernel_rfl) (by simp) ?_
                  refine AllReadyH.cons (o := { dst := some 55, op := Go.Op.load 24 (Go.Operand.tmp 54), type := 24, pos := "l05_share.go:48", after := #[{ on := 5, ground := Go.Ground.data }], guard := none }) rfl (fun K hK => ?_) ?_
                  · go_simp
                    refine hK.out _ _ trivial (fun hHeld => ?_)
                    clear hK K
                    try simp only [Act.put, List.setIfInBounds_toArray, List.set_cons_zero, List.set_cons_succ]
                    refine wpAnyH_take (i := 8) (oi := { dst := some 57, op := Go.Op.indexAddr 24 (Go.Operand.tmp 55) (Go.Operand.tmp 56), type := 0, pos := "l05_share.go:48", after := #[{ on := 6, ground := Go.Ground.data }, { on := 7, ground := Go.Ground.data }], guard := none }) (v := ?_) rfl (by kernel_rfl) (by kernel_rfl) (by kernel_rfl) (fun _ _ _ h => h) (Or.inl ⟨by kernel_rfl, ?_⟩) (by assumption) ?_
                    rotate_left
                    · intro w hSw; (try dsimp only at hSw); go_simp; try with_reducible rfl
                    simp only [Act.put, List.setIfInBounds_toArray, List.set_cons_zero, List.set_cons_succ]
                    refine wpAnyH_ready (rs := [9]) (by kernel_rfl) (by simp) ?_
                    refine AllReadyH.cons (o := { dst := some 58, op := Go.Op.load 43 (Go.Operand.tmp 57), type := 43, pos := "l05_share.go:48", after := #[{ on := 8, ground := Go.Ground.data }], guard := none }) rfl (fun K hK => ?_) ?_
                    · go_simp
                      refine hK.out _ _ trivial (fun hHeld => ?_)
                      clear hK K
                      try simp only [Act.put, List.setIfInBounds_toArray, List.set_cons_zero, List.set_cons_succ]
                      refine wpAnyH_ready (rs := [10]) (by kernel_rfl) (by simp) ?_
                      refine AllReadyH.cons (o := { dst := some 59, op := Go.Op.call { callee := Go.Callee.value (Go.Operand.func 15), args := #[Go.Operand.tmp 50, Go.Operand.tmp 58], argTypes := #[24, 43] }, type := 24, pos := "l05_share.go:48", after := #[{ on := 1, ground := Go.Ground.data }, { on := 9, ground := Go.Ground.data }], guard := none }) rfl (fun K hK => ?_) ?_
                      · go_simp
                        go_wp2_with (go_at_call 15; refine (HC2.out _ ((Below.refl _ _).drew)).mono ?_; rintro e w3 ⟨a3, m3, cap3, rfl, HM3, HO3, HB3⟩)
                        have HX3 : Hid (Blk w3 (B + 1) 2 (fun i => if i = 0 then .int .i64 sk else .slice a1 m1 cap1)) := HTQ.out.box.of_block (HB3.out.block _ (by omega))
                        clear p0 p1 p2 t1 q1 HC2
                        refine hK.out _ _ trivial (fun hHeld => ?_)
                        clear hK K
                        try simp only [Act.put, List.setIfInBounds_toArray, List.set_cons_zero, List.set_cons_succ]
                        refine wpAnyH_take (i := 11) (oi := { dst := some 60, op := Go.Op.fieldAddr 26 (Go.Operand.tmp 4) 1, type := 0, pos := "l05_share.go:48", after := #[{ on := 0, ground := Go.Ground.phase }, { on := 1, ground := Go.Ground.phase }, { on := 2, ground := Go.Ground.phase }, { on := 3, ground := Go.Ground.phase }, { on := 4, ground := Go.Ground.phase }, { on := 5, ground := Go.Ground.phase }, { on := 6, ground := Go.Ground.phase }, { on := 7, ground := Go.Ground.phase }, { on := 8, ground := Go.Ground.phase }, { on := 9, ground := Go.Ground.phase }, { on := 10, ground := Go.Ground.phase }], guard := none }) (v := ?_) rfl (by kernel_rfl) (by kernel_rfl) (by kernel_rfl) (fun _ _ _ h => h) (Or.inl ⟨by kernel_rfl, ?_⟩) (by assumption) ?_
                        rotate_left
                        · intro w hSw; (try dsimp only at hSw); go_simp; try with_reducible rfl
                        simp only [Act.put, List.setIfInBounds_toArray, List.set_cons_zero, List.set_cons_succ]
                        refine wpAnyH_ready (rs := [12]) (by kernel_rfl) (by simp) ?_
                        refine AllReadyH.cons (o := { dst := none, op := Go.Op.store 24 (Go.Operand.tmp 60) (Go.Operand.tmp 59), type := 0, pos := "l05_share.go:48", after := #[{ on := 11, ground := Go.Ground.data }, { on := 10, ground := Go.Ground.data }, { on := 10, ground := Go.Ground.chain }, { on := 0, ground := Go.Ground.phase }, { on := 1, ground := Go.Ground.phase }, { on := 2, ground := Go.Ground.phase }, { on := 3, ground := Go.Ground.phase }, { on := 4, ground := Go.Ground.phase }, { on := 5, ground := Go.Ground.phase }, { on := 6, ground := Go.Ground.phase }, { on := 7, ground := Go.Ground.phase }, { on := 8, ground := Go.Ground.phase }, { on := 9, ground := Go.Ground.phase }, { on := 10, ground := Go.Ground.phase }], guard := none }) rfl (fun K hK => ?_) ?_
                        · obtain ⟨u0, u1⟩ := blk_pair_cells HX3.out
                          have uf1 := Blk.frozen HX3.out 1
                          go_simp
                          refine hK.out _ _ trivial (fun hHeld => ?_)
                          clear hK K
                          try simp only [Act.put, List.setIfInBounds_toArray, List.set_cons_zero, List.set_cons_succ]
                          refine wpAnyH_done (by kernel_rfl) ?_ _
                          clear hHeld u0 u1 uf1
                          go_wp2
                          go_roundw
                          case rel => exact ⟨j + 1, m3, a3, cap3, by go_num, by omega, by rw [HSJ.out]; exact HTQ.out.put HB3.out HO3.out HM3.out⟩
                          case measure => simp [intOf]; omega
                        exact AllReadyH.nil
                      exact AllReadyH.nil
                    exact AllReadyH.nil
                  exact AllReadyH.nil
                refine AllReadyH.cons (o := { dst := some 55, op := Go.Op.load 24 (Go.Operand.tmp 54), type := 24, pos := "l05_share.go:48", after := #[{ on := 5, ground := Go.Ground.data }], guard := none }) rfl (fun K hK => ?_) ?_
                · go_simp
                  refine hK.out _ _ trivial (fun hHeld => ?_)
                  clear hK K
                  try simp only [Act.put, List.setIfInBounds_toArray, List.set_cons_zero, List.set_cons_succ]
                  refine wpAnyH_take (i := 8) (oi := { dst := some 57, op := Go.Op.indexAddr 24 (Go.Operand.tmp 55) (Go.Operand.tmp 56), type := 0, pos := "l05_share.go:48", after := #[{ on := 6, ground := Go.Ground.data }, { on := 7, ground := Go.Ground.data }], guard := none }) (v := ?_) rfl (by kernel_rfl) (by kernel_rfl) (by kernel_rfl) (fun _ _ _ h => h) (Or.inl ⟨by kernel_rfl, ?_⟩) (by assumption) ?_
                  rotate_left
                  · intro w hSw; (try dsimp only at hSw); go_simp; try with_reducible rfl
                  simp only [Act.put, List.setIfInBounds_toArray, List.set_cons_zero, List.set_cons_succ]
                  refine wpAnyH_ready (rs := [1, 9]) (by kernel_rfl) (by simp) ?_
                  refine AllReadyH.cons (o := { dst := some 50, op := Go.Op.load 24 (Go.Operand.tmp 49), type := 24, pos := "l05_share.go:48", after := #[{ on := 0, ground := Go.Ground.data }], guard := none }) rfl (fun K hK => ?_) ?_
                  · go_simp
                    refine hK.out _ _ trivial (fun hHeld => ?_)
                    clear hK K
                    try simp only [Act.put, List.setIfInBounds_toArray, List.set_cons_zero, List.set_cons_succ]
                    refine wpAnyH_ready (rs := [9]) (by kernel_rfl) (by simp) ?_
                    refine AllReadyH.cons (o := { dst := some 58, op := Go.Op.load 43 (Go.Operand.tmp 57), type := 43, pos := "l05_share.go:48", after := #[{ on := 8, ground := Go.Ground.data }], guard := none }) rfl (fun K hK => ?_) ?_
                    · go_simp
                      refine hK.out _ _ trivial (fun hHeld => ?_)
                      clear hK K
                      try simp only [Act.put, List.setIfInBounds_toArray, List.set_cons_zero, List.set_cons_succ]
                      refine wpAnyH_ready (rs := [10]) (by kernel_rfl) (by simp) ?_
                      refine AllReadyH.cons (o := { dst := some 59, op := Go.Op.call { callee := Go.Callee.value (Go.Operand.func 15), args := #[Go.Operand.tmp 50, Go.Operand.tmp 58], argTypes := #[24, 43] }, type := 24, pos := "l05_share.go:48", after := #[{ on := 1, ground := Go.Ground.data }, { on := 9, ground := Go.Ground.data }], guard := none }) rfl (fun K hK => ?_) ?_
                      · go_simp
                        go_wp2_with (go_at_call 15; refine (HC2.out _ ((Below.refl _ _).drew)).mono ?_; rintro e w3 ⟨a3, m3, cap3, rfl, HM3, HO3, HB3⟩)
                        have HX3 : Hid (Blk w3 (B + 1) 2 (fun i => if i = 0 then .int .i64 sk else .slice a1 m1 cap1)) := HTQ.out.box.of_block (HB3.out.block _ (by omega))
                        clear p0 p1 p2 t1 q1 HC2
                        refine hK.out _ _ trivial (fun hHeld => ?_)
                        clear hK K
                        try simp only [Act.put, List.setIfInBounds_toArray, List.set_cons_zero, List.set_cons_succ]
                        refine wpAnyH_take (i := 11) (oi := { dst := some 60, op := Go.Op.fieldAddr 26 (Go.Operand.tmp 4) 1, type := 0, pos := "l05_share.go:48", after := #[{ on := 0, ground := Go.Ground.phase }, { on := 1, ground := Go.Ground.phase }, { on := 2, ground := Go.Ground.phase }, { on := 3, ground := Go.Ground.phase }, { on := 4, ground := Go.Ground.phase }, { on := 5, ground := Go.Ground.phase }, { on := 6, ground := Go.Ground.phase }, { on := 7, ground := Go.Ground.phase }, { on := 8, ground := Go.Ground.phase }, { on := 9, ground := Go.Ground.phase }, { on := 10, ground := Go.Ground.phase }], guard := none }) (v := ?_) rfl (by kernel_rfl) (by kernel_rfl) (by kernel_rfl) (fun _ _ _ h => h) (Or.inl ⟨by kernel_rfl, ?_⟩) (by assumption) ?_
                        rotate_left
                        · intro w hSw; (try dsimp only at hSw); go_simp; try with_reducible rfl
                        simp only [Act.put, List.setIfInBounds_toArray, List.set_cons_zero, List.set_cons_succ]
                        refine wpAnyH_ready (rs := [12]) (by kernel_rfl) (by simp) ?_
                        refine AllReadyH.cons (o := { dst := none, op := Go.Op.store 24 (Go.Operand.tmp 60) (Go.Operand.tmp 59), type := 0, pos := "l05_share.go:48", after := #[{ on := 11, ground := Go.Ground.data }, { on := 10, ground := Go.Ground.data }, { on := 10, ground := Go.Ground.chain }, { on := 0, ground := Go.Ground.phase }, { on := 1, ground := Go.Ground.phase }, { on := 2, ground := Go.Ground.phase }, { on := 3, ground := Go.Ground.phase }, { on := 4, ground := Go.Ground.phase }, { on := 5, ground := Go.Ground.phase }, { on := 6, ground := Go.Ground.phase }, { on := 7, ground := Go.Ground.phase }, { on := 8, ground := Go.Ground.phase }, { on := 9, ground := Go.Ground.phase }, { on := 10, ground := Go.Ground.phase }], guard := none }) rfl (fun K hK => ?_) ?_
                        · obtain ⟨u0, u1⟩ := blk_pair_cells HX3.out
                          have uf1 := Blk.frozen HX3.out 1
                          go_simp
                          refine hK.out _ _ trivial (fun hHeld => ?_)
                          clear hK K
                          try simp only [Act.put, List.setIfInBounds_toArray, List.set_cons_zero, List.set_cons_succ]
                          refine wpAnyH_done (by kernel_rfl) ?_ _
                          clear hHeld u0 u1 uf1
                          go_wp2
                          go_roundw
                          case rel => exact ⟨j + 1, m3, a3, cap3, by go_num, by omega, by rw [HSJ.out]; exact HTQ.out.put HB3.out HO3.out HM3.out⟩
                          case measure => simp [intOf]; omega
                        exact AllReadyH.nil
                      exact AllReadyH.nil
                    exact AllReadyH.nil
                  refine AllReadyH.cons (o := { dst := some 58, op := Go.Op.load 43 (Go.Operand.tmp 57), type := 43, pos := "l05_share.go:48", after := #[{ on := 8, ground := Go.Ground.data }], guard := none }) rfl (fun K hK => ?_) ?_
                  · go_simp
                    refine hK.out _ _ trivial (fun hHeld => ?_)
                    clear hK K
                    try simp only [Act.put, List.setIfInBounds_toArray, List.set_cons_zero, List.set_cons_succ]
                    refine wpAnyH_ready (rs := [1]) (by kernel_rfl) (by simp) ?_
                    refine AllReadyH.cons (o := { dst := some 50, op := Go.Op.load 24 (Go.Operand.tmp 49), type := 24, pos := "l05_share.go:48", after := #[{ on := 0, ground := Go.Ground.data }], guard := none }) rfl (fun K hK => ?_) ?_
                    · go_simp
                      refine hK.out _ _ trivial (fun hHeld => ?_)
                      clear hK K
                      try simp only [Act.put, List.setIfInBounds_toArray, List.set_cons_zero, List.set_cons_succ]
                      refine wpAnyH_ready (rs := [10]) (by kernel_rfl) (by simp) ?_
                      refine AllReadyH.cons (o := { dst := some 59, op := Go.Op.call { callee := Go.Callee.value (Go.Operand.func 15), args := #[Go.Operand.tmp 50, Go.Operand.tmp 58], argTypes := #[24, 43] }, type := 24, pos := "l05_share.go:48", after := #[{ on := 1, ground := Go.Ground.data }, { on := 9, ground := Go.Ground.data }], guard := none }) rfl (fun K hK => ?_) ?_
                      · go_simp
                        go_wp2_with (go_at_call 15; refine (HC2.out _ ((Below.refl _ _).drew)).mono ?_; rintro e w3 ⟨a3, m3, cap3, rfl, HM3, HO3, HB3⟩)
                        have HX3 : Hid (Blk w3 (B + 1) 2 (fun i => if i = 0 then .int .i64 sk else .slice a1 m1 cap1)) := HTQ.out.box.of_block (HB3.out.block _ (by omega))
                        clear p0 p1 p2 t1 q1 HC2
                        refine hK.out _ _ trivial (fun hHeld => ?_)
                        clear hK K
                        try simp only [Act.put, List.setIfInBounds_toArray, List.set_cons_zero, List.set_cons_succ]
                        refine wpAnyH_take (i := 11) (oi := { dst := some 60, op := Go.Op.fieldAddr 26 (Go.Operand.tmp 4) 1, type := 0, pos := "l05_share.go:48", after := #[{ on := 0, ground := Go.Ground.phase }, { on := 1, ground := Go.Ground.phase }, { on := 2, ground := Go.Ground.phase }, { on := 3, ground := Go.Ground.phase }, { on := 4, ground := Go.Ground.phase }, { on := 5, ground := Go.Ground.phase }, { on := 6, ground := Go.Ground.phase }, { on := 7, ground := Go.Ground.phase }, { on := 8, ground := Go.Ground.phase }, { on := 9, ground := Go.Ground.phase }, { on := 10, ground := Go.Ground.phase }], guard := none }) (v := ?_) rfl (by kernel_rfl) (by kernel_rfl) (by kernel_rfl) (fun _ _ _ h => h) (Or.inl ⟨by kernel_rfl, ?_⟩) (by assumption) ?_
                        rotate_left
                        · intro w hSw; (try dsimp only at hSw); go_simp; try with_reducible rfl
                        simp only [Act.put, List.setIfInBounds_toArray, List.set_cons_zero, List.set_cons_succ]
                        refine wpAnyH_ready (rs := [12]) (by kernel_rfl) (by simp) ?_
                        refine AllReadyH.cons (o := { dst := none, op := Go.Op.store 24 (Go.Operand.tmp 60) (Go.Operand.tmp 59), type := 0, pos := "l05_share.go:48", after := #[{ on := 11, ground := Go.Ground.data }, { on := 10, ground := Go.Ground.data }, { on := 10, ground := Go.Ground.chain }, { on := 0, ground := Go.Ground.phase }, { on := 1, ground := Go.Ground.phase }, { on := 2, ground := Go.Ground.phase }, { on := 3, ground := Go.Ground.phase }, { on := 4, ground := Go.Ground.phase }, { on := 5, ground := Go.Ground.phase }, { on := 6, ground := Go.Ground.phase }, { on := 7, ground := Go.Ground.phase }, { on := 8, ground := Go.Ground.phase }, { on := 9, ground := Go.Ground.phase }, { on := 10, ground := Go.Ground.phase }], guard := none }) rfl (fun K hK => ?_) ?_
                        · obtain ⟨u0, u1⟩ := blk_pair_cells HX3.out
                          have uf1 := Blk.frozen HX3.out 1
                          go_simp
                          refine hK.out _ _ trivial (fun hHeld => ?_)
                          clear hK K
                          try simp only [Act.put, List.setIfInBounds_toArray, List.set_cons_zero, List.set_cons_succ]
                          refine wpAnyH_done (by kernel_rfl) ?_ _
                          clear hHeld u0 u1 uf1
                          go_wp2
                          go_roundw
                          case rel => exact ⟨j + 1, m3, a3, cap3, by go_num, by omega, by rw [HSJ.out]; exact HTQ.out.put HB3.out HO3.out HM3.out⟩
                          case measure => simp [intOf]; omega
                        exact AllReadyH.nil
                      exact AllReadyH.nil
                    exact AllReadyH.nil
                  exact AllReadyH.nil
                exact AllReadyH.nil

              · obtain rfl : j = nk := by omega
                have HEN : Hid (putOn (putOn [] (catTo G k)) (lk.take j) = putOn [] (catTo G (k + 1))) := by show _ = _; rw [HST.out, putOn_app, ← HNK.out, List.take_length]
                rw [HEN.out] at HTQ
                go_wp2
                go_roundw
                case rel =>
                  refine ⟨k + 1, m1, a1, cap1, by go_num, by omega, HTQ, fun i hi => ?_⟩
                  by_cases e : i = k
                  · subst e; rw [← HGK.out]; exact ⟨HR.out.symm, rfl⟩
                  · exact HAL.out i (by omega)
                case measure => simp [intOf]; omega
          exact AllReadyH.nil

        · have hd : (sk == s0) = false := by simpa using hs
          have hd2 : decide (sk = s0) = false := decide_eq_false hs
          have HF : Hid (togB G = false) := togB_bad hkl (.inr (by rw [← HGK.out, ← HS0.out]; exact hs))
          go_wp2_with fail
          refine wp_region_held_drew (S := fun w' => w'.cell? ⟨b, o + k * 2, none⟩ = some (.int .i64 sk) ∧ w'.cell? ⟨b, o + k * 2 + 1, none⟩ = some (.slice ak nk ck) ∧ w'.cell? ⟨B + 1, 0, none⟩ = some (.int .i64 s0)) (by kernel_rfl) ⟨q0, q1, t0⟩ (fun hHeld => ?_)
          clear q0 q1 t0
          refine wpAnyH_take (i := 0) (oi := { dst := some 22, op := Go.Op.move (Go.Operand.tmp 0), type := 29, pos := "l05_share.go:44", after := #[], guard := none }) (v := ?_) rfl (by kernel_rfl) (by kernel_rfl) (by kernel_rfl) (fun _ _ _ h => h) (Or.inl ⟨by kernel_rfl, ?_⟩) (by assumption) ?_
          rotate_left
          · intro w hSw; (try dsimp only at hSw); go_simp; try with_reducible rfl
          simp only [Act.put, List.setIfInBounds_toArray, List.set_cons_zero, List.set_cons_succ]
          refine wpAnyH_take (i := 1) (oi := { dst := some 23, op := Go.Op.move (Go.Operand.tmp 5), type := 3, pos := "l05_share.go:44", after := #[], guard := none }) (v := ?_) rfl (by kernel_rfl) (by kernel_rfl) (by kernel_rfl) (fun _ _ _ h => h) (Or.inl ⟨by kernel_rfl, ?_⟩) (by assumption) ?_
          rotate_left
          · intro w hSw; (try dsimp only at hSw); go_simp; try with_reducible rfl
          simp only [Act.put, List.setIfInBounds_toArray, List.set_cons_zero, List.set_cons_succ]
          refine wpAnyH_take (i := 2) (oi := { dst := some 24, op := Go.Op.indexAddr 29 (Go.Operand.tmp 22) (Go.Operand.tmp 23), type := 0, pos := "l05_share.go:44", after := #[{ on := 0, ground := Go.Ground.data }, { on := 1, ground := Go.Ground.data }], guard := none }) (v := ?_) rfl (by kernel_rfl) (by kernel_rfl) (by kernel_rfl) (fun _ _ _ h => h) (Or.inl ⟨by kernel_rfl, ?_⟩) (by assumption) ?_
          rotate_left
          · intro w hSw; (try dsimp only at hSw); go_simp; try with_reducible rfl
          simp only [Act.put, List.setIfInBounds_toArray, List.set_cons_zero, List.set_cons_succ]
          refine wpAnyH_take (i := 3) (oi := { dst := some 25, op := Go.Op.load 26 (Go.Operand.tmp 24), type := 26, pos := "l05_share.go:44", after := #[{ on := 2, ground := Go.Ground.data }], guard := none }) (v := ?_) rfl (by kernel_rfl) (by kernel_rfl) (by kernel_rfl) (fun _ _ _ h => h) (Or.inl ⟨by kernel_rfl, ?_⟩) (by assumption) ?_
          rotate_left
          · intro w hSw; (try dsimp only at hSw); go_simp; try with_reducible rfl
          simp only [Act.put, List.setIfInBounds_toArray, List.set_cons_zero, List.set_cons_succ]
          refine wpAnyH_ready (rs := [4]) (by kernel_rfl) (by simp) ?_
          refine AllReadyH.cons (o := { dst := some 26, op := Go.Op.call { callee := Go.Callee.value (Go.Operand.func 14), args := #[Go.Operand.tmp 25], argTypes := #[26] }, type := 4, pos := "l05_share.go:44", after := #[{ on := 3, ground := Go.Ground.data }], guard := none }) rfl (fun K hK => ?_) ?_
          · go_simp
            go_wp2_with (go_at_call 14; refine (HC1.out _ ((Below.refl _ _).drew)).mono ?_; rintro e w3 ⟨rfl, B3, hk3⟩)
            refine hK.out _ _ hk3 (fun hHeld => ?_)
            clear hK K
            try simp only [Act.put, List.setIfInBounds_toArray, List.set_cons_zero, List.set_cons_succ]
            refine wpAnyH_take (i := 5) (oi := { dst := some 27, op := Go.Op.unOp Go.UnOp.not 4 (Go.Operand.tmp 26), type := 4, pos := "l05_share.go:44", after := #[{ on := 4, ground := Go.Ground.data }], guard := none }) (v := ?_) rfl (by kernel_rfl) (by kernel_rfl) (by kernel_rfl) (fun _ _ _ h => h) (Or.inl ⟨by kernel_rfl, ?_⟩) (by assumption) ?_
            rotate_left
            · intro w hSw; (try dsimp only at hSw); go_simp; try with_reducible rfl
            simp only [Act.put, List.setIfInBounds_toArray, List.set_cons_zero, List.set_cons_succ]
            refine wpAnyH_take (i := 6) (oi := { dst := some 28, op := Go.Op.move (Go.Operand.tmp 27), type := 4, pos := "l05_share.go:44", after := #[{ on := 5, ground := Go.Ground.data }, { on := 4, ground := Go.Ground.chain }], guard := none }) (v := ?_) rfl (by kernel_rfl) (by kernel_rfl) (by kernel_rfl) (fun _ _ _ h => h) (Or.inl ⟨by kernel_rfl, ?_⟩) (by assumption) ?_
            rotate_left
            · intro w hSw; (try dsimp only at hSw); go_simp; try with_reducible rfl
            simp only [Act.put, List.setIfInBounds_toArray, List.set_cons_zero, List.set_cons_succ]
            refine wpAnyH_take (i := 7) (oi := { dst := some 29, op := Go.Op.move (Go.Operand.tmp 0), type := 29, pos := "l05_share.go:44", after := #[{ on := 6, ground := Go.Ground.guard }], guard := some (6, false) }) (v := ?_) rfl (by kernel_rfl) (by kernel_rfl) (by kernel_rfl) (fun _ _ _ h => h) (Or.inl ⟨by kernel_rfl, ?_⟩) (by assumption) ?_
            rotate_left
            · intro w hSw; (try dsimp only at hSw); go_simp; try with_reducible rfl
            simp only [Act.put, List.setIfInBounds_toArray, List.set_cons_zero, List.set_cons_succ]
            refine wpAnyH_take (i := 8) (oi := { dst := some 30, op := Go.Op.move (Go.Operand.tmp 5), type := 3, pos := "l05_share.go:44", after := #[{ on := 6, ground := Go.Ground.guard }], guard := some (6, false) }) (v := ?_) rfl (by kernel_rfl) (by kernel_rfl) (by kernel_rfl) (fun _ _ _ h => h) (Or.inl ⟨by kernel_rfl, ?_⟩) (by assumption) ?_
            rotate_left
            · intro w hSw; (try dsimp only at hSw); go_simp; try with_reducible rfl
            simp only [Act.put, List.setIfInBounds_toArray, List.set_cons_zero, List.set_cons_succ]
            refine wpAnyH_take (i := 9) (oi := { dst := some 31, op := Go.Op.indexAddr 29 (Go.Operand.tmp 29) (Go.Operand.tmp 30), type := 0, pos := "l05_share.go:44", after := #[{ on := 7, ground := Go.Ground.data }, { on := 8, ground := Go.Ground.data }, { on := 6, ground := Go.Ground.guard }], guard := some (6, false) }) (v := ?_) rfl (by kernel_rfl) (by kernel_rfl) (by kernel_rfl) (fun _ _ _ h => h) (Or.inl ⟨by kernel_rfl, ?_⟩) (by assumption) ?_
            rotate_left
            · intro w hSw; (try dsimp only at hSw); go_simp; try with_reducible rfl
            simp only [Act.put, List.setIfInBounds_toArray, List.set_cons_zero, List.set_cons_succ]
            refine wpAnyH_take (i := 10) (oi := { dst := some 32, op := Go.Op.fieldAddr 26 (Go.Operand.tmp 31) 0, type := 0, pos := "l05_share.go:44", after := #[{ on := 9, ground := Go.Ground.data }, { on := 6, ground := Go.Ground.guard }], guard := some (6, false) }) (v := ?_) rfl (by kernel_rfl) (by kernel_rfl) (by kernel_rfl) (fun _ _ _ h => h) (Or.inl ⟨by kernel_rfl, ?_⟩) (by assumption) ?_
            rotate_left
            · intro w hSw; (try dsimp only at hSw); go_simp; try with_reducible rfl
            simp only [Act.put, List.setIfInBounds_toArray, List.set_cons_zero, List.set_cons_succ]
            refine wpAnyH_take (i := 11) (oi := { dst := some 33, op := Go.Op.load 3 (Go.Operand.tmp 32), type := 3, pos := "l05_share.go:44", after := #[{ on := 10, ground := Go.Ground.data }, { on := 6, ground := Go.Ground.guard }], guard := some (6, false) }) (v := ?_) rfl (by kernel_rfl) (by kernel_rfl) (by kernel_rfl) (fun _ _ _ h => h) (Or.inl ⟨by kernel_rfl, ?_⟩) (by assumption) ?_
            rotate_left
            · intro w hSw; (try dsimp only at hSw); go_simp; try with_reducible rfl
            simp only [Act.put, List.setIfInBounds_toArray, List.set_cons_zero, List.set_cons_succ]
            refine wpAnyH_take (i := 12) (oi := { dst := some 34, op := Go.Op.fieldAddr 26 (Go.Operand.tmp 4) 0, type := 0, pos := "l05_share.go:44", after := #[{ on := 6, ground := Go.Ground.guard }], guard := some (6, false) }) (v := ?_) rfl (by kernel_rfl) (by kernel_rfl) (by kernel_rfl) (fun _ _ _ h => h) (Or.inl ⟨by kernel_rfl, ?_⟩) (by assumption) ?_
            rotate_left
            · intro w hSw; (try dsimp only at hSw); go_simp; try with_reducible rfl
            simp only [Act.put, List.setIfInBounds_toArray, List.set_cons_zero, List.set_cons_succ]
            refine wpAnyH_take (i := 13) (oi := { dst := some 35, op := Go.Op.load 3 (Go.Operand.tmp 34), type := 3, pos := "l05_share.go:44", after := #[{ on := 12, ground := Go.Ground.data }, { on := 6, ground := Go.Ground.guard }], guard := some (6, false) }) (v := ?_) rfl (by kernel_rfl) (by kernel_rfl) (by kernel_rfl) (fun _ _ _ h => h) (Or.inl ⟨by kernel_rfl, ?_⟩) (by assumption) ?_
            rotate_left
            · intro w hSw; (try dsimp only at hSw); go_simp; try with_reducible rfl
            simp only [Act.put, List.setIfInBounds_toArray, List.set_cons_zero, List.set_cons_succ]
            refine wpAnyH_take (i := 14) (oi := { dst := some 36, op := Go.Op.binOp Go.BinOp.neq 3 (Go.Operand.tmp 33) (Go.Operand.tmp 35) 3, type := 4, pos := "l05_share.go:44", after := #[{ on := 11, ground := Go.Ground.data }, { on := 13, ground := Go.Ground.data }, { on := 6, ground := Go.Ground.guard }], guard := some (6, false) }) (v := ?_) rfl (by kernel_rfl) (by kernel_rfl) (by kernel_rfl) (fun _ _ _ h => h) (Or.inl ⟨by kernel_rfl, ?_⟩) (by assumption) ?_
            rotate_left
            · intro w hSw; (try dsimp only at hSw); go_simp; try with_reducible rfl
            simp only [Act.put, List.setIfInBounds_toArray, List.set_cons_zero, List.set_cons_succ]
            refine wpAnyH_take (i := 15) (oi := { dst := some 37, op := Go.Op.pick (Go.Operand.tmp 28) (Go.Operand.const (Go.Value.bool true)) (Go.Operand.tmp 36), type := 4, pos := "l05_share.go:44", after := #[{ on := 6, ground := Go.Ground.data }, { on := 14, ground := Go.Ground.data }], guard := none }) (v := ?_) rfl (by kernel_rfl) (by kernel_rfl) (by kernel_rfl) (fun _ _ _ h => h) (Or.inl ⟨by kernel_rfl, ?_⟩) (by assumption) ?_
            rotate_left
            · intro w hSw; (try dsimp only at hSw); go_simp; try with_reducible rfl
            simp only [Act.put, List.setIfInBounds_toArray, List.set_cons_zero, List.set_cons_succ]
            refine wpAnyH_done (by kernel_rfl) ?_ _
            clear hHeld hk3
            have HT3 : Hid (TI w w3 B s0 a' m cap' (putOn [] (catTo G k))) := HT.out.below B3.out
            obtain ⟨r0, r1⟩ := blk_pair_cells HT3.out.res
            have rf0 := Blk.frozen HT3.out.res 0
            have rf1 := Blk.frozen HT3.out.res 1
            go_wp2
            refine bodyPost_ret (v := .tuple #[.agg #[.int .i64 0, .slice none 0 0], .bool false]) (by simp [results, Try.results5, go_sem, r0, r1]) rfl ?_
            have hbl : Below w.heap.size w w3 := HT3.out.bel
            refine ⟨none, 0, 0, by rw [togS_no HF.out, HF.out], by rw [togE_no HF.out]; rfl, by rw [togE_no HF.out]; exact .inl rfl, ?_⟩
            show Below _ _ _
            exact (hbl.setCell (p := ⟨B, 0, none⟩) (by show w.heap.size ≤ B; have := HB.out; omega) _).setCell (p := ⟨B, 1, none⟩) (by show w.heap.size ≤ B; have := HB.out; omega) _
          exact AllReadyH.nil

      · subst hr
        have HF : Hid (togB G = false) := togB_bad hkl (.inl (by rw [← HGK.out]; exact HR.out.symm))
        have HC1 : Hid (∀ w0, Below wr.heap.size wr w0 → Calls Try.prog 14 #[gv sk ak nk ck] w0 fun e w' => e = .returned (.bool false) ∧ Hid (Below wr.heap.size wr w') ∧ (w'.cell? ⟨b, o + k * 2, none⟩ = some (.int .i64 sk) ∧ w'.cell? ⟨b, o + k * 2 + 1, none⟩ = some (.slice ak nk ck) ∧ w'.cell? ⟨B + 1, 0, none⟩ = some (.int .i64 s0))) := fun w0 h =>
          (specGOk_any lo hi sk ak nk ck lk false w0 (HEK.out.below (HT.out.bel.trans (h.mono HT.out.bel.size)) HH.out) (Nat.le_trans HH.out (HT.out.bel.trans (h.mono HT.out.bel.size)).size) HNK.out (by omega) HR.out).mono fun _ w' ⟨h1, h4⟩ =>
            have h5 := h.trans (h4.out.mono h.size)
            ⟨h1, h5, cell_below q0 h5 (lt_of_cell q0), cell_below q1 h5 (lt_of_cell q1), cell_below t0 h5 (lt_of_cell t0)⟩
        go_wp2_with fail
        refine wp_region_held_drew (S := fun w' => w'.cell? ⟨b, o + k * 2, none⟩ = some (.int .i64 sk) ∧ w'.cell? ⟨b, o + k * 2 + 1, none⟩ = some (.slice ak nk ck) ∧ w'.cell? ⟨B + 1, 0, none⟩ = some (.int .i64 s0)) (by kernel_rfl) ⟨q0, q1, t0⟩ (fun hHeld => ?_)
        clear q0 q1 t0
        refine wpAnyH_take (i := 0) (oi := { dst := some 22, op := Go.Op.move (Go.Operand.tmp 0), type := 29, pos := "l05_share.go:44", after := #[], guard := none }) (v := ?_) rfl (by kernel_rfl) (by kernel_rfl) (by kernel_rfl) (fun _ _ _ h => h) (Or.inl ⟨by kernel_rfl, ?_⟩) (by assumption) ?_
        rotate_left
        · intro w hSw; (try dsimp only at hSw); go_simp; try with_reducible rfl
        simp only [Act.put, List.setIfInBounds_toArray, List.set_cons_zero, List.set_cons_succ]
        refine wpAnyH_take (i := 1) (oi := { dst := some 23, op := Go.Op.move (Go.Operand.tmp 5), type := 3, pos := "l05_share.go:44", after := #[], guard := none }) (v := ?_) rfl (by kernel_rfl) (by kernel_rfl) (by kernel_rfl) (fun _ _ _ h => h) (Or.inl ⟨by kernel_rfl, ?_⟩) (by assumption) ?_
        rotate_left
        · intro w hSw; (try dsimp only at hSw); go_simp; try with_reducible rfl
        simp only [Act.put, List.setIfInBounds_toArray, List.set_cons_zero, List.set_cons_succ]
        refine wpAnyH_take (i := 2) (oi := { dst := some 24, op := Go.Op.indexAddr 29 (Go.Operand.tmp 22) (Go.Operand.tmp 23), type := 0, pos := "l05_share.go:44", after := #[{ on := 0, ground := Go.Ground.data }, { on := 1, ground := Go.Ground.data }], guard := none }) (v := ?_) rfl (by kernel_rfl) (by kernel_rfl) (by kernel_rfl) (fun _ _ _ h => h) (Or.inl ⟨by kernel_rfl, ?_⟩) (by assumption) ?_
        rotate_left
        · intro w hSw; (try dsimp only at hSw); go_simp; try with_reducible rfl
        simp only [Act.put, List.setIfInBounds_toArray, List.set_cons_zero, List.set_cons_succ]
        refine wpAnyH_take (i := 3) (oi := { dst := some 25, op := Go.Op.load 26 (Go.Operand.tmp 24), type := 26, pos := "l05_share.go:44", after := #[{ on := 2, ground := Go.Ground.data }], guard := none }) (v := ?_) rfl (by kernel_rfl) (by kernel_rfl) (by kernel_rfl) (fun _ _ _ h => h) (Or.inl ⟨by kernel_rfl, ?_⟩) (by assumption) ?_
        rotate_left
        · intro w hSw; (try dsimp only at hSw); go_simp; try with_reducible rfl
        simp only [Act.put, List.setIfInBounds_toArray, List.set_cons_zero, List.set_cons_succ]
        refine wpAnyH_ready (rs := [4]) (by kernel_rfl) (by simp) ?_
        refine AllReadyH.cons (o := { dst := some 26, op := Go.Op.call { callee := Go.Callee.value (Go.Operand.func 14), args := #[Go.Operand.tmp 25], argTypes := #[26] }, type := 4, pos := "l05_share.go:44", after := #[{ on := 3, ground := Go.Ground.data }], guard := none }) rfl (fun K hK => ?_) ?_
        · go_simp
          go_wp2_with (go_at_call 14; refine (HC1.out _ ((Below.refl _ _).drew)).mono ?_; rintro e w3 ⟨rfl, B3, hk3⟩)
          refine hK.out _ _ hk3 (fun hHeld => ?_)
          clear hK K
          try simp only [Act.put, List.setIfInBounds_toArray, List.set_cons_zero, List.set_cons_succ]
          refine wpAnyH_take (i := 5) (oi := { dst := some 27, op := Go.Op.unOp Go.UnOp.not 4 (Go.Operand.tmp 26), type := 4, pos := "l05_share.go:44", after := #[{ on := 4, ground := Go.Ground.data }], guard := none }) (v := ?_) rfl (by kernel_rfl) (by kernel_rfl) (by kernel_rfl) (fun _ _ _ h => h) (Or.inl ⟨by kernel_rfl, ?_⟩) (by assumption) ?_
          rotate_left
          · intro w hSw; (try dsimp only at hSw); go_simp; try with_reducible rfl
          simp only [Act.put, List.setIfInBounds_toArray, List.set_cons_zero, List.set_cons_succ]
          refine wpAnyH_take (i := 6) (oi := { dst := some 28, op := Go.Op.move (Go.Operand.tmp 27), type := 4, pos := "l05_share.go:44", after := #[{ on := 5, ground := Go.Ground.data }, { on := 4, ground := Go.Ground.chain }], guard := none }) (v := ?_) rfl (by kernel_rfl) (by kernel_rfl) (by kernel_rfl) (fun _ _ _ h => h) (Or.inl ⟨by kernel_rfl, ?_⟩) (by assumption) ?_
          rotate_left
          · intro w hSw; (try dsimp only at hSw); go_simp; try with_reducible rfl
          simp only [Act.put, List.setIfInBounds_toArray, List.set_cons_zero, List.set_cons_succ]
          refine wpAnyH_take (i := 7) (oi := { dst := some 29, op := Go.Op.move (Go.Operand.tmp 0), type := 29, pos := "l05_share.go:44", after := #[{ on := 6, ground := Go.Ground.guard }], guard := some (6, false) }) (v := undef) rfl (by kernel_rfl) (by kernel_rfl) (by kernel_rfl) (fun _ _ _ h => h) (Or.inr ⟨by kernel_rfl, rfl⟩) (by assumption) ?_
          simp only [Act.put, List.setIfInBounds_toArray, List.set_cons_zero, List.set_cons_succ]
          refine wpAnyH_take (i := 8) (oi := { dst := some 30, op := Go.Op.move (Go.Operand.tmp 5), type := 3, pos := "l05_share.go:44", after := #[{ on := 6, ground := Go.Ground.guard }], guard := some (6, false) }) (v := undef) rfl (by kernel_rfl) (by kernel_rfl) (by kernel_rfl) (fun _ _ _ h => h) (Or.inr ⟨by kernel_rfl, rfl⟩) (by assumption) ?_
          simp only [Act.put, List.setIfInBounds_toArray, List.set_cons_zero, List.set_cons_succ]
          refine wpAnyH_take (i := 9) (oi := { dst := some 31, op := Go.Op.indexAddr 29 (Go.Operand.tmp 29) (Go.Operand.tmp 30), type := 0, pos := "l05_share.go:44", after := #[{ on := 7, ground := Go.Ground.data }, { on := 8, ground := Go.Ground.data }, { on := 6, ground := Go.Ground.guard }], guard := some (6, false) }) (v := undef) rfl (by kernel_rfl) (by kernel_rfl) (by kernel_rfl) (fun _ _ _ h => h) (Or.inr ⟨by kernel_rfl, rfl⟩) (by assumption) ?_
          simp only [Act.put, List.setIfInBounds_toArray, List.set_cons_zero, List.set_cons_succ]
          refine wpAnyH_take (i := 10) (oi := { dst := some 32, op := Go.Op.fieldAddr 26 (Go.Operand.tmp 31) 0, type := 0, pos := "l05_share.go:44", after := #[{ on := 9, ground := Go.Ground.data }, { on := 6, ground := Go.Ground.guard }], guard := some (6, false) }) (v := undef) rfl (by kernel_rfl) (by kernel_rfl) (by kernel_rfl) (fun _ _ _ h => h) (Or.inr ⟨by kernel_rfl, rfl⟩) (by assumption) ?_
          simp only [Act.put, List.setIfInBounds_toArray, List.set_cons_zero, List.set_cons_succ]
          refine wpAnyH_take (i := 11) (oi := { dst := some 33, op := Go.Op.load 3 (Go.Operand.tmp 32), type := 3, pos := "l05_share.go:44", after := #[{ on := 10, ground := Go.Ground.data }, { on := 6, ground := Go.Ground.guard }], guard := some (6, false) }) (v := undef) rfl (by kernel_rfl) (by kernel_rfl) (by kernel_rfl) (fun _ _ _ h => h) (Or.inr ⟨by kernel_rfl, rfl⟩) (by assumption) ?_
          simp only [Act.put, List.setIfInBounds_toArray, List.set_cons_zero, List.set_cons_succ]
          refine wpAnyH_take (i := 12) (oi := { dst := some 34, op := Go.Op.fieldAddr 26 (Go.Operand.tmp 4) 0, type := 0, pos := "l05_share.go:44", after := #[{ on := 6, ground := Go.Ground.guard }], guard := some (6, false) }) (v := undef) rfl (by kernel_rfl) (by kernel_rfl) (by kernel_rfl) (fun _ _ _ h => h) (Or.inr ⟨by kernel_rfl, rfl⟩) (by assumption) ?_
          simp only [Act.put, List.setIfInBounds_toArray, List.set_cons_zero, List.set_cons_succ]
          refine wpAnyH_take (i := 13) (oi := { dst := some 35, op := Go.Op.load 3 (Go.Operand.tmp 34), type := 3, pos := "l05_share.go:44", after := #[{ on := 12, ground := Go.Ground.data }, { on := 6, ground := Go.Ground.guard }], guard := some (6, false) }) (v := undef) rfl (by kernel_rfl) (by kernel_rfl) (by kernel_rfl) (fun _ _ _ h => h) (Or.inr ⟨by kernel_rfl, rfl⟩) (by assumption) ?_
          simp only [Act.put, List.setIfInBounds_toArray, List.set_cons_zero, List.set_cons_succ]
          refine wpAnyH_take (i := 14) (oi := { dst := some 36, op := Go.Op.binOp Go.BinOp.neq 3 (Go.Operand.tmp 33) (Go.Operand.tmp 35) 3, type := 4, pos := "l05_share.go:44", after := #[{ on := 11, ground := Go.Ground.data }, { on := 13, ground := Go.Ground.data }, { on := 6, ground := Go.Ground.guard }], guard := some (6, false) }) (v := undef) rfl (by kernel_rfl) (by kernel_rfl) (by kernel_rfl) (fun _ _ _ h => h) (Or.inr ⟨by kernel_rfl, rfl⟩) (by assumption) ?_
          simp only [Act.put, List.setIfInBounds_toArray, List.set_cons_zero, List.set_cons_succ]
          refine wpAnyH_take (i := 15) (oi := { dst := some 37, op := Go.Op.pick (Go.Operand.tmp 28) (Go.Operand.const (Go.Value.bool true)) (Go.Operand.tmp 36), type := 4, pos := "l05_share.go:44", after := #[{ on := 6, ground := Go.Ground.data }, { on := 14, ground := Go.Ground.data }], guard := none }) (v := ?_) rfl (by kernel_rfl) (by kernel_rfl) (by kernel_rfl) (fun _ _ _ h => h) (Or.inl ⟨by kernel_rfl, ?_⟩) (by assumption) ?_
          rotate_left
          · intro w hSw; (try dsimp only at hSw); go_simp; try with_reducible rfl
          simp only [Act.put, List.setIfInBounds_toArray, List.set_cons_zero, List.set_cons_succ]
          refine wpAnyH_done (by kernel_rfl) ?_ _
          clear hHeld hk3
          have HT3 : Hid (TI w w3 B s0 a' m cap' (putOn [] (catTo G k))) := HT.out.below B3.out
          obtain ⟨r0, r1⟩ := blk_pair_cells HT3.out.res
          have rf0 := Blk.frozen HT3.out.res 0
          have rf1 := Blk.frozen HT3.out.res 1
          go_wp2
          refine bodyPost_ret (v := .tuple #[.agg #[.int .i64 0, .slice none 0 0], .bool false]) (by simp [results, Try.results5, go_sem, r0, r1]) rfl ?_
          have hbl : Below w.heap.size w w3 := HT3.out.bel
          refine ⟨none, 0, 0, by rw [togS_no HF.out, HF.out], by rw [togE_no HF.out]; rfl, by rw [togE_no HF.out]; exact .inl rfl, ?_⟩
          show Below _ _ _
          exact (hbl.setCell (p := ⟨B, 0, none⟩) (by show w.heap.size ≤ B; have := HB.out; omega) _).setCell (p := ⟨B, 1, none⟩) (by show w.heap.size ≤ B; have := HB.out; omega) _
        exact AllReadyH.nil

    · obtain rfl : k = n := by omega
      have HGD : Hid (togB G = okG s0 (togL G)) := by
        show _ = _
        rw [HS0.out]
        exact togB_good (by rw [HN.out]; omega) (fun i hi => by rw [HN.out] at hi; rw [← HS0.out]; exact HAL.out i hi)
      have HCT : Hid (putOn [] (catTo G k) = togL G) := by show _ = _; unfold togL; rw [HN.out]
      rw [HCT.out] at HT
      have hm5 : m ≤ 1048576 := by
        have h1 := putOn_len (catTo G G.length) []
        have h2 := HT.out.len
        have h3 := HTT.out
        unfold togL at h2
        simp at h1
        omega
      obtain ⟨r, HRR⟩ : ∃ r, Hid (r = okG s0 (togL G)) := ⟨_, rfl⟩
      obtain ⟨t0, t1⟩ := blk_pair_cells HT.out.box
      go_wp2_with fail
      refine (specGOk_any (B + 2) wr.heap.size s0 a' m cap' (togL G) r wr HT.out.own.toIn (Nat.le_refl _) HT.out.len hm5 HRR.out).mono ?_
      rintro e w7 ⟨rfl, B7⟩
      have HT7 : Hid (TI w w7 B s0 a' m cap' (togL G)) := HT.out.below B7.out
      have HXE : Hid (Blk w7 (B + 1) 2 (fun i => if i = 0 then .int .i64 s0 else .slice a' m cap')) := HT7.out.box
      have HRE : Hid (Blk w7 B 2 (fun i => if i = 0 then .int .i64 0 else .slice none 0 0)) := HT7.out.res
      have HBE : Hid (Below w.heap.size w w7) := HT7.out.bel
      obtain ⟨hz, HHZ⟩ : ∃ hz, Hid (w7.heap.size = hz) := ⟨_, rfl⟩
      have HEO : Hid (EdgesOwn (B + 2) hz w7 a' (togL G)) := by rw [← HHZ.out]; exact HT7.out.own
      have HSE : Hid (hz ≤ w7.heap.size) := by rw [HHZ.out]; exact Nat.le_refl _
      have HM : Hid ((togL G).length = m) := HT7.out.len
      clear t0 t1 B7 HT HT7 HTI
      rcases Bool.eq_false_or_eq_true r with hr | hr
      · subst hr
        have HF : Hid (togB G = true) := by show _ = _; rw [HGD.out]; exact HRR.out.symm
        obtain ⟨r0, r1⟩ := blk_pair_cells HRE.out
        have rf0 := Blk.frozen HRE.out 0
        have rf1 := Blk.frozen HRE.out 1
        obtain ⟨d0, d1⟩ := blk_pair_cells HXE.out
        go_wp2
        refine bodyPost_ret (v := .tuple #[.agg #[.int .i64 s0, .slice a' m cap'], .bool true]) (by simp [results, Try.results5, go_sem, r0, r1]) rfl ?_
        refine ⟨a', m, cap', by rw [togS_yes HF.out, HF.out, ← HS0.out], by rw [togE_yes HF.out]; exact HM, ?_, ?_⟩
        · rw [togE_yes HF.out]
          show EdgesOwn _ _ _ _ _
          exact ((HEO.out.setCell (b := B) (j := 0) (by omega) _).setCell (b := B) (j := 1) (by omega) _).wide (by have := HB.out; omega) (by simpa using HSE.out)
        · show Below _ _ _
          exact (HBE.out.setCell (p := ⟨B, 0, none⟩) (by show w.heap.size ≤ B; have := HB.out; omega) _).setCell (p := ⟨B, 1, none⟩) (by show w.heap.size ≤ B; have := HB.out; omega) _
      · subst hr
        have HF : Hid (togB G = false) := by show _ = _; rw [HGD.out]; exact HRR.out.symm
        obtain ⟨r0, r1⟩ := blk_pair_cells HRE.out
        have rf0 := Blk.frozen HRE.out 0
        have rf1 := Blk.frozen HRE.out 1
        go_wp2
        refine bodyPost_ret (v := .tuple #[.agg #[.int .i64 0, .slice none 0 0], .bool false]) (by simp [results, Try.results5, go_sem, r0, r1]) rfl ?_
        have hbl : Below w.heap.size w w7 := HBE.out
        refine ⟨none, 0, 0, by rw [togS_no HF.out, HF.out], by rw [togE_no HF.out]; rfl, by rw [togE_no HF.out]; exact .inl rfl, ?_⟩
        show Below _ _ _
        exact (hbl.setCell (p := ⟨B, 0, none⟩) (by show w.heap.size ≤ B; have := HB.out; omega) _).setCell (p := ⟨B, 1, none⟩) (by show w.heap.size ≤ B; have := HB.out; omega) _
end Go.Proofs.Ytigojleieihdoaa
