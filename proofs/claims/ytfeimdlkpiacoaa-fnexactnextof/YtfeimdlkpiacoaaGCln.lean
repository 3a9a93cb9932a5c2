/-
  slices.Clone at edges, impl.newGraph, spec.l04Copy: a graph of the call's own.
-/
import Derived.Test.YtfeimdlkpiacoaaGRdI
import Derived.Test.YtfeimdlkpiacoaaApp
namespace Go.Proofs.Ytfeimdlkpiacoaa
open Go.RowKit

theorem ecells_one (l : List Ed) : ∀ u ∈ ecells l, u.oneCell' = true := by
  intro u hu
  obtain ⟨j, _, rfl⟩ := List.mem_map.1 hu
  unfold ef
  split
  · rfl
  · split <;> rfl
theorem ecells_get {l : List Ed} {j : Nat} (h : j < l.length * 3) : (ecells l)[j]? = some (ef l j) := by simp [ecells, h]
theorem EdgeAt.cell {w : World} {b o i : Nat} {l : List Ed} (h : EdgeAt w b (o + i * 3) (eat l i)) {r : Nat} (hr : r < 3) : w.cell? ⟨b, o + (i * 3 + r), none⟩ = some (ef l (i * 3 + r)) := by
  rcases (show r = 0 ∨ r = 1 ∨ r = 2 by omega) with rfl | rfl | rfl
  · rw [Nat.add_zero, ef0]; exact h.1
  · rw [ef1, ← Nat.add_assoc]; exact h.2.1
  · rw [ef2, ← Nat.add_assoc]; exact h.2.2
theorem ecells_at {lo hi : Nat} {w : World} {ao : Option Addr} {l : List Ed} (h : EdgesIn lo hi w ao l) : ∀ ad, ao = some ad → ∀ j u, (ecells l)[j]? = some u → w.cell? (ad.add j) = some u := by
  intro ad e j u hu
  have hj : j < l.length * 3 := by have := (List.getElem?_eq_some_iff.1 hu).1; simpa [ecells] using this
  rcases h with rfl | ⟨b, o, e2, _, _, h3⟩
  · simp at hj
  · rw [e] at e2
    simp only [Option.some.injEq] at e2
    subst e2
    rw [add_none]
    have hc := (h3 (j / 3) (by omega)).cell (r := j % 3) (by omega)
    rw [show j / 3 * 3 + j % 3 = j by omega] at hc
    rw [hc, ← ecells_get hj, hu]
theorem edgesIn_none {lo hi n : Nat} {w : World} {ao : Option Addr} {l : List Ed} (h : EdgesIn lo hi w ao l) (hn : l.length = n) : ao = none → n = 0 := by
  intro e
  rcases h with rfl | ⟨b, o, e2, _⟩
  · simpa using hn.symm
  · rw [e] at e2; cases e2

set_option maxHeartbeats 1000000 in
set_option maxRecDepth 100000 in
theorem cloneE_any (lo hi : Nat) (a : Option Addr) (n cap : Nat) (l : List Ed) (w : World) (ha : EdgesIn lo hi w a l) (hh : hi ≤ w.heap.size) (hn : l.length = n) (hm : n ≤ 1048576) :
    Calls Try.prog 61 #[.slice a n cap] w fun e w' => ∃ (a' : Option Addr) (cap' : Nat), e = .returned (.slice a' n cap') ∧ Hid (w'.ownsRow w.heap.size 37 3 (.slice a' n cap') n (ecells l)) ∧ Hid (Below w.heap.size w w') := by
  have HN : Hid (l.length = n) := hn
  have HA : Hid (EdgesIn lo hi w a l) := ha
  have HH : Hid (hi ≤ w.heap.size) := hh
  obtain ⟨i0, hi0, hz0, hz1, hz2⟩ := info_parts Try.info37
  have q35 : ∀ (w : World) (a : Option Addr) (n c n' c' : Nat), (binOp .eql 27 (.slice a n c) (.slice none n' c')).run Try.prog w = .ok (.bool a.isNone) w := fun w a n c n' c' => Lib.run_eql_slice_nil w _ _ a n c n' c' Try.underlying27
  clear ha hh hn
  cases a with
  | none =>
    obtain rfl : n = 0 := edgesIn_none HA.out HN.out rfl
    have h0 : l = [] := List.length_eq_zero_iff.1 HN.out
    subst h0
    go_enter Try.func61, Try.ntmps61
    go_wp2
    go_ret
    exact ⟨none, 0, rfl, World.ownsRow_nil _ _ _ _, Below.refl _ _⟩
  | some ad =>
    go_enter Try.func61, Try.ntmps61
    go_wp2_with (at_builtin; refine wpList_append_row _ rfl _ _ 27 rfl w.heap.size 37 i0 _ 3 24 Try.underlying27 hi0 hz0 hz1 hz2 rfl (by decide) _ 0 [] rfl (World.ownsRow_made w #[] 0 (Nat.le_refl _) (Nat.zero_le _) rfl) (some ad) n cap (ecells l) rfl (fun e => by cases e) (by rw [ecells_len, HN.out]) ?qc2 (ecells_one l) ?qc4 ?qc5 ?qc6 ?_)
    case qc2 => exact ecells_at (HA.out.below (below1 w _) HH.out)
    case qc4 => unfold maxLen; omega
    case qc5 => omega
    case qc6 => simp
    intro v1 w1 hown1 hgrow1
    have HO : Hid (w1.ownsRow w.heap.size 37 3 v1 n (ecells l)) := by simpa [Hid] using hown1
    have HB : Hid (Below w.heap.size w w1) := (below1 w _).grown hgrow1 (by simp) (fun k hk => by simp [Value.ownBlock] at hk; omega)
    obtain ⟨a1, cap1, rfl, _⟩ := edges_own HO.out HN.out
    clear hown1 hgrow1
    go_wp2
    go_ret
    exact ⟨a1, cap1, rfl, HO, HB⟩

theorem blk_pair_cells {w : World} {b : Nat} {x y : Value} (h : Blk w b 2 (fun i => if i = 0 then x else y)) : w.cell? ⟨b, 0, none⟩ = some x ∧ w.cell? ⟨b, 1, none⟩ = some y := ⟨h.cell (i := 0) (by omega), h.cell (i := 1) (by omega)⟩
theorem owns_set {B e s n b j : Nat} {w : World} {v u : Value} {xs : List Value} (ho : w.ownsRow B e s v n xs) (hb : b < B) : (w.setCell ⟨b, j, none⟩ u).ownsRow B e s v n xs :=
  owns_upto (M := w.heap.size) ho (fun k hk => (ho.lt k hk).2) (fun k h1 _ => Below.heap_setCell _ _ _ _ (by simp; omega))
theorem owns_low {B B' e s n : Nat} {w : World} {v : Value} {xs : List Value} (ho : w.ownsRow B e s v n xs) (hb : B' ≤ B) : w.ownsRow B' e s v n xs := by
  refine ⟨ho.1, ?_⟩
  rcases ho.2 with hn | ⟨g, cap, cur, rfl, hg, r⟩
  · exact .inl hn
  · exact .inr ⟨g, cap, cur, rfl, by omega, r⟩

set_option maxHeartbeats 2000000 in
set_option maxRecDepth 100000 in
theorem newGraph_any (lo hi : Nat) (s : Int) (a : Option Addr) (n cap : Nat) (l : List Ed) (w : World) (ha : EdgesIn lo hi w a l) (hh : hi ≤ w.heap.size) (hn : l.length = n) (hm : n ≤ 1048576) :
    Calls Try.prog 39 #[gv s a n cap] w fun e w' => ∃ (a' : Option Addr) (cap' : Nat), e = .returned (gv s a' n cap') ∧ Hid (w'.ownsRow w.heap.size 37 3 (.slice a' n cap') n (ecells l)) ∧ Hid (Below w.heap.size w w') := by
  have HN : Hid (l.length = n) := hn
  have HA : Hid (EdgesIn lo hi w a l) := ha
  have HH : Hid (hi ≤ w.heap.size) := hh
  obtain ⟨i0, hi0, hz0, hz1, hz2⟩ := info_parts Try.info37
  clear ha hh hn
  go_enter Try.func39, Try.ntmps39
  go_wp2_with fail
  obtain ⟨W, HW⟩ : ∃ W, Hid (W = (w.alloc (.cells #[.int .i64 s, .slice a n cap] 29)).alloc (.cells #[.int .i64 0, .slice none 0 0] 29)) := ⟨_, rfl⟩
  rw [← HW.out]
  have HB : Hid (Below w.heap.size w W) := by rw [HW.out]; exact below2 w _ _
  have HG : Hid (Blk W w.heap.size 2 (fun i => if i = 0 then .int .i64 s else .slice a n cap)) := by rw [HW.out]; exact (blk_two w _ rfl _ _ _).alloc _
  have HR : Hid (Blk W (w.heap.size + 1) 2 (fun i => if i = 0 then .int .i64 0 else .slice none 0 0)) := by rw [HW.out]; exact blk_two _ _ (by simp) _ _ _
  have HSZ : Hid (w.heap.size + 1 + 1 = W.heap.size) := by rw [HW.out]; show _ = _; simp
  obtain ⟨c0, c1⟩ := blk_pair_cells HG.out
  have HKS : Hid (∀ w', Below W.heap.size W w' → (w'.cell? ⟨w.heap.size, 0, none⟩ = some (.int .i64 s) ∧ w'.cell? ⟨w.heap.size, 1, none⟩ = some (.slice a n cap))) := fun w' h => ⟨cell_below c0 h (lt_of_cell c0), cell_below c1 h (lt_of_cell c1)⟩
  clear HW
  refine wp_region_held_drew (S := fun w' => w'.cell? ⟨w.heap.size, 0, none⟩ = some (.int .i64 s) ∧ w'.cell? ⟨w.heap.size, 1, none⟩ = some (.slice a n cap)) (by kernel_rfl) ⟨c0, c1⟩ (fun hHeld => ?_)
  clear c0 c1
  refine wpAnyH_take (i := 0) (oi := { dst := some 3, op := Go.Op.fieldAddr 29 (Go.Operand.tmp 1) 0, type := 0, pos := "l04_graph.go:128", after := #[], guard := none }) (v := ?_) rfl (by kernel_rfl) (by kernel_rfl) (by kernel_rfl) (fun _ _ _ h => h) (Or.inl ⟨by kernel_rfl, ?_⟩) (by assumption) ?_
  rotate_left
  · intro w hSw; (try dsimp only at hSw); go_simp; try with_reducible rfl
  simp only [Act.put, List.setIfInBounds_toArray, List.set_cons_zero, List.set_cons_succ]
  refine wpAnyH_take (i := 1) (oi := { dst := some 4, op := Go.Op.load 3 (Go.Operand.tmp 3), type := 3, pos := "l04_graph.go:128", after := #[{ on := 0, ground := Go.Ground.data }], guard := none }) (v := ?_) rfl (by kernel_rfl) (by kernel_rfl) (by kernel_rfl) (fun _ _ _ h => h) (Or.inl ⟨by kernel_rfl, ?_⟩) (by assumption) ?_
  rotate_left
  · intro w hSw; (try dsimp only at hSw); go_simp; try with_reducible rfl
  simp only [Act.put, List.setIfInBounds_toArray, List.set_cons_zero, List.set_cons_succ]
  refine wpAnyH_take (i := 2) (oi := { dst := some 5, op := Go.Op.fieldAddr 29 (Go.Operand.tmp 1) 1, type := 0, pos := "l04_graph.go:128", after := #[], guard := none }) (v := ?_) rfl (by kernel_rfl) (by kernel_rfl) (by kernel_rfl) (fun _ _ _ h => h) (Or.inl ⟨by kernel_rfl, ?_⟩) (by assumption) ?_
  rotate_left
  · intro w hSw; (try dsimp only at hSw); go_simp; try with_reducible rfl
  simp only [Act.put, List.setIfInBounds_toArray, List.set_cons_zero, List.set_cons_succ]
  refine wpAnyH_take (i := 3) (oi := { dst := some 6, op := Go.Op.load 27 (Go.Operand.tmp 5), type := 27, pos := "l04_graph.go:128", after := #[{ on := 2, ground := Go.Ground.data }], guard := none }) (v := ?_) rfl (by kernel_rfl) (by kernel_rfl) (by kernel_rfl) (fun _ _ _ h => h) (Or.inl ⟨by kernel_rfl, ?_⟩) (by assumption) ?_
  rotate_left
  · intro w hSw; (try dsimp only at hSw); go_simp; try with_reducible rfl
  simp only [Act.put, List.setIfInBounds_toArray, List.set_cons_zero, List.set_cons_succ]
  refine wpAnyH_ready (rs := [4]) (by kernel_rfl) (by simp) ?_
  refine AllReadyH.cons (o := { dst := some 7, op := Go.Op.call { callee := Go.Callee.value (Go.Operand.func 61), args := #[Go.Operand.tmp 6], argTypes := #[27] }, type := 27, pos := "l04_graph.go:128", after := #[{ on := 3, ground := Go.Ground.data }], guard := none }) rfl (fun K hK => ?_) ?_
  · go_simp
    go_wp2_with (go_at_call 61; refine (cloneE_any lo hi a n cap l _ (HA.out.below (HB.out.drew) HH.out) (Nat.le_trans HH.out HB.out.size) HN.out hm).mono ?_; rintro e w1 ⟨a1, cap1, rfl, HO1, B1⟩)
    have HB1 : Hid (Below W.heap.size W w1) := ((Below.refl _ _).drew).trans (B1.out.mono (Nat.le_refl _))
    have hk1 := HKS.out _ HB1.out
    have HR1 : Hid (Blk w1 (w.heap.size + 1) 2 (fun i => if i = 0 then .int .i64 0 else .slice none 0 0)) := HR.out.of_block (HB1.out.block _ HR.out.lt)
    have HO1' : Hid (w1.ownsRow W.heap.size 37 3 (.slice a1 n cap1) n (ecells l)) := HO1
    clear HO1 B1
    refine hK.out _ _ hk1 (fun hHeld => ?_)
    clear hK K
    try simp only [Act.put, List.setIfInBounds_toArray, List.set_cons_zero, List.set_cons_succ]
    refine wpAnyH_take (i := 5) (oi := { dst := some 8, op := Go.Op.build 29 #[(0, Go.Operand.tmp 4), (1, Go.Operand.tmp 7)], type := 29, pos := "l04_graph.go:128", after := #[{ on := 1, ground := Go.Ground.data }, { on := 4, ground := Go.Ground.data }], guard := none }) (v := ?_) rfl (by kernel_rfl) (by kernel_rfl) (by kernel_rfl) (fun _ _ _ h => h) (Or.inl ⟨by kernel_rfl, ?_⟩) (by assumption) ?_
    rotate_left
    · intro w hSw; (try dsimp only at hSw); go_simp; try with_reducible rfl
    simp only [Act.put, List.setIfInBounds_toArray, List.set_cons_zero, List.set_cons_succ]
    refine wpAnyH_ready (rs := [6]) (by kernel_rfl) (by simp) ?_
    refine AllReadyH.cons (o := { dst := none, op := Go.Op.store 29 (Go.Operand.tmp 2) (Go.Operand.tmp 8), type := 0, pos := "l04_graph.go:128", after := #[{ on := 5, ground := Go.Ground.data }, { on := 4, ground := Go.Ground.chain }, { on := 0, ground := Go.Ground.phase }, { on := 1, ground := Go.Ground.phase }, { on := 2, ground := Go.Ground.phase }, { on := 3, ground := Go.Ground.phase }, { on := 4, ground := Go.Ground.phase }, { on := 5, ground := Go.Ground.phase }], guard := none }) rfl (fun K hK => ?_) ?_
    · obtain ⟨r0, r1⟩ := blk_pair_cells HR1.out
      have rf0 := HR1.out.frozen 0
      have rf1 := HR1.out.frozen 1
      go_simp
      have hk2 : ((w1.setCell ⟨w.heap.size + 1, 0, none⟩ (.int .i64 s)).setCell ⟨w.heap.size + 1, 1, none⟩ (.slice a1 n cap1)).cell? ⟨w.heap.size, 0, none⟩ = some (.int .i64 s) ∧ ((w1.setCell ⟨w.heap.size + 1, 0, none⟩ (.int .i64 s)).setCell ⟨w.heap.size + 1, 1, none⟩ (.slice a1 n cap1)).cell? ⟨w.heap.size, 1, none⟩ = some (.slice a n cap) := ⟨cell_set (cell_set hk1.1 _ (by omega)) _ (by omega), cell_set (cell_set hk1.2 _ (by omega)) _ (by omega)⟩
      refine hK.out _ _ hk2 (fun hHeld => ?_)
      clear hK K
      try simp only [Act.put, List.setIfInBounds_toArray, List.set_cons_zero, List.set_cons_succ]
      refine wpAnyH_done (by kernel_rfl) ?_ _
      clear hHeld hk1 hk2
      go_wp2
      refine bodyPost_ret (v := .agg #[.int .i64 s, .slice a1 n cap1]) (by simp [results, Try.results39, go_sem, r0, r1]) rfl ?_
      refine ⟨a1, cap1, rfl, ?_, ?_⟩
      · exact owns_low (owns_set (owns_set HO1'.out (by have := HSZ.out; omega)) (by have := HSZ.out; omega)) (by have := HSZ.out; omega)
      · exact ((HB.out.trans (HB1.out.mono HB.out.size)).setCell (by simp) _).setCell (by simp) _
    exact AllReadyH.nil
  exact AllReadyH.nil

set_option maxHeartbeats 2000000 in
set_option maxRecDepth 100000 in
theorem l04Copy_any (lo hi : Nat) (s : Int) (a : Option Addr) (n cap : Nat) (l : List Ed) (w : World) (ha : EdgesIn lo hi w a l) (hh : hi ≤ w.heap.size) (hn : l.length = n) (hm : n ≤ 1048576) :
    Calls Try.prog 38 #[gv s a n cap] w fun e w' => ∃ (a' : Option Addr) (cap' : Nat), e = .returned (gv s a' n cap') ∧ Hid (w'.ownsRow w.heap.size 37 3 (.slice a' n cap') n (ecells l)) ∧ Hid (Below w.heap.size w w') := by
  have HN : Hid (l.length = n) := hn
  have HA : Hid (EdgesIn lo hi w a l) := ha
  have HH : Hid (hi ≤ w.heap.size) := hh
  obtain ⟨i0, hi0, hz0, hz1, hz2⟩ := info_parts Try.info37
  clear ha hh hn
  go_enter Try.func38, Try.ntmps38
  go_wp2_with fail
  obtain ⟨W, HW⟩ : ∃ W, Hid (W = (w.alloc (.cells #[.int .i64 s, .slice a n cap] 29)).alloc (.cells #[.int .i64 0, .slice none 0 0] 29)) := ⟨_, rfl⟩
  rw [← HW.out]
  have HB : Hid (Below w.heap.size w W) := by rw [HW.out]; exact below2 w _ _
  have HG : Hid (Blk W w.heap.size 2 (fun i => if i = 0 then .int .i64 s else .slice a n cap)) := by rw [HW.out]; exact (blk_two w _ rfl _ _ _).alloc _
  have HR : Hid (Blk W (w.heap.size + 1) 2 (fun i => if i = 0 then .int .i64 0 else .slice none 0 0)) := by rw [HW.out]; exact blk_two _ _ (by simp) _ _ _
  have HSZ : Hid (w.heap.size + 1 + 1 = W.heap.size) := by rw [HW.out]; show _ = _; simp
  obtain ⟨c0, c1⟩ := blk_pair_cells HG.out
  have HKS : Hid (∀ w', Below W.heap.size W w' → (w'.cell? ⟨w.heap.size, 0, none⟩ = some (.int .i64 s) ∧ w'.cell? ⟨w.heap.size, 1, none⟩ = some (.slice a n cap))) := fun w' h => ⟨cell_below c0 h (lt_of_cell c0), cell_below c1 h (lt_of_cell c1)⟩
  clear HW
  refine wp_region_held_drew (S := fun w' => w'.cell? ⟨w.heap.size, 0, none⟩ = some (.int .i64 s) ∧ w'.cell? ⟨w.heap.size, 1, none⟩ = some (.slice a n cap)) (by kernel_rfl) ⟨c0, c1⟩ (fun hHeld => ?_)
  clear c0 c1
  refine wpAnyH_take (i := 0) (oi := { dst := some 3, op := Go.Op.fieldAddr 29 (Go.Operand.tmp 1) 0, type := 0, pos := "l04_graph.go:29", after := #[], guard := none }) (v := ?_) rfl (by kernel_rfl) (by kernel_rfl) (by kernel_rfl) (fun _ _ _ h => h) (Or.inl ⟨by kernel_rfl, ?_⟩) (by assumption) ?_
  rotate_left
  · intro w hSw; (try dsimp only at hSw); go_simp; try with_reducible rfl
  simp only [Act.put, List.setIfInBounds_toArray, List.set_cons_zero, List.set_cons_succ]
  refine wpAnyH_take (i := 1) (oi := { dst := some 4, op := Go.Op.load 3 (Go.Operand.tmp 3), type := 3, pos := "l04_graph.go:29", after := #[{ on := 0, ground := Go.Ground.data }], guard := none }) (v := ?_) rfl (by kernel_rfl) (by kernel_rfl) (by kernel_rfl) (fun _ _ _ h => h) (Or.inl ⟨by kernel_rfl, ?_⟩) (by assumption) ?_
  rotate_left
  · intro w hSw; (try dsimp only at hSw); go_simp; try with_reducible rfl
  simp only [Act.put, List.setIfInBounds_toArray, List.set_cons_zero, List.set_cons_succ]
  refine wpAnyH_take (i := 3) (oi := { dst := some 6, op := Go.Op.fieldAddr 29 (Go.Operand.tmp 1) 1, type := 0, pos := "l04_graph.go:29", after := #[], guard := none }) (v := ?_) rfl (by kernel_rfl) (by kernel_rfl) (by kernel_rfl) (fun _ _ _ h => h) (Or.inl ⟨by kernel_rfl, ?_⟩) (by assumption) ?_
  rotate_left
  · intro w hSw; (try dsimp only at hSw); go_simp; try with_reducible rfl
  simp only [Act.put, List.setIfInBounds_toArray, List.set_cons_zero, List.set_cons_succ]
  refine wpAnyH_take (i := 4) (oi := { dst := some 7, op := Go.Op.load 27 (Go.Operand.tmp 6), type := 27, pos := "l04_graph.go:29", after := #[{ on := 3, ground := Go.Ground.data }], guard := none }) (v := ?_) rfl (by kernel_rfl) (by kernel_rfl) (by kernel_rfl) (fun _ _ _ h => h) (Or.inl ⟨by kernel_rfl, ?_⟩) (by assumption) ?_
  rotate_left
  · intro w hSw; (try dsimp only at hSw); go_simp; try with_reducible rfl
  simp only [Act.put, List.setIfInBounds_toArray, List.set_cons_zero, List.set_cons_succ]
  refine wpAnyH_ready (rs := [2]) (by kernel_rfl) (by simp) ?_
  refine AllReadyH.cons (o := { dst := some 5, op := Go.Op.buildSlice 27 0 #[], type := 27, pos := "l04_graph.go:29", after := #[], guard := none }) rfl (fun K hK => ?_) ?_
  · go_simp
    have hk0 := HKS.out (W.drew.alloc (.cells #[] 37)) (((Below.refl _ _).drew).alloc (Nat.le_refl _) _)
    refine hK.out _ _ hk0 (fun hHeld => ?_)
    clear hK K
    try simp only [Act.put, List.setIfInBounds_toArray, List.set_cons_zero, List.set_cons_succ]
    refine wpAnyH_ready (rs := [5]) (by kernel_rfl) (by simp) ?_
    refine AllReadyH.cons (o := { dst := some 8, op := Go.Op.call { callee := Go.Callee.builtin Go.Builtin.append, args := #[Go.Operand.tmp 5, Go.Operand.tmp 7], argTypes := #[27, 27] }, type := 27, pos := "l04_graph.go:29", after := #[{ on := 2, ground := Go.Ground.data }, { on := 4, ground := Go.Ground.data }], guard := none }) rfl (fun K hK => ?_) ?_
    · refine step_append_row _ rfl (.tmp 5) (.tmp 7) 27 rfl W.heap.size 37 i0 _ 3 24 Try.underlying27 hi0 hz0 hz1 hz2 rfl (by decide) (.slice (some ⟨W.heap.size, 0, none⟩) 0 0) 0 [] rfl (World.ownsRow_made W.drew #[] 0 (Nat.le_refl _) (Nat.zero_le _) rfl) a n cap (ecells l) rfl (edgesIn_none HA.out HN.out) (by rw [ecells_len, HN.out]) (ecells_at (HA.out.below (((HB.out.drew).alloc (by have := HSZ.out; show _ ≤ W.heap.size; omega) _)) HH.out)) (ecells_one l) (by unfold maxLen; omega) (by omega) (by simp) ?_
      intro v1 w1 hown1 hgrow1
      have HO1' : Hid (w1.ownsRow W.heap.size 37 3 v1 n (ecells l)) := by simpa [Hid] using hown1
      have HB1 : Hid (Below W.heap.size W w1) := (((Below.refl W.heap.size W).drew).alloc (Nat.le_refl _) _).grown hgrow1 (by simp) (fun k hk => by simp [Value.ownBlock] at hk; omega)
      obtain ⟨a1, cap1, rfl, _⟩ := edges_own HO1'.out HN.out
      have hk1 := HKS.out _ HB1.out
      have HR1 : Hid (Blk w1 (w.heap.size + 1) 2 (fun i => if i = 0 then .int .i64 0 else .slice none 0 0)) := HR.out.of_block (HB1.out.block _ HR.out.lt)
      clear hown1 hgrow1
      refine hK.out _ _ hk1 (fun hHeld => ?_)
      clear hK K
      try simp only [Act.put, List.setIfInBounds_toArray, List.set_cons_zero, List.set_cons_succ]
      refine wpAnyH_take (i := 6) (oi := { dst := some 9, op := Go.Op.build 29 #[(0, Go.Operand.tmp 4), (1, Go.Operand.tmp 8)], type := 29, pos := "l04_graph.go:29", after := #[{ on := 1, ground := Go.Ground.data }, { on := 5, ground := Go.Ground.data }], guard := none }) (v := ?_) rfl (by kernel_rfl) (by kernel_rfl) (by kernel_rfl) (fun _ _ _ h => h) (Or.inl ⟨by kernel_rfl, ?_⟩) (by assumption) ?_
      rotate_left
      · intro w hSw; (try dsimp only at hSw); go_simp; try with_reducible rfl
      simp only [Act.put, List.setIfInBounds_toArray, List.set_cons_zero, List.set_cons_succ]
      refine wpAnyH_ready (rs := [7]) (by kernel_rfl) (by simp) ?_
      refine AllReadyH.cons (o := { dst := none, op := Go.Op.store 29 (Go.Operand.tmp 2) (Go.Operand.tmp 9), type := 0, pos := "l04_graph.go:29", after := #[{ on := 6, ground := Go.Ground.data }, { on := 5, ground := Go.Ground.chain }, { on := 0, ground := Go.Ground.phase }, { on := 1, ground := Go.Ground.phase }, { on := 2, ground := Go.Ground.phase }, { on := 3, ground := Go.Ground.phase }, { on := 4, ground := Go.Ground.phase }, { on := 5, ground := Go.Ground.phase }, { on := 6, ground := Go.Ground.phase }], guard := none }) rfl (fun K hK => ?_) ?_
      · obtain ⟨r0, r1⟩ := blk_pair_cells HR1.out
        have rf0 := HR1.out.frozen 0
        have rf1 := HR1.out.frozen 1
        go_simp
        have hk2 : ((w1.setCell ⟨w.heap.size + 1, 0, none⟩ (.int .i64 s)).setCell ⟨w.heap.size + 1, 1, none⟩ (.slice a1 n cap1)).cell? ⟨w.heap.size, 0, none⟩ = some (.int .i64 s) ∧ ((w1.setCell ⟨w.heap.size + 1, 0, none⟩ (.int .i64 s)).setCell ⟨w.heap.size + 1, 1, none⟩ (.slice a1 n cap1)).cell? ⟨w.heap.size, 1, none⟩ = some (.slice a n cap) := ⟨cell_set (cell_set hk1.1 _ (by omega)) _ (by omega), cell_set (cell_set hk1.2 _ (by omega)) _ (by omega)⟩
        refine hK.out _ _ hk2 (fun hHeld => ?_)
        clear hK K
        try simp only [Act.put, List.setIfInBounds_toArray, List.set_cons_zero, List.set_cons_succ]
        refine wpAnyH_done (by kernel_rfl) ?_ _
        clear hHeld hk1 hk2
        go_wp2
        refine bodyPost_ret (v := .agg #[.int .i64 s, .slice a1 n cap1]) (by simp [results, Try.results38, go_sem, r0, r1]) rfl ?_
        refine ⟨a1, cap1, rfl, ?_, ?_⟩
        · exact owns_low (owns_set (owns_set HO1'.out (by have := HSZ.out; omega)) (by have := HSZ.out; omega)) (by have := HSZ.out; omega)
        · exact ((HB.out.trans (HB1.out.mono HB.out.size)).setCell (by simp) _).setCell (by simp) _
      exact AllReadyH.nil
    exact AllReadyH.nil
  exact AllReadyH.nil
end Go.Proofs.Ytfeimdlkpiacoaa
