/-
  spec.GraphAdd.
-/
import Derived.Test.YtfeimdlkpiacoaaGTrS
import Derived.Test.YtfeimdlkpiacoaaGTrI
namespace Go.Proofs.Ytfeimdlkpiacoaa
open Go.RowKit

set_option maxHeartbeats 4000000 in
set_option maxRecDepth 100000 in
theorem specGAdd_any (lo hi : Nat) (s : Int) (a : Option Addr) (n cap : Nat) (l : List Ed) (x : Ed) (w : World) (ha : EdgesIn lo hi w a l) (hh : hi ≤ w.heap.size) (hn : l.length = n) (hm : n ≤ 1048576) :
    Calls Try.prog 14 #[gv s a n cap, ev x] w fun e w' => ∃ (a' : Option Addr) (n' cap' : Nat) (ok : Bool), e = .returned (.tuple #[gv s a' n' cap', .bool ok]) ∧ Hid (ok = gaddOk s l x) ∧ Hid ((gaddL s l x).length = n') ∧ Hid (EdgesOwn w.heap.size w'.heap.size w' a' (gaddL s l x)) ∧ Hid (Below w.heap.size w w') := by
  have HN : Hid (l.length = n) := hn
  have HA : Hid (EdgesIn lo hi w a l) := ha
  have HH : Hid (hi ≤ w.heap.size) := hh
  obtain ⟨r, HS⟩ : ∃ r : Bool, Hid (r = okG s l) := ⟨_, rfl⟩
  obtain ⟨r2, HS2⟩ : ∃ r : Bool, Hid (r = okG s (putE l x)) := ⟨_, rfl⟩
  clear ha hh hn
  obtain ⟨B, HB⟩ : ∃ B, Hid (B = w.heap.size) := ⟨_, rfl⟩
  obtain ⟨PL, HPL⟩ : ∃ PL, Hid (PL = putE l x) := ⟨_, rfl⟩
  have HGA : Hid (gaddOk s l x = (r && r2) ∧ (gaddL s l x = if (r && r2) = true then PL else l)) :=
    ⟨by unfold gaddOk; rw [HS.out, HS2.out], by unfold gaddL gaddOk; rw [HS.out, HS2.out, HPL.out]⟩
  have HS2' : Hid (r2 = okG s PL) := by rw [HPL.out]; exact HS2
  have HPLN : Hid (PL.length ≤ n + 1) := by rw [HPL.out, ← HN.out]; exact putE_len l x
  have HPUT : Hid (∀ w0, Below w.heap.size w w0 → Calls Try.prog 37 #[.slice a n cap, ev x] w0 fun r w' => ∃ (a' : Option Addr) (n' cap' : Nat), r = .returned (.slice a' n' cap') ∧ Hid (PL.length = n') ∧ Hid (EdgesOwn w0.heap.size w'.heap.size w' a' PL) ∧ Hid (Below w0.heap.size w0 w')) := fun w0 h =>
    (l04Put_any lo hi a n cap l x w0 (HA.out.below h HH.out) (Nat.le_trans HH.out h.size) HN.out (by omega)).mono fun _ _ ⟨a', n', cap', h1, h2, h3, h4⟩ => ⟨a', n', cap', h1, by rw [HPL.out]; exact h2, by rw [HPL.out]; exact own_in h3.out h2.out, h4⟩
  clear HPL HS2
  obtain ⟨x0, x1, x2⟩ := x
  go_enter Try.func14, Try.ntmps14
  go_wp2_with fail
  obtain ⟨W, HW⟩ : ∃ W, Hid (W = ((w.alloc (.cells #[.int .i64 s, .slice a n cap] 29)).alloc (.cells #[.int .i64 x0, .int .u8 x1, .int .i64 x2] 37)).alloc (.cells #[.int .i64 0, .slice none 0 0] 29)) := ⟨_, rfl⟩
  rw [← HW.out, ← HB.out]
  have HG : Hid (Blk W B 2 (fun i => if i = 0 then .int .i64 s else .slice a n cap)) := by rw [HW.out]; exact ((blk_two w B HB.out _ _ _).alloc _).alloc _
  have HX : Hid (Blk W (B + 1) 3 (fun i => if i = 0 then .int .i64 x0 else if i = 1 then .int .u8 x1 else .int .i64 x2)) := by rw [HW.out]; exact (blk_three _ (B + 1) (by rw [HB.out]; simp) _ _ _ _).alloc _
  have HR : Hid (Blk W (B + 1 + 1) 2 (fun i => if i = 0 then .int .i64 0 else .slice none 0 0)) := by rw [HW.out]; exact blk_two _ (B + 1 + 1) (by rw [HB.out]; simp) _ _ _
  have HL : Hid (Below w.heap.size w W) := by rw [HW.out]; exact below3 w _ _ _
  obtain ⟨c0, c1⟩ := blk_pair_cells HG.out
  obtain ⟨d0, d1, d2⟩ := blk_three_set HX.out
  have HKS : Hid (∀ w', Below W.heap.size W w' → ((w'.cell? ⟨B, 0, none⟩ = some (.int .i64 s) ∧ w'.cell? ⟨B, 1, none⟩ = some (.slice a n cap)) ∧ (w'.cell? ⟨B + 1, 0, none⟩ = some (.int .i64 x0) ∧ w'.cell? ⟨B + 1, 1, none⟩ = some (.int .u8 x1) ∧ w'.cell? ⟨B + 1, 2, none⟩ = some (.int .i64 x2)))) := fun w' h => ⟨⟨cell_below c0 h (lt_of_cell c0), cell_below c1 h (lt_of_cell c1)⟩, ⟨cell_below d0 h (lt_of_cell d0), cell_below d1 h (lt_of_cell d1), cell_below d2 h (lt_of_cell d2)⟩⟩
  have HLR : Hid (B + 1 + 1 < W.heap.size) := HR.out.lt
  clear HW
  refine wp_region_held_drew (S := fun w' => (w'.cell? ⟨B, 0, none⟩ = some (.int .i64 s) ∧ w'.cell? ⟨B, 1, none⟩ = some (.slice a n cap)) ∧ (w'.cell? ⟨B + 1, 0, none⟩ = some (.int .i64 x0) ∧ w'.cell? ⟨B + 1, 1, none⟩ = some (.int .u8 x1) ∧ w'.cell? ⟨B + 1, 2, none⟩ = some (.int .i64 x2))) (by kernel_rfl) ⟨⟨c0, c1⟩, ⟨d0, d1, d2⟩⟩ (fun hHeld => ?_)
  clear c0 c1 d0 d1 d2
  refine wpAnyH_take (i := 0) (oi := { dst := some 7, op := Go.Op.fieldAddr 29 (Go.Operand.tmp 2) 0, type := 0, pos := "l04_graph.go:50", after := #[], guard := none }) (v := ?_) rfl (by kernel_rfl) (by kernel_rfl) (by kernel_rfl) (fun _ _ _ h => h) (Or.inl ⟨by kernel_rfl, ?_⟩) (by assumption) ?_
  rotate_left
  · intro w hSw; (try dsimp only at hSw); go_simp; try with_reducible rfl
  simp only [Act.put, List.setIfInBounds_toArray, List.set_cons_zero, List.set_cons_succ]
  refine wpAnyH_take (i := 1) (oi := { dst := some 8, op := Go.Op.load 3 (Go.Operand.tmp 7), type := 3, pos := "l04_graph.go:50", after := #[{ on := 0, ground := Go.Ground.data }], guard := none }) (v := ?_) rfl (by kernel_rfl) (by kernel_rfl) (by kernel_rfl) (fun _ _ _ h => h) (Or.inl ⟨by kernel_rfl, ?_⟩) (by assumption) ?_
  rotate_left
  · intro w hSw; (try dsimp only at hSw); go_simp; try with_reducible rfl
  simp only [Act.put, List.setIfInBounds_toArray, List.set_cons_zero, List.set_cons_succ]
  refine wpAnyH_take (i := 2) (oi := { dst := some 9, op := Go.Op.fieldAddr 29 (Go.Operand.tmp 2) 1, type := 0, pos := "l04_graph.go:50", after := #[], guard := none }) (v := ?_) rfl (by kernel_rfl) (by kernel_rfl) (by kernel_rfl) (fun _ _ _ h => h) (Or.inl ⟨by kernel_rfl, ?_⟩) (by assumption) ?_
  rotate_left
  · intro w hSw; (try dsimp only at hSw); go_simp; try with_reducible rfl
  simp only [Act.put, List.setIfInBounds_toArray, List.set_cons_zero, List.set_cons_succ]
  refine wpAnyH_take (i := 3) (oi := { dst := some 10, op := Go.Op.load 27 (Go.Operand.tmp 9), type := 27, pos := "l04_graph.go:50", after := #[{ on := 2, ground := Go.Ground.data }], guard := none }) (v := ?_) rfl (by kernel_rfl) (by kernel_rfl) (by kernel_rfl) (fun _ _ _ h => h) (Or.inl ⟨by kernel_rfl, ?_⟩) (by assumption) ?_
  rotate_left
  · intro w hSw; (try dsimp only at hSw); go_simp; try with_reducible rfl
  simp only [Act.put, List.setIfInBounds_toArray, List.set_cons_zero, List.set_cons_succ]
  refine wpAnyH_take (i := 4) (oi := { dst := some 11, op := Go.Op.load 37 (Go.Operand.tmp 3), type := 37, pos := "l04_graph.go:50", after := #[], guard := none }) (v := ?_) rfl (by kernel_rfl) (by kernel_rfl) (by kernel_rfl) (fun _ _ _ h => h) (Or.inl ⟨by kernel_rfl, ?_⟩) (by assumption) ?_
  rotate_left
  · intro w hSw; (try dsimp only at hSw); go_simp; try with_reducible rfl
  simp only [Act.put, List.setIfInBounds_toArray, List.set_cons_zero, List.set_cons_succ]
  refine wpAnyH_ready (rs := [5, 7]) (by kernel_rfl) (by simp) ?_
  refine AllReadyH.cons (o := { dst := some 12, op := Go.Op.call { callee := Go.Callee.value (Go.Operand.func 37), args := #[Go.Operand.tmp 10, Go.Operand.tmp 11], argTypes := #[27, 37] }, type := 27, pos := "l04_graph.go:50", after := #[{ on := 3, ground := Go.Ground.data }, { on := 4, ground := Go.Ground.data }], guard := none }) rfl (fun K hK => ?_) ?_
  · go_simp
    go_wp2_with (go_at_call 37; refine (HPUT.out _ (HL.out.trans (((Below.refl W.heap.size W).drew).mono HL.out.size))).mono ?_; rintro e w1 ⟨a1, m1, cap1, rfl, HM1, HE1, C1⟩)
    have HB1 : Hid (Below W.heap.size W w1) := ((Below.refl W.heap.size W).drew).trans (C1.out.mono ((Below.refl W.heap.size W).drew).size)
    have hk1 := HKS.out _ HB1.out
    have HE1' : Hid (EdgesOwn W.heap.size w1.heap.size w1 a1 PL) := HE1
    clear HE1 C1
    refine hK.out _ _ hk1 (fun hHeld => ?_)
    clear hK K
    try simp only [Act.put, List.setIfInBounds_toArray, List.set_cons_zero, List.set_cons_succ]
    refine wpAnyH_take (i := 6) (oi := { dst := some 13, op := Go.Op.build 29 #[(0, Go.Operand.tmp 8), (1, Go.Operand.tmp 12)], type := 29, pos := "l04_graph.go:50", after := #[{ on := 1, ground := Go.Ground.data }, { on := 5, ground := Go.Ground.data }], guard := none }) (v := ?_) rfl (by kernel_rfl) (by kernel_rfl) (by kernel_rfl) (fun _ _ _ h => h) (Or.inl ⟨by kernel_rfl, ?_⟩) (by assumption) ?_
    rotate_left
    · intro w hSw; (try dsimp only at hSw); go_simp; try with_reducible rfl
    simp only [Act.put, List.setIfInBounds_toArray, List.set_cons_zero, List.set_cons_succ]
    refine wpAnyH_ready (rs := [7]) (by kernel_rfl) (by simp) ?_
    refine AllReadyH.cons (o := { dst := some 6, op := Go.Op.alloc 29, type := 0, pos := "l04_graph.go:50", after := #[], guard := none }) rfl (fun K hK => ?_) ?_
    · go_simp
      have HBA : Hid (Below W.heap.size W (w1.alloc (.cells #[.int .i64 0, .slice none 0 0] 29))) := HB1.out.alloc HB1.out.size _
      have hka := HKS.out _ HBA.out
      refine hK.out _ _ hka (fun hHeld => ?_)
      clear hK K
      try simp only [Act.put, List.setIfInBounds_toArray, List.set_cons_zero, List.set_cons_succ]
      refine wpAnyH_ready (rs := [8]) (by kernel_rfl) (by simp) ?_
      refine AllReadyH.cons (o := { dst := none, op := Go.Op.store 29 (Go.Operand.tmp 6) (Go.Operand.tmp 13), type := 0, pos := "l04_graph.go:50", after := #[{ on := 7, ground := Go.Ground.data }, { on := 6, ground := Go.Ground.data }, { on := 5, ground := Go.Ground.chain }, { on := 0, ground := Go.Ground.phase }, { on := 1, ground := Go.Ground.phase }, { on := 2, ground := Go.Ground.phase }, { on := 3, ground := Go.Ground.phase }, { on := 4, ground := Go.Ground.phase }, { on := 5, ground := Go.Ground.phase }, { on := 6, ground := Go.Ground.phase }, { on := 7, ground := Go.Ground.phase }], guard := none }) rfl (fun K hK => ?_) ?_
      · go_simp
        have HBS : Hid (Below W.heap.size W (w1.alloc (.cells #[.int .i64 s, .slice a1 m1 cap1] 29))) := HB1.out.alloc HB1.out.size _
        have hks := HKS.out _ HBS.out
        have HT0 : Hid (Blk (w1.alloc (.cells #[.int .i64 s, .slice a1 m1 cap1] 29)) w1.heap.size 2 (fun i => if i = 0 then .int .i64 s else .slice a1 m1 cap1)) := blk_two w1 _ rfl _ _ _
        have HE0 : Hid (EdgesOwn W.heap.size w1.heap.size (w1.alloc (.cells #[.int .i64 s, .slice a1 m1 cap1] 29)) a1 PL) := HE1'.out.below (below1 w1 _) (Nat.le_refl _)
        have HSZ : Hid (w1.heap.size ≤ (w1.alloc (.cells #[.int .i64 s, .slice a1 m1 cap1] 29)).heap.size) := by show _ ≤ _; simp
        have HWP : Hid (W.heap.size ≤ w1.heap.size) := HB1.out.size
        refine hK.out _ _ hks (fun hHeld => ?_)
        clear hK K
        try simp only [Act.put, List.setIfInBounds_toArray, List.set_cons_zero, List.set_cons_succ]
        refine wpAnyH_done (by kernel_rfl) ?_ _
        clear hHeld
        obtain ⟨V, HV⟩ : ∃ V, Hid (V = (w1.alloc (.cells #[.int .i64 s, .slice a1 m1 cap1] 29))) := ⟨_, rfl⟩
        rw [← HV.out] at HBS HT0 HE0 HSZ
        obtain ⟨Lo, HLo⟩ : ∃ L, Hid (L = W.heap.size) := ⟨_, rfl⟩
        obtain ⟨Hi, HHi⟩ : ∃ L, Hid (L = w1.heap.size) := ⟨_, rfl⟩
        have HLo1 : Hid (W.heap.size ≤ Lo) := by rw [HLo.out]; show _ ≤ _; omega
        rw [← HLo.out, ← HHi.out] at HE0
        rw [← HHi.out] at HSZ
        obtain ⟨P, HP⟩ : ∃ P, Hid (P = w1.heap.size) := ⟨_, rfl⟩
        rw [← HP.out] at HT0
        have HWP' : Hid (W.heap.size ≤ P) := by rw [HP.out]; exact HWP.out
        go_upto_region 2 with fail
        rw [← HV.out, ← HP.out]
        clear HWP HV HP HLo HHi HB1 HE1' hk1
        have HG_V : Hid (Blk V B 2 (fun i => if i = 0 then .int .i64 s else .slice a n cap)) := HG.out.of_block (HBS.out.block _ HG.out.lt)
        have HR_V : Hid (Blk V (B + 1 + 1) 2 (fun i => if i = 0 then .int .i64 0 else .slice none 0 0)) := HR.out.of_block (HBS.out.block _ HR.out.lt)
        have HL_V : Hid (Below w.heap.size w V) := HL.out.trans (HBS.out.mono HL.out.size)
        obtain ⟨c0, c1⟩ := blk_pair_cells HG_V.out
        go_wp2_with fail
        refine (specGOk_any lo hi s a n cap l r V (HA.out.below HL_V.out HH.out) (Nat.le_trans HH.out HL_V.out.size) HN.out (by omega) HS.out).mono ?_
        rintro e w2 ⟨rfl, HB2⟩
        have HG_w2 : Hid (Blk w2 B 2 (fun i => if i = 0 then .int .i64 s else .slice a n cap)) := HG_V.out.of_block (HB2.out.block _ HG_V.out.lt)
        have HR_w2 : Hid (Blk w2 (B + 1 + 1) 2 (fun i => if i = 0 then .int .i64 0 else .slice none 0 0)) := HR_V.out.of_block (HB2.out.block _ HR_V.out.lt)
        have HL_w2 : Hid (Below w.heap.size w w2) := HL_V.out.trans (HB2.out.mono HL_V.out.size)
        have HT_w2 : Hid (Blk w2 P 2 (fun i => if i = 0 then .int .i64 s else .slice a1 m1 cap1)) := HT0.out.of_block (HB2.out.block _ HT0.out.lt)
        have HE_w2 : Hid (EdgesOwn Lo Hi w2 a1 PL) := HE0.out.below HB2.out HSZ.out
        have HSZ2 : Hid (Hi ≤ w2.heap.size) := Nat.le_trans HSZ.out HB2.out.size
        clear c0 c1 HB2 HG_V HR_V HL_V HT0 HE0 HSZ
        rcases Bool.eq_false_or_eq_true r with hs | hs
        · subst hs
          obtain ⟨z0, z1⟩ := blk_pair_cells HT_w2.out
          have hm1 : m1 ≤ 1048576 := by have h40 := (okG_size HS.out.symm).2.2; rw [HN.out] at h40; have := HPLN.out; have := HM1.out; omega
          go_wp2_with fail
          refine (specGOk_any Lo Hi s a1 m1 cap1 PL r2 w2 HE_w2.out.toIn HSZ2.out HM1.out hm1 HS2'.out).mono ?_
          rintro e w3 ⟨rfl, HB3⟩
          have HG_w3 : Hid (Blk w3 B 2 (fun i => if i = 0 then .int .i64 s else .slice a n cap)) := HG_w2.out.of_block (HB3.out.block _ HG_w2.out.lt)
          have HR_w3 : Hid (Blk w3 (B + 1 + 1) 2 (fun i => if i = 0 then .int .i64 0 else .slice none 0 0)) := HR_w2.out.of_block (HB3.out.block _ HR_w2.out.lt)
          have HL_w3 : Hid (Below w.heap.size w w3) := HL_w2.out.trans (HB3.out.mono HL_w2.out.size)
          have HT_w3 : Hid (Blk w3 P 2 (fun i => if i = 0 then .int .i64 s else .slice a1 m1 cap1)) := HT_w2.out.of_block (HB3.out.block _ HT_w2.out.lt)
          have HE_w3 : Hid (EdgesOwn Lo Hi w3 a1 PL) := HE_w2.out.below HB3.out HSZ2.out
          have HSZ3 : Hid (Hi ≤ w3.heap.size) := Nat.le_trans HSZ2.out HB3.out.size
          clear z0 z1 HB3 HG_w2 HR_w2 HL_w2 HT_w2 HE_w2 HSZ2
          rcases Bool.eq_false_or_eq_true r2 with h2 | h2
          · subst h2
            have HGO : Hid (true = gaddOk s l (x0, x1, x2)) := by show _ = _; rw [HGA.out.1]; rfl
            have HGL : Hid (gaddL s l (x0, x1, x2) = PL) := by show _ = _; rw [HGA.out.2]; rfl
            obtain ⟨z0, z1⟩ := blk_pair_cells HT_w3.out
            obtain ⟨r0, r1⟩ := blk_pair_cells HR_w3.out
            have rf0 := HR_w3.out.frozen 0
            have rf1 := HR_w3.out.frozen 1
            have hne : B + 1 + 1 ≠ P := by have := HLR.out; have := HWP'.out; omega
            have HLT : Hid (B + 1 + 1 < Lo) := by have := HLR.out; have := HLo1.out; show _ < _; omega
            go_wp2
            refine bodyPost_ret (v := .tuple #[.agg #[.int .i64 s, .slice a1 m1 cap1], .bool true]) (by simp [results, Try.results14, go_sem, r0, r1]) rfl ?_
            refine ⟨a1, m1, cap1, true, rfl, HGO.out, by show _ = _; rw [HGL.out]; exact HM1.out, ?_, ?_⟩
            · rw [HGL.out]
              have h := ((HE_w3.out.setCell (b := B + 1 + 1) (j := 0) HLT.out (.int .i64 s)).setCell (b := B + 1 + 1) (j := 1) HLT.out (.slice a1 m1 cap1))
              exact h.wide (by have := HB.out; have := HLT.out; omega) (by simpa using HSZ3.out)
            · exact (HL_w3.out.setCell (by rw [HB.out]; simp; omega) _).setCell (by rw [HB.out]; simp; omega) _
          · subst h2
            have HGO : Hid (false = gaddOk s l (x0, x1, x2)) := by show _ = _; rw [HGA.out.1]; rfl
            have HGL : Hid (gaddL s l (x0, x1, x2) = l) := by show _ = _; rw [HGA.out.2]; rfl
            obtain ⟨bc0, bc1⟩ := blk_pair_cells HG_w3.out
            go_wp2_with fail
            refine (l04Copy_any lo hi s a n cap l w3 (HA.out.below HL_w3.out HH.out) (Nat.le_trans HH.out HL_w3.out.size) HN.out (by omega)).mono ?_
            rintro e w9 ⟨a9, cap9, rfl, HO9, HB9⟩
            have HR9 : Hid (Blk w9 (B + 1 + 1) 2 (fun i => if i = 0 then .int .i64 0 else .slice none 0 0)) := HR_w3.out.of_block (HB9.out.block _ HR_w3.out.lt)
            have HE9 : Hid (EdgesOwn w3.heap.size w9.heap.size w9 a9 l) := own_in HO9.out HN.out
            have HL9 : Hid (Below w.heap.size w w9) := HL_w3.out.trans (HB9.out.mono HL_w3.out.size)
            obtain ⟨r0, r1⟩ := blk_pair_cells HR9.out
            have rf0 := HR9.out.frozen 0
            have rf1 := HR9.out.frozen 1
            have HLT : Hid (B + 1 + 1 < w3.heap.size) := HR_w3.out.lt
            clear bc0 bc1 HO9
            go_wp2
            refine bodyPost_ret (v := .tuple #[.agg #[.int .i64 s, .slice a9 n cap9], .bool false]) (by simp [results, Try.results14, go_sem, r0, r1]) rfl ?_
            refine ⟨a9, n, cap9, false, rfl, HGO.out, by show _ = _; rw [HGL.out]; exact HN.out, ?_, ?_⟩
            · rw [HGL.out]
              have h := ((HE9.out.setCell (b := B + 1 + 1) (j := 0) HLT.out (.int .i64 s)).setCell (b := B + 1 + 1) (j := 1) HLT.out (.slice a9 n cap9))
              exact h.wide HL_w3.out.size (by simp)
            · exact (HL9.out.setCell (by rw [HB.out]; simp; omega) _).setCell (by rw [HB.out]; simp; omega) _
        · subst hs
          have HGO : Hid (false = gaddOk s l (x0, x1, x2)) := by show _ = _; rw [HGA.out.1]; rfl
          have HGL : Hid (gaddL s l (x0, x1, x2) = l) := by show _ = _; rw [HGA.out.2]; rfl
          obtain ⟨bc0, bc1⟩ := blk_pair_cells HG_w2.out
          go_wp2_with fail
          refine (l04Copy_any lo hi s a n cap l w2 (HA.out.below HL_w2.out HH.out) (Nat.le_trans HH.out HL_w2.out.size) HN.out (by omega)).mono ?_
          rintro e w9 ⟨a9, cap9, rfl, HO9, HB9⟩
          have HR9 : Hid (Blk w9 (B + 1 + 1) 2 (fun i => if i = 0 then .int .i64 0 else .slice none 0 0)) := HR_w2.out.of_block (HB9.out.block _ HR_w2.out.lt)
          have HE9 : Hid (EdgesOwn w2.heap.size w9.heap.size w9 a9 l) := own_in HO9.out HN.out
          have HL9 : Hid (Below w.heap.size w w9) := HL_w2.out.trans (HB9.out.mono HL_w2.out.size)
          obtain ⟨r0, r1⟩ := blk_pair_cells HR9.out
          have rf0 := HR9.out.frozen 0
          have rf1 := HR9.out.frozen 1
          have HLT : Hid (B + 1 + 1 < w2.heap.size) := HR_w2.out.lt
          clear bc0 bc1 HO9
          go_wp2
          refine bodyPost_ret (v := .tuple #[.agg #[.int .i64 s, .slice a9 n cap9], .bool false]) (by simp [results, Try.results14, go_sem, r0, r1]) rfl ?_
          refine ⟨a9, n, cap9, false, rfl, HGO.out, by show _ = _; rw [HGL.out]; exact HN.out, ?_, ?_⟩
          · rw [HGL.out]
            have h := ((HE9.out.setCell (b := B + 1 + 1) (j := 0) HLT.out (.int .i64 s)).setCell (b := B + 1 + 1) (j := 1) HLT.out (.slice a9 n cap9))
            exact h.wide HL_w2.out.size (by simp)
          · exact (HL9.out.setCell (by rw [HB.out]; simp; omega) _).setCell (by rw [HB.out]; simp; omega) _
      exact AllReadyH.nil
    exact AllReadyH.nil
  refine AllReadyH.cons (o := { dst := some 6, op := Go.Op.alloc 29, type := 0, pos := "l04_graph.go:50", after := #[], guard := none }) rfl (fun K hK => ?_) ?_
  · go_simp
    have HBA : Hid (Below W.heap.size W ((W.alloc (.cells #[.int .i64 0, .slice none 0 0] 29)).drew)) := ((Below.refl W.heap.size W).drew).alloc (Nat.le_refl _) _
    have hka := HKS.out _ HBA.out
    have HPA : Hid (Blk ((W.alloc (.cells #[.int .i64 0, .slice none 0 0] 29)).drew) W.heap.size 2 (fun i => if i = 0 then .int .i64 0 else .slice none 0 0)) := blk_two W _ rfl _ _ _
    refine hK.out _ _ hka (fun hHeld => ?_)
    clear hK K
    try simp only [Act.put, List.setIfInBounds_toArray, List.set_cons_zero, List.set_cons_succ]
    refine wpAnyH_ready (rs := [5]) (by kernel_rfl) (by simp) ?_
    refine AllReadyH.cons (o := { dst := some 12, op := Go.Op.call { callee := Go.Callee.value (Go.Operand.func 37), args := #[Go.Operand.tmp 10, Go.Operand.tmp 11], argTypes := #[27, 37] }, type := 27, pos := "l04_graph.go:50", after := #[{ on := 3, ground := Go.Ground.data }, { on := 4, ground := Go.Ground.data }], guard := none }) rfl (fun K hK => ?_) ?_
    · go_simp
      go_wp2_with (go_at_call 37; refine (HPUT.out _ (HL.out.trans ((HBA.out).mono HL.out.size))).mono ?_; rintro e w1 ⟨a1, m1, cap1, rfl, HM1, HE1, C1⟩)
      have HB1 : Hid (Below W.heap.size W w1) := (HBA.out).trans (C1.out.mono (HBA.out).size)
      have hk1 := HKS.out _ HB1.out
      have HP1 : Hid (Blk w1 W.heap.size 2 (fun i => if i = 0 then .int .i64 0 else .slice none 0 0)) := HPA.out.of_block (C1.out.block _ HPA.out.lt)
      have HE1' : Hid (EdgesOwn (W.heap.size + 1) w1.heap.size w1 a1 PL) := by have h := HE1.out; rw [show ((W.alloc (.cells #[.int .i64 0, .slice none 0 0] 29)).drew).heap.size = W.heap.size + 1 from World.size_alloc ..] at h; exact h
      clear HE1 C1
      refine hK.out _ _ hk1 (fun hHeld => ?_)
      clear hK K
      try simp only [Act.put, List.setIfInBounds_toArray, List.set_cons_zero, List.set_cons_succ]
      refine wpAnyH_take (i := 6) (oi := { dst := some 13, op := Go.Op.build 29 #[(0, Go.Operand.tmp 8), (1, Go.Operand.tmp 12)], type := 29, pos := "l04_graph.go:50", after := #[{ on := 1, ground := Go.Ground.data }, { on := 5, ground := Go.Ground.data }], guard := none }) (v := ?_) rfl (by kernel_rfl) (by kernel_rfl) (by kernel_rfl) (fun _ _ _ h => h) (Or.inl ⟨by kernel_rfl, ?_⟩) (by assumption) ?_
      rotate_left
      · intro w hSw; (try dsimp only at hSw); go_simp; try with_reducible rfl
      simp only [Act.put, List.setIfInBounds_toArray, List.set_cons_zero, List.set_cons_succ]
      refine wpAnyH_ready (rs := [8]) (by kernel_rfl) (by simp) ?_
      refine AllReadyH.cons (o := { dst := none, op := Go.Op.store 29 (Go.Operand.tmp 6) (Go.Operand.tmp 13), type := 0, pos := "l04_graph.go:50", after := #[{ on := 7, ground := Go.Ground.data }, { on := 6, ground := Go.Ground.data }, { on := 5, ground := Go.Ground.chain }, { on := 0, ground := Go.Ground.phase }, { on := 1, ground := Go.Ground.phase }, { on := 2, ground := Go.Ground.phase }, { on := 3, ground := Go.Ground.phase }, { on := 4, ground := Go.Ground.phase }, { on := 5, ground := Go.Ground.phase }, { on := 6, ground := Go.Ground.phase }, { on := 7, ground := Go.Ground.phase }], guard := none }) rfl (fun K hK => ?_) ?_
      · obtain ⟨z0, z1⟩ := blk_pair_cells HP1.out
        have zf0 := HP1.out.frozen 0
        have zf1 := HP1.out.frozen 1
        go_simp
        have HBS : Hid (Below W.heap.size W ((w1.setCell ⟨W.heap.size, 0, none⟩ (.int .i64 s)).setCell ⟨W.heap.size, 1, none⟩ (.slice a1 m1 cap1))) := (HB1.out.setCell (Nat.le_refl _) _).setCell (Nat.le_refl _) _
        have hks := HKS.out _ HBS.out
        have HT0 : Hid (Blk ((w1.setCell ⟨W.heap.size, 0, none⟩ (.int .i64 s)).setCell ⟨W.heap.size, 1, none⟩ (.slice a1 m1 cap1)) W.heap.size 2 (fun i => if i = 0 then .int .i64 s else .slice a1 m1 cap1)) := ((HP1.out.set 0 (by omega) _).set 1 (by omega) _).congr (fun i hi => by rcases (show i = 0 ∨ i = 1 by omega) with rfl | rfl <;> simp)
        have HE0 : Hid (EdgesOwn (W.heap.size + 1) w1.heap.size ((w1.setCell ⟨W.heap.size, 0, none⟩ (.int .i64 s)).setCell ⟨W.heap.size, 1, none⟩ (.slice a1 m1 cap1)) a1 PL) := (HE1'.out.setCell (Nat.lt_succ_self _) _).setCell (Nat.lt_succ_self _) _
        have HSZ : Hid (w1.heap.size ≤ ((w1.setCell ⟨W.heap.size, 0, none⟩ (.int .i64 s)).setCell ⟨W.heap.size, 1, none⟩ (.slice a1 m1 cap1)).heap.size) := by show _ ≤ _; simp
        have HWP : Hid (W.heap.size ≤ W.heap.size) := Nat.le_refl _
        refine hK.out _ _ hks (fun hHeld => ?_)
        clear hK K
        try simp only [Act.put, List.setIfInBounds_toArray, List.set_cons_zero, List.set_cons_succ]
        refine wpAnyH_done (by kernel_rfl) ?_ _
        clear hHeld
        obtain ⟨V, HV⟩ : ∃ V, Hid (V = ((w1.setCell ⟨W.heap.size, 0, none⟩ (.int .i64 s)).setCell ⟨W.heap.size, 1, none⟩ (.slice a1 m1 cap1))) := ⟨_, rfl⟩
        rw [← HV.out] at HBS HT0 HE0 HSZ
        obtain ⟨Lo, HLo⟩ : ∃ L, Hid (L = (W.heap.size + 1)) := ⟨_, rfl⟩
        obtain ⟨Hi, HHi⟩ : ∃ L, Hid (L = w1.heap.size) := ⟨_, rfl⟩
        have HLo1 : Hid (W.heap.size ≤ Lo) := by rw [HLo.out]; show _ ≤ _; omega
        rw [← HLo.out, ← HHi.out] at HE0
        rw [← HHi.out] at HSZ
        obtain ⟨P, HP⟩ : ∃ P, Hid (P = W.heap.size) := ⟨_, rfl⟩
        rw [← HP.out] at HT0
        have HWP' : Hid (W.heap.size ≤ P) := by rw [HP.out]; exact HWP.out
        go_upto_region 2 with fail
        rw [← HV.out, ← HP.out]
        clear HWP HV HP HLo HHi HB1 HE1' hk1
        have HG_V : Hid (Blk V B 2 (fun i => if i = 0 then .int .i64 s else .slice a n cap)) := HG.out.of_block (HBS.out.block _ HG.out.lt)
        have HR_V : Hid (Blk V (B + 1 + 1) 2 (fun i => if i = 0 then .int .i64 0 else .slice none 0 0)) := HR.out.of_block (HBS.out.block _ HR.out.lt)
        have HL_V : Hid (Below w.heap.size w V) := HL.out.trans (HBS.out.mono HL.out.size)
        obtain ⟨c0, c1⟩ := blk_pair_cells HG_V.out
        go_wp2_with fail
        refine (specGOk_any lo hi s a n cap l r V (HA.out.below HL_V.out HH.out) (Nat.le_trans HH.out HL_V.out.size) HN.out (by omega) HS.out).mono ?_
        rintro e w2 ⟨rfl, HB2⟩
        have HG_w2 : Hid (Blk w2 B 2 (fun i => if i = 0 then .int .i64 s else .slice a n cap)) := HG_V.out.of_block (HB2.out.block _ HG_V.out.lt)
        have HR_w2 : Hid (Blk w2 (B + 1 + 1) 2 (fun i => if i = 0 then .int .i64 0 else .slice none 0 0)) := HR_V.out.of_block (HB2.out.block _ HR_V.out.lt)
        have HL_w2 : Hid (Below w.heap.size w w2) := HL_V.out.trans (HB2.out.mono HL_V.out.size)
        have HT_w2 : Hid (Blk w2 P 2 (fun i => if i = 0 then .int .i64 s else .slice a1 m1 cap1)) := HT0.out.of_block (HB2.out.block _ HT0.out.lt)
        have HE_w2 : Hid (EdgesOwn Lo Hi w2 a1 PL) := HE0.out.below HB2.out HSZ.out
        have HSZ2 : Hid (Hi ≤ w2.heap.size) := Nat.le_trans HSZ.out HB2.out.size
        clear c0 c1 HB2 HG_V HR_V HL_V HT0 HE0 HSZ
        rcases Bool.eq_false_or_eq_true r with hs | hs
        · subst hs
          obtain ⟨z0, z1⟩ := blk_pair_cells HT_w2.out
          have hm1 : m1 ≤ 1048576 := by have h40 := (okG_size HS.out.symm).2.2; rw [HN.out] at h40; have := HPLN.out; have := HM1.out; omega
          go_wp2_with fail
          refine (specGOk_any Lo Hi s a1 m1 cap1 PL r2 w2 HE_w2.out.toIn HSZ2.out HM1.out hm1 HS2'.out).mono ?_
          rintro e w3 ⟨rfl, HB3⟩
          have HG_w3 : Hid (Blk w3 B 2 (fun i => if i = 0 then .int .i64 s else .slice a n cap)) := HG_w2.out.of_block (HB3.out.block _ HG_w2.out.lt)
          have HR_w3 : Hid (Blk w3 (B + 1 + 1) 2 (fun i => if i = 0 then .int .i64 0 else .slice none 0 0)) := HR_w2.out.of_block (HB3.out.block _ HR_w2.out.lt)
          have HL_w3 : Hid (Below w.heap.size w w3) := HL_w2.out.trans (HB3.out.mono HL_w2.out.size)
          have HT_w3 : Hid (Blk w3 P 2 (fun i => if i = 0 then .int .i64 s else .slice a1 m1 cap1)) := HT_w2.out.of_block (HB3.out.block _ HT_w2.out.lt)
          have HE_w3 : Hid (EdgesOwn Lo Hi w3 a1 PL) := HE_w2.out.below HB3.out HSZ2.out
          have HSZ3 : Hid (Hi ≤ w3.heap.size) := Nat.le_trans HSZ2.out HB3.out.size
          clear z0 z1 HB3 HG_w2 HR_w2 HL_w2 HT_w2 HE_w2 HSZ2
          rcases Bool.eq_false_or_eq_true r2 with h2 | h2
          · subst h2
            have HGO : Hid (true = gaddOk s l (x0, x1, x2)) := by show _ = _; rw [HGA.out.1]; rfl
            have HGL : Hid (gaddL s l (x0, x1, x2) = PL) := by show _ = _; rw [HGA.out.2]; rfl
            obtain ⟨z0, z1⟩ := blk_pair_cells HT_w3.out
            obtain ⟨r0, r1⟩ := blk_pair_cells HR_w3.out
            have rf0 := HR_w3.out.frozen 0
            have rf1 := HR_w3.out.frozen 1
            have hne : B + 1 + 1 ≠ P := by have := HLR.out; have := HWP'.out; omega
            have HLT : Hid (B + 1 + 1 < Lo) := by have := HLR.out; have := HLo1.out; show _ < _; omega
            go_wp2
            refine bodyPost_ret (v := .tuple #[.agg #[.int .i64 s, .slice a1 m1 cap1], .bool true]) (by simp [results, Try.results14, go_sem, r0, r1]) rfl ?_
            refine ⟨a1, m1, cap1, true, rfl, HGO.out, by show _ = _; rw [HGL.out]; exact HM1.out, ?_, ?_⟩
            · rw [HGL.out]
              have h := ((HE_w3.out.setCell (b := B + 1 + 1) (j := 0) HLT.out (.int .i64 s)).setCell (b := B + 1 + 1) (j := 1) HLT.out (.slice a1 m1 cap1))
              exact h.wide (by have := HB.out; have := HLT.out; omega) (by simpa using HSZ3.out)
            · exact (HL_w3.out.setCell (by rw [HB.out]; simp; omega) _).setCell (by rw [HB.out]; simp; omega) _
          · subst h2
            have HGO : Hid (false = gaddOk s l (x0, x1, x2)) := by show _ = _; rw [HGA.out.1]; rfl
            have HGL : Hid (gaddL s l (x0, x1, x2) = l) := by show _ = _; rw [HGA.out.2]; rfl
            obtain ⟨bc0, bc1⟩ := blk_pair_cells HG_w3.out
            go_wp2_with fail
            refine (l04Copy_any lo hi s a n cap l w3 (HA.out.below HL_w3.out HH.out) (Nat.le_trans HH.out HL_w3.out.size) HN.out (by omega)).mono ?_
            rintro e w9 ⟨a9, cap9, rfl, HO9, HB9⟩
            have HR9 : Hid (Blk w9 (B + 1 + 1) 2 (fun i => if i = 0 then .int .i64 0 else .slice none 0 0)) := HR_w3.out.of_block (HB9.out.block _ HR_w3.out.lt)
            have HE9 : Hid (EdgesOwn w3.heap.size w9.heap.size w9 a9 l) := own_in HO9.out HN.out
            have HL9 : Hid (Below w.heap.size w w9) := HL_w3.out.trans (HB9.out.mono HL_w3.out.size)
            obtain ⟨r0, r1⟩ := blk_pair_cells HR9.out
            have rf0 := HR9.out.frozen 0
            have rf1 := HR9.out.frozen 1
            have HLT : Hid (B + 1 + 1 < w3.heap.size) := HR_w3.out.lt
            clear bc0 bc1 HO9
            go_wp2
            refine bodyPost_ret (v := .tuple #[.agg #[.int .i64 s, .slice a9 n cap9], .bool false]) (by simp [results, Try.results14, go_sem, r0, r1]) rfl ?_
            refine ⟨a9, n, cap9, false, rfl, HGO.out, by show _ = _; rw [HGL.out]; exact HN.out, ?_, ?_⟩
            · rw [HGL.out]
              have h := ((HE9.out.setCell (b := B + 1 + 1) (j := 0) HLT.out (.int .i64 s)).setCell (b := B + 1 + 1) (j := 1) HLT.out (.slice a9 n cap9))
              exact h.wide HL_w3.out.size (by simp)
            · exact (HL9.out.setCell (by rw [HB.out]; simp; omega) _).setCell (by rw [HB.out]; simp; omega) _
        · subst hs
          have HGO : Hid (false = gaddOk s l (x0, x1, x2)) := by show _ = _; rw [HGA.out.1]; rfl
          have HGL : Hid (gaddL s l (x0, x1, x2) = l) := by show _ = _; rw [HGA.out.2]; rfl
          obtain ⟨bc0, bc1⟩ := blk_pair_cells HG_w2.out
          go_wp2_with fail
          refine (l04Copy_any lo hi s a n cap l w2 (HA.out.below HL_w2.out HH.out) (Nat.le_trans HH.out HL_w2.out.size) HN.out (by omega)).mono ?_
          rintro e w9 ⟨a9, cap9, rfl, HO9, HB9⟩
          have HR9 : Hid (Blk w9 (B + 1 + 1) 2 (fun i => if i = 0 then .int .i64 0 else .slice none 0 0)) := HR_w2.out.of_block (HB9.out.block _ HR_w2.out.lt)
          have HE9 : Hid (EdgesOwn w2.heap.size w9.heap.size w9 a9 l) := own_in HO9.out HN.out
          have HL9 : Hid (Below w.heap.size w w9) := HL_w2.out.trans (HB9.out.mono HL_w2.out.size)
          obtain ⟨r0, r1⟩ := blk_pair_cells HR9.out
          have rf0 := HR9.out.frozen 0
          have rf1 := HR9.out.frozen 1
          have HLT : Hid (B + 1 + 1 < w2.heap.size) := HR_w2.out.lt
          clear bc0 bc1 HO9
          go_wp2
          refine bodyPost_ret (v := .tuple #[.agg #[.int .i64 s, .slice a9 n cap9], .bool false]) (by simp [results, Try.results14, go_sem, r0, r1]) rfl ?_
          refine ⟨a9, n, cap9, false, rfl, HGO.out, by show _ = _; rw [HGL.out]; exact HN.out, ?_, ?_⟩
          · rw [HGL.out]
            have h := ((HE9.out.setCell (b := B + 1 + 1) (j := 0) HLT.out (.int .i64 s)).setCell (b := B + 1 + 1) (j := 1) HLT.out (.slice a9 n cap9))
            exact h.wide HL_w2.out.size (by simp)
          · exact (HL9.out.setCell (by rw [HB.out]; simp; omega) _).setCell (by rw [HB.out]; simp; omega) _
      exact AllReadyH.nil
    exact AllReadyH.nil
  exact AllReadyH.nil
end Go.Proofs.Ytfeimdlkpiacoaa
