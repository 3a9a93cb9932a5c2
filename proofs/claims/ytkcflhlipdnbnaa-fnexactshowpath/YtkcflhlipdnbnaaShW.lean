/-
  impl.ShowPath: the texts of the pieces, one behind the other.
-/
import Derived.Test.YtkcflhlipdnbnaaShK
import Derived.Test.YtkcflhlipdnbnaaShpB
import Derived.Test.YtkcflhlipdnbnaaGCln
namespace Go.Proofs.Ytkcflhlipdnbnaa
open Go.RowKit

set_option maxHeartbeats 4000000 in
set_option maxRecDepth 100000 in
theorem showPath_any (lo hi : Nat) (a : Option Addr) (n cap : Nat) (l : List Pc) (t : Tx) (r : Bool) (w : World) (ha : PathIn lo hi w a l) (hh : hi ≤ w.heap.size) (hn : l.length = n) (hm : n ≤ 1048576) (hq : ∀ i, i < n → (pat l i).2.2.length ≤ 1048576) (ht : t = showT l) (hr : r = decide (¬ t = emT)) :
    Calls Try.prog 31 #[pv a n cap] w fun e w' => e = .returned (.tuple #[.string t, .bool r]) ∧ Hid (Below w.heap.size w w') := by
  obtain ⟨i9, hi9, hz90, hz91, hz92⟩ := info_parts info9s
  have HN : Hid (l.length = n) := hn
  have HA : Hid (PathIn lo hi w a l) := ha
  have HH : Hid (hi ≤ w.heap.size) := hh
  have HQ : Hid (∀ i, i < n → (pat l i).2.2.length ≤ 1048576) := hq
  have HT : Hid (t = showT l) := ht
  have HRR : Hid (r = decide (¬ t = emT)) := hr
  clear ha hh hn hq ht hr
  unfold pv
  go_enter Try.func31, Try.ntmps31
  go_wp2_with fail
  refine (pathOk_any lo hi a n cap l _ _ (HA.out.below (below1 w _) HH.out) (by have := HH.out; simp; omega) HN.out hm HQ.out rfl).mono ?_
  rintro e w1 ⟨rfl, HB1⟩
  obtain ⟨o, HO⟩ : ∃ o, Hid (o = okP l) := ⟨_, rfl⟩
  rw [← HO.out]
  have HBW : Hid (Below w.heap.size w w1) := (below1 w _).trans (HB1.out.mono (by simp))
  have c0 := cell_below (cell_new1 w (.slice a n cap) 34 _ rfl) HB1.out (by simp)
  have HLT : Hid (w.heap.size < w1.heap.size) := by have := HB1.out.size; simp at this; show _ < _; omega
  obtain ⟨B, HB⟩ : ∃ B, Hid (B = w.heap.size) := ⟨_, rfl⟩
  obtain ⟨C, HC⟩ : ∃ C, Hid (C = w1.heap.size) := ⟨_, rfl⟩
  rw [← HB.out] at c0
  rw [← HB.out]
  rcases Bool.eq_false_or_eq_true o with ho | ho
  · subst ho
    obtain ⟨h1, h2, h3⟩ := okP_parts HO.out.symm
    rw [HN.out] at h1 h2 h3
    have HOK : Hid (∀ i, i < n → formOk (pat l i) = true ∧ kidsOk i (pat l i).2.2 = true) := h3
    clear h3
    obtain ⟨m, rfl⟩ : ∃ k, n = k + 1 := ⟨n - 1, by omega⟩
    have hk1 : ((m + 1 : Nat) : Int) - 1 = (m : Int) := by omega
    have HTT : Hid (t = oneT l m) := by show _ = _; rw [HT.out]; unfold showT; rw [if_pos HO.out.symm, HN.out]; rfl
    obtain ⟨U, HU⟩ : ∃ U, Hid (U = w1.alloc (.cells #[.slice a (m + 1) cap, .slice none 0 0] 118)) := ⟨_, rfl⟩
    have HCB : Hid (Blk U C 2 (fun i => if i = 0 then .slice a (m + 1) cap else .slice none 0 0)) := by rw [HU.out]; exact blk_two w1 C HC.out _ _ _
    have HBU : Hid (Below C w1 U) := by rw [HU.out, HC.out]; exact below1 w1 _
    have HSU : Hid (U.heap.size = C + 1) := by rw [HU.out, HC.out]; show _ = _; simp
    have c0U := cell_below c0 HBU.out (by rw [HB.out, HC.out]; exact HLT.out)
    have HAW : Hid (PathIn lo hi w1 a l) := HA.out.below HBW.out HH.out
    have HHC : Hid (hi ≤ C ∧ B < C ∧ w.heap.size ≤ C) := by rw [HC.out, HB.out]; exact ⟨Nat.le_trans HH.out HBW.out.size, HLT.out, HBW.out.size⟩
    have HO0 : Hid (U.ownsRow (C + 1) 9 1 (.slice none 0 0) 0 (strC [])) := ⟨rfl, .inl ⟨rfl, rfl⟩⟩
    go_upto_region 4 with fail
    rw [← HC.out]
    first | rw [← HU.out] | (rw [show _ = U from HU.out.symm])
    clear HU
    go_wp2
    clear c0U
    go_loopw [17] (fun i wr => ∃ (k : Nat) (v3 : Value), i = .int .i64 (k : Int) ∧ k ≤ m + 1 ∧ Hid (Blk wr C 2 (fun i => if i = 0 then .slice a (m + 1) cap else v3)) ∧ Hid (wr.ownsRow (C + 1) 9 1 v3 k (strC (shT l k))) ∧ Hid (Below C w1 wr) ∧ Hid (C + 1 ≤ wr.heap.size)) (fun i _ => m + 1 - (intOf i).toNat)
    case atStart => exact ⟨0, _, rfl, by omega, HCB, HO0, HBU, by rw [HSU.out]; exact Nat.le_refl _⟩
    case round =>
      obtain ⟨k, v3, rfl, hk, HBX, HOW, HBR, HSZ⟩ := hrel
      obtain ⟨ao, cc, rfl, hfl⟩ := own_texts HOW.out (shT_len l k)
      by_cases hlt : k < m + 1
      · have hlt1 : (k : Int) < ((m + 1 : Nat) : Int) := by omega
        have hlt1' : (k : Int) < (m : Int) + 1 := by omega
        have hlt0 : (0 : Int) ≤ (k : Int) := by omega
        have HAR : Hid (PathIn lo hi wr a l) := HAW.out.below HBR.out HHC.out.1
        obtain ⟨bb, oo, rfl, _, hbh, p0, p1, ra, rc, p2, hrow⟩ := HAR.out.piece (k := k) (by rw [HN.out]; exact hlt)
        have hfk := HOK.out k hlt
        have hqk := HQ.out k hlt
        have hone : oneT l k = pcT (shT l k) l (pat l k) := rfl
        obtain ⟨x, HX⟩ : ∃ x, Hid (x = pat l k) := ⟨_, rfl⟩
        rw [← HX.out] at p0 p1 p2 hrow hfk hqk hone
        obtain ⟨x0, x1, ks⟩ := x
        dsimp only at p0 p1 p2 hrow hfk hqk
        obtain ⟨q, HQL⟩ : ∃ q, Hid (ks.length = q) := ⟨_, rfl⟩
        rw [HQL.out] at p2 hqk
        obtain ⟨y, HY⟩ : ∃ y, Hid (y = oneT l k) := ⟨_, rfl⟩
        obtain ⟨P, HP⟩ : ∃ P, Hid (P = wr.heap.size) := ⟨_, rfl⟩
        obtain ⟨V, HV⟩ : ∃ V, Hid (V = wr.alloc (.cells #[.int .i64 x0, .int .u8 x1, .slice ra q rc] 120)) := ⟨_, rfl⟩
        have HBV : Hid (Below P wr V) := by rw [HV.out, HP.out]; exact below1 wr _
        have HSV : Hid (V.heap.size = P + 1) := by rw [HV.out, HP.out]; show _ = _; simp
        have HPC : Hid (C + 1 ≤ P ∧ bb < hi) := by rw [HP.out]; exact ⟨HSZ.out, hbh⟩
        have HXB : Hid (Blk V P 3 (fun i => if i = 0 then .int .i64 x0 else if i = 1 then .int .u8 x1 else .slice ra q rc)) := by rw [HV.out]; exact blk_three wr P HP.out _ _ _ _
        have HCV : Hid (Blk V C 2 (fun i => if i = 0 then .slice (some ⟨bb, oo, none⟩) (m + 1) cap else .slice ao k cc)) := HBX.out.of_block (HBV.out.block _ (by have := HPC.out; omega))
        have HCX : Hid (∀ z, Below (P + 1) V z → z.cell? ⟨C, 0, none⟩ = some (.slice (some ⟨bb, oo, none⟩) (m + 1) cap) ∧ z.cell? ⟨C, 1, none⟩ = some (.slice ao k cc) ∧ z.cell? ⟨P, 0, none⟩ = some (.int .i64 x0) ∧ z.cell? ⟨P, 1, none⟩ = some (.int .u8 x1) ∧ z.cell? ⟨P, 2, none⟩ = some (.slice ra q rc)) := fun z h => by
          have h1 := HCV.out.of_block (h.block _ (by have := HPC.out; omega))
          have h2 := HXB.out.of_block (h.block _ (by omega))
          exact ⟨h1.cell (i := 0) (by omega), h1.cell (i := 1) (by omega), h2.cell (i := 0) (by omega), h2.cell (i := 1) (by omega), h2.cell (i := 2) (by omega)⟩
        have HOV : Hid (V.ownsRow (C + 1) 9 1 (.slice ao k cc) k (strC (shT l k))) := own_below HOW.out (by rw [← HP.out]; exact HBV.out)
        have HCC : Hid (∀ w0, Below (P + 1) V w0 → Calls Try.prog 72 #[.agg #[.slice (some ⟨bb, oo, none⟩) (m + 1) cap, .slice ao k cc], .agg #[.int .i64 x0, .int .u8 x1, .slice ra q rc]] w0 fun e w' => e = .returned (.string y) ∧ Hid (Below w0.heap.size w0 w')) := fun w0 h => by
          have h9 : Below P wr w0 := HBV.out.trans (h.mono (by omega))
          have h8 : Below wr.heap.size wr w0 := by rw [← HP.out]; exact h9
          exact text_any lo hi (C + 1) wr.heap.size (some ⟨bb, oo, none⟩) (m + 1) cap l ao k cc (shT l k) x0 x1 ra q rc ks y w0 (HAR.out.below h9 (by have := HHC.out; have := HPC.out; omega)) (by have := HHC.out; have := HPC.out; have := h9.size; have := HP.out; omega) HN.out (by omega) (hfl.toIn.below h8 (Nat.le_refl _)) h8.size (hrow.below h9 (by have := HHC.out; have := HPC.out; omega)) HQL.out hqk hfk.2 hfk.1 (fun z hz => by rw [shT_at l hz]; exact oneT_le l z) (by rw [HY.out, hone])
        have HSH : Hid (strC (shT l (k + 1)) = strC (shT l k) ++ [.string y]) := by show _ = _; rw [HY.out, ← strC_snoc]; rfl
        have HNP0 : Hid (¬ (Value.slice ao k cc).ownBlock = some P) := fun h => by have := (HOW.out.lt P h).2; have := HP.out; omega
        clear hfk hqk hone hrow hbh hfl HX
        go_upto_region 7 with fail
        rw [← HP.out]
        first | rw [← HV.out] | (rw [show _ = V from HV.out.symm])
        clear HV p0 p1 p2
        have HBD : Hid (Below (P + 1) V V.drew) := (Below.refl _ _).drew
        obtain ⟨d0, d1, d2, d3, d4⟩ := HCX.out _ HBD.out
        refine wp_region_held_drew (S := fun wz => wz.cell? ⟨P, 0, none⟩ = some (.int .i64 x0) ∧ wz.cell? ⟨P, 1, none⟩ = some (.int .u8 x1) ∧ wz.cell? ⟨P, 2, none⟩ = some (.slice ra q rc)) (by kernel_rfl) ⟨d2, d3, d4⟩ (fun hHeld => ?_)
        refine wpAnyH_take (i := 0) (oi := { dst := some 21, op := Go.Op.fieldAddr 118 (Go.Operand.tmp 4) 1, type := 0, pos := "l08_query.go:146", after := #[], guard := none }) (v := ?_) rfl (by kernel_rfl) (by kernel_rfl) (by kernel_rfl) (fun _ _ _ h => h) (Or.inl ⟨by kernel_rfl, ?_⟩) (by assumption) ?_
        rotate_left
        · intro w hSw; (try dsimp only at hSw); go_simp; try with_reducible rfl
        simp only [Act.put, List.setIfInBounds_toArray, List.set_cons_zero, List.set_cons_succ]
        refine wpAnyH_take (i := 3) (oi := { dst := some 24, op := Go.Op.load 120 (Go.Operand.tmp 6), type := 120, pos := "l08_query.go:146", after := #[], guard := none }) (v := ?_) rfl (by kernel_rfl) (by kernel_rfl) (by kernel_rfl) (fun _ _ _ h => h) (Or.inl ⟨by kernel_rfl, ?_⟩) (by assumption) ?_
        rotate_left
        · intro w hSw; (try dsimp only at hSw); go_simp; try with_reducible rfl
        simp only [Act.put, List.setIfInBounds_toArray, List.set_cons_zero, List.set_cons_succ]
        refine wpAnyH_ready (rs := [1, 2]) (by kernel_rfl) (by simp) ?_
        refine AllReadyH.cons (o := { dst := some 22, op := Go.Op.load 42 (Go.Operand.tmp 21), type := 42, pos := "l08_query.go:146", after := #[{ on := 0, ground := Go.Ground.data }], guard := none }) rfl (fun K hK => ?_) ?_
        · go_simp
          refine hK.out _ _ ⟨d2, d3, d4⟩ (fun hHeld => ?_)
          clear hK K
          try simp only [Act.put, List.setIfInBounds_toArray, List.set_cons_zero, List.set_cons_succ]
          refine wpAnyH_ready (rs := [2]) (by kernel_rfl) (by simp) ?_
          refine AllReadyH.cons (o := { dst := some 23, op := Go.Op.load 118 (Go.Operand.tmp 4), type := 118, pos := "l08_query.go:146", after := #[], guard := none }) rfl (fun K hK => ?_) ?_
          · go_simp
            refine hK.out _ _ ⟨d2, d3, d4⟩ (fun hHeld => ?_)
            clear hK K
            try simp only [Act.put, List.setIfInBounds_toArray, List.set_cons_zero, List.set_cons_succ]
            refine wpAnyH_ready (rs := [4]) (by kernel_rfl) (by simp) ?_
            refine AllReadyH.cons (o := { dst := some 25, op := Go.Op.call { callee := Go.Callee.value (Go.Operand.func 72), args := #[Go.Operand.tmp 23, Go.Operand.tmp 24], argTypes := #[118, 120] }, type := 9, pos := "l08_query.go:146", after := #[{ on := 2, ground := Go.Ground.data }, { on := 3, ground := Go.Ground.data }], guard := none }) rfl (fun K hK => ?_) ?_
            · go_wp2_with (go_at_call 72; refine (HCC.out _ HBD.out).mono ?_; rintro e w4 ⟨rfl, HB4⟩)
              have HB4V : Hid (Below (P + 1) V w4) := HBD.out.trans (HB4.out.mono (by rw [← HSV.out]; exact HBD.out.size))
              clear d0 d1 d2 d3 d4
              obtain ⟨e0, e1, e2, e3, e4⟩ := HCX.out _ HB4V.out
              refine hK.out _ _ ⟨e2, e3, e4⟩ (fun hHeld => ?_)
              clear hK K
              try simp only [Act.put, List.setIfInBounds_toArray, List.set_cons_zero, List.set_cons_succ]
              refine wpAnyH_ready (rs := [5]) (by kernel_rfl) (by simp) ?_
              refine AllReadyH.cons (o := { dst := some 26, op := Go.Op.buildSlice 42 1 #[(0, Go.Operand.tmp 25)], type := 42, pos := "l08_query.go:146", after := #[{ on := 4, ground := Go.Ground.data }], guard := none }) rfl (fun K hK => ?_) ?_
              · have HB5 : Hid (Below (P + 1) V (w4.alloc (.cells #[.string y] 9))) := HB4V.out.alloc (by rw [← HSV.out]; exact HB4V.out.size) _
                obtain ⟨f0, f1, f2, f3, f4⟩ := HCX.out _ HB5.out
                have hown := (own_below HOV.out (by rw [HSV.out]; exact HB4V.out)).alloc (.cells #[.string y] 9)
                have hbase : C + 1 ≤ (w4.alloc (.cells #[.string y] 9)).heap.size := by have := HB5.out.size; have := HSV.out; have := HPC.out; omega
                go_simp
                refine hK.out _ _ ⟨f2, f3, f4⟩ (fun hHeld => ?_)
                clear hK K
                try simp only [Act.put, List.setIfInBounds_toArray, List.set_cons_zero, List.set_cons_succ]
                refine wpAnyH_ready (rs := [6]) (by kernel_rfl) (by simp) ?_
                refine AllReadyH.cons (o := { dst := some 27, op := Go.Op.call { callee := Go.Callee.builtin Go.Builtin.append, args := #[Go.Operand.tmp 22, Go.Operand.tmp 26], argTypes := #[42, 42] }, type := 42, pos := "l08_query.go:146", after := #[{ on := 1, ground := Go.Ground.data }, { on := 5, ground := Go.Ground.data }, { on := 4, ground := Go.Ground.chain }], guard := none }) rfl (fun K hK => ?_) ?_
                · refine step_append_lies _ rfl (.tmp 22) (.tmp 26) 42 rfl (C + 1) 9 i9 (.string ⟨#[]⟩) 1 16 Try.underlying42 hi9 hz90 hz91 hz92 rfl (by decide) (.slice ao k cc) k (strC (shT l k)) rfl hown ⟨w4.heap.size, 0, none⟩ 1 1 [.string y] rfl rfl (news_new1 w4 (.string y) 9) (by simp [Value.oneCell']) (by decide) (by unfold maxLen; omega) (by omega) hbase _ rfl ?_
                  intro g5 cap5 w6 hown5 hgrow5 hloc5 hg5
                  have hlt9 := hown.lt
                  have HK6 : Hid (KeptP (fun c => (Value.slice ao k cc).ownBlock = some c) (w4.alloc (.cells #[.string y] 9)) w6) := ⟨hgrow5.os, hgrow5.tape, hgrow5.output, hgrow5.size, fun k hk hn => hgrow5.block k hk (fun e => hn e.symm)⟩
                  have HNC : Hid (¬ (Value.slice ao k cc).ownBlock = some C) := fun h => by have := (hlt9 C h).1; omega
                  have HNP : Hid (¬ (Value.slice ao k cc).ownBlock = some P) := fun h => HNP0.out h
                  have hfl0 : C < (w4.alloc (.cells #[.string y] 9)).heap.size := lt_of_cell f0
                  have hfl2 : P < (w4.alloc (.cells #[.string y] 9)).heap.size := lt_of_cell f2
                  have g0 := HK6.out.cell f0 hfl0 HNC.out
                  have g1 := HK6.out.cell f1 hfl0 HNC.out
                  have g2 := HK6.out.cell f2 hfl2 HNP.out
                  have g3 := HK6.out.cell f3 hfl2 HNP.out
                  have g4 := HK6.out.cell f4 hfl2 HNP.out
                  refine hK.out _ _ ⟨g2, g3, g4⟩ (fun hHeld => ?_)
                  clear hK K
                  try simp only [Act.put, List.setIfInBounds_toArray, List.set_cons_zero, List.set_cons_succ]
                  refine wpAnyH_take (i := 7) (oi := { dst := some 28, op := Go.Op.fieldAddr 118 (Go.Operand.tmp 4) 1, type := 0, pos := "l08_query.go:146", after := #[{ on := 0, ground := Go.Ground.phase }, { on := 1, ground := Go.Ground.phase }, { on := 2, ground := Go.Ground.phase }, { on := 3, ground := Go.Ground.phase }, { on := 4, ground := Go.Ground.phase }, { on := 5, ground := Go.Ground.phase }, { on := 6, ground := Go.Ground.phase }], guard := none }) (v := ?_) rfl (by kernel_rfl) (by kernel_rfl) (by kernel_rfl) (fun _ _ _ h => h) (Or.inl ⟨by kernel_rfl, ?_⟩) (by assumption) ?_
                  rotate_left
                  · intro w hSw; (try dsimp only at hSw); go_simp; try with_reducible rfl
                  simp only [Act.put, List.setIfInBounds_toArray, List.set_cons_zero, List.set_cons_succ]
                  refine wpAnyH_ready (rs := [8]) (by kernel_rfl) (by simp) ?_
                  refine AllReadyH.cons (o := { dst := none, op := Go.Op.store 42 (Go.Operand.tmp 28) (Go.Operand.tmp 27), type := 0, pos := "l08_query.go:146", after := #[{ on := 7, ground := Go.Ground.data }, { on := 6, ground := Go.Ground.data }, { on := 6, ground := Go.Ground.chain }, { on := 0, ground := Go.Ground.phase }, { on := 1, ground := Go.Ground.phase }, { on := 2, ground := Go.Ground.phase }, { on := 3, ground := Go.Ground.phase }, { on := 4, ground := Go.Ground.phase }, { on := 5, ground := Go.Ground.phase }, { on := 6, ground := Go.Ground.phase }], guard := none }) rfl (fun K hK => ?_) ?_
                  · have HC6 : Hid (Blk w6 C 2 (fun i => if i = 0 then .slice (some ⟨bb, oo, none⟩) (m + 1) cap else .slice ao k cc)) := HK6.out.blk (HCV.out.of_block (HB5.out.block _ (by have := HPC.out; omega))) HNC.out
                    have hf6 := HC6.out.frozen 1
                    have hne : P ≠ C := by have := HPC.out; omega
                    have s9 := fun (u : Value) => And.intro (cell_set (c := C) (j := 1) g2 u hne) (And.intro (cell_set (c := C) (j := 1) g3 u hne) (cell_set (c := C) (j := 1) g4 u hne))
                    go_simp
                    refine hK.out _ _ (s9 _) (fun hHeld => ?_)
                    clear hK K
                    try simp only [Act.put, List.setIfInBounds_toArray, List.set_cons_zero, List.set_cons_succ]
                    refine wpAnyH_done (by kernel_rfl) ?_ _
                    clear hHeld s9 hf6 g0 g1 g2 g3 g4 f0 f1 f2 f3 f4 e0 e1 e2 e3 e4
                    have HROW : Hid (w6.ownsRow (C + 1) 9 1 (.slice (some ⟨g5, 0, none⟩) (k + 1) cap5) (k + 1) (strC (shT l (k + 1)))) := by show _; rw [HSH.out]; exact hown5
                    have HB6 : Hid (Below C w1 w6) := (HBR.out.trans ((HBV.out.trans (HB5.out.mono (by omega))).mono (by have := HPC.out; omega))).trans (own_grown hgrow5 (fun c hc => by have := (hlt9 c hc).1; omega) (by omega))
                    have HS6 : Hid (C + 1 ≤ w6.heap.size) := by have := hgrow5.size; show _ ≤ _; omega
                    clear hown hown5 hgrow5 hloc5 hg5 hlt9 hbase hfl0 hfl2 hne
                    go_wp2
                    go_roundw
                    case rel => exact ⟨k + 1, _, by go_num, by omega, (HC6.out.set 1 (by omega) _).congr (fun i hi => by rcases (show i = 0 ∨ i = 1 by omega) with h | h <;> subst h <;> rfl), owns_set HROW.out (by omega), HB6.out.setCell (Nat.le_refl _) _, by show _ ≤ _; simpa using HS6.out⟩
                    case measure => simp [intOf]; omega
                  exact AllReadyH.nil
                exact AllReadyH.nil
              exact AllReadyH.nil
            exact AllReadyH.nil
          exact AllReadyH.nil
        refine AllReadyH.cons (o := { dst := some 23, op := Go.Op.load 118 (Go.Operand.tmp 4), type := 118, pos := "l08_query.go:146", after := #[], guard := none }) rfl (fun K hK => ?_) ?_
        · go_simp
          refine hK.out _ _ ⟨d2, d3, d4⟩ (fun hHeld => ?_)
          clear hK K
          try simp only [Act.put, List.setIfInBounds_toArray, List.set_cons_zero, List.set_cons_succ]
          refine wpAnyH_ready (rs := [1, 4]) (by kernel_rfl) (by simp) ?_
          refine AllReadyH.cons (o := { dst := some 22, op := Go.Op.load 42 (Go.Operand.tmp 21), type := 42, pos := "l08_query.go:146", after := #[{ on := 0, ground := Go.Ground.data }], guard := none }) rfl (fun K hK => ?_) ?_
          · go_simp
            refine hK.out _ _ ⟨d2, d3, d4⟩ (fun hHeld => ?_)
            clear hK K
            try simp only [Act.put, List.setIfInBounds_toArray, List.set_cons_zero, List.set_cons_succ]
            refine wpAnyH_ready (rs := [4]) (by kernel_rfl) (by simp) ?_
            refine AllReadyH.cons (o := { dst := some 25, op := Go.Op.call { callee := Go.Callee.value (Go.Operand.func 72), args := #[Go.Operand.tmp 23, Go.Operand.tmp 24], argTypes := #[118, 120] }, type := 9, pos := "l08_query.go:146", after := #[{ on := 2, ground := Go.Ground.data }, { on := 3, ground := Go.Ground.data }], guard := none }) rfl (fun K hK => ?_) ?_
            · go_wp2_with (go_at_call 72; refine (HCC.out _ HBD.out).mono ?_; rintro e w4 ⟨rfl, HB4⟩)
              have HB4V : Hid (Below (P + 1) V w4) := HBD.out.trans (HB4.out.mono (by rw [← HSV.out]; exact HBD.out.size))
              clear d0 d1 d2 d3 d4
              obtain ⟨e0, e1, e2, e3, e4⟩ := HCX.out _ HB4V.out
              refine hK.out _ _ ⟨e2, e3, e4⟩ (fun hHeld => ?_)
              clear hK K
              try simp only [Act.put, List.setIfInBounds_toArray, List.set_cons_zero, List.set_cons_succ]
              refine wpAnyH_ready (rs := [5]) (by kernel_rfl) (by simp) ?_
              refine AllReadyH.cons (o := { dst := some 26, op := Go.Op.buildSlice 42 1 #[(0, Go.Operand.tmp 25)], type := 42, pos := "l08_query.go:146", after := #[{ on := 4, ground := Go.Ground.data }], guard := none }) rfl (fun K hK => ?_) ?_
              · have HB5 : Hid (Below (P + 1) V (w4.alloc (.cells #[.string y] 9))) := HB4V.out.alloc (by rw [← HSV.out]; exact HB4V.out.size) _
                obtain ⟨f0, f1, f2, f3, f4⟩ := HCX.out _ HB5.out
                have hown := (own_below HOV.out (by rw [HSV.out]; exact HB4V.out)).alloc (.cells #[.string y] 9)
                have hbase : C + 1 ≤ (w4.alloc (.cells #[.string y] 9)).heap.size := by have := HB5.out.size; have := HSV.out; have := HPC.out; omega
                go_simp
                refine hK.out _ _ ⟨f2, f3, f4⟩ (fun hHeld => ?_)
                clear hK K
                try simp only [Act.put, List.setIfInBounds_toArray, List.set_cons_zero, List.set_cons_succ]
                refine wpAnyH_ready (rs := [6]) (by kernel_rfl) (by simp) ?_
                refine AllReadyH.cons (o := { dst := some 27, op := Go.Op.call { callee := Go.Callee.builtin Go.Builtin.append, args := #[Go.Operand.tmp 22, Go.Operand.tmp 26], argTypes := #[42, 42] }, type := 42, pos := "l08_query.go:146", after := #[{ on := 1, ground := Go.Ground.data }, { on := 5, ground := Go.Ground.data }, { on := 4, ground := Go.Ground.chain }], guard := none }) rfl (fun K hK => ?_) ?_
                · refine step_append_lies _ rfl (.tmp 22) (.tmp 26) 42 rfl (C + 1) 9 i9 (.string ⟨#[]⟩) 1 16 Try.underlying42 hi9 hz90 hz91 hz92 rfl (by decide) (.slice ao k cc) k (strC (shT l k)) rfl hown ⟨w4.heap.size, 0, none⟩ 1 1 [.string y] rfl rfl (news_new1 w4 (.string y) 9) (by simp [Value.oneCell']) (by decide) (by unfold maxLen; omega) (by omega) hbase _ rfl ?_
                  intro g5 cap5 w6 hown5 hgrow5 hloc5 hg5
                  have hlt9 := hown.lt
                  have HK6 : Hid (KeptP (fun c => (Value.slice ao k cc).ownBlock = some c) (w4.alloc (.cells #[.string y] 9)) w6) := ⟨hgrow5.os, hgrow5.tape, hgrow5.output, hgrow5.size, fun k hk hn => hgrow5.block k hk (fun e => hn e.symm)⟩
                  have HNC : Hid (¬ (Value.slice ao k cc).ownBlock = some C) := fun h => by have := (hlt9 C h).1; omega
                  have HNP : Hid (¬ (Value.slice ao k cc).ownBlock = some P) := fun h => HNP0.out h
                  have hfl0 : C < (w4.alloc (.cells #[.string y] 9)).heap.size := lt_of_cell f0
                  have hfl2 : P < (w4.alloc (.cells #[.string y] 9)).heap.size := lt_of_cell f2
                  have g0 := HK6.out.cell f0 hfl0 HNC.out
                  have g1 := HK6.out.cell f1 hfl0 HNC.out
                  have g2 := HK6.out.cell f2 hfl2 HNP.out
                  have g3 := HK6.out.cell f3 hfl2 HNP.out
                  have g4 := HK6.out.cell f4 hfl2 HNP.out
                  refine hK.out _ _ ⟨g2, g3, g4⟩ (fun hHeld => ?_)
                  clear hK K
                  try simp only [Act.put, List.setIfInBounds_toArray, List.set_cons_zero, List.set_cons_succ]
                  refine wpAnyH_take (i := 7) (oi := { dst := some 28, op := Go.Op.fieldAddr 118 (Go.Operand.tmp 4) 1, type := 0, pos := "l08_query.go:146", after := #[{ on := 0, ground := Go.Ground.phase }, { on := 1, ground := Go.Ground.phase }, { on := 2, ground := Go.Ground.phase }, { on := 3, ground := Go.Ground.phase }, { on := 4, ground := Go.Ground.phase }, { on := 5, ground := Go.Ground.phase }, { on := 6, ground := Go.Ground.phase }], guard := none }) (v := ?_) rfl (by kernel_rfl) (by kernel_rfl) (by kernel_rfl) (fun _ _ _ h => h) (Or.inl ⟨by kernel_rfl, ?_⟩) (by assumption) ?_
                  rotate_left
                  · intro w hSw; (try dsimp only at hSw); go_simp; try with_reducible rfl
                  simp only [Act.put, List.setIfInBounds_toArray, List.set_cons_zero, List.set_cons_succ]
                  refine wpAnyH_ready (rs := [8]) (by kernel_rfl) (by simp) ?_
                  refine AllReadyH.cons (o := { dst := none, op := Go.Op.store 42 (Go.Operand.tmp 28) (Go.Operand.tmp 27), type := 0, pos := "l08_query.go:146", after := #[{ on := 7, ground := Go.Ground.data }, { on := 6, ground := Go.Ground.data }, { on := 6, ground := Go.Ground.chain }, { on := 0, ground := Go.Ground.phase }, { on := 1, ground := Go.Ground.phase }, { on := 2, ground := Go.Ground.phase }, { on := 3, ground := Go.Ground.phase }, { on := 4, ground := Go.Ground.phase }, { on := 5, ground := Go.Ground.phase }, { on := 6, ground := Go.Ground.phase }], guard := none }) rfl (fun K hK => ?_) ?_
                  · have HC6 : Hid (Blk w6 C 2 (fun i => if i = 0 then .slice (some ⟨bb, oo, none⟩) (m + 1) cap else .slice ao k cc)) := HK6.out.blk (HCV.out.of_block (HB5.out.block _ (by have := HPC.out; omega))) HNC.out
                    have hf6 := HC6.out.frozen 1
                    have hne : P ≠ C := by have := HPC.out; omega
                    have s9 := fun (u : Value) => And.intro (cell_set (c := C) (j := 1) g2 u hne) (And.intro (cell_set (c := C) (j := 1) g3 u hne) (cell_set (c := C) (j := 1) g4 u hne))
                    go_simp
                    refine hK.out _ _ (s9 _) (fun hHeld => ?_)
                    clear hK K
                    try simp only [Act.put, List.setIfInBounds_toArray, List.set_cons_zero, List.set_cons_succ]
                    refine wpAnyH_done (by kernel_rfl) ?_ _
                    clear hHeld s9 hf6 g0 g1 g2 g3 g4 f0 f1 f2 f3 f4 e0 e1 e2 e3 e4
                    have HROW : Hid (w6.ownsRow (C + 1) 9 1 (.slice (some ⟨g5, 0, none⟩) (k + 1) cap5) (k + 1) (strC (shT l (k + 1)))) := by show _; rw [HSH.out]; exact hown5
                    have HB6 : Hid (Below C w1 w6) := (HBR.out.trans ((HBV.out.trans (HB5.out.mono (by omega))).mono (by have := HPC.out; omega))).trans (own_grown hgrow5 (fun c hc => by have := (hlt9 c hc).1; omega) (by omega))
                    have HS6 : Hid (C + 1 ≤ w6.heap.size) := by have := hgrow5.size; show _ ≤ _; omega
                    clear hown hown5 hgrow5 hloc5 hg5 hlt9 hbase hfl0 hfl2 hne
                    go_wp2
                    go_roundw
                    case rel => exact ⟨k + 1, _, by go_num, by omega, (HC6.out.set 1 (by omega) _).congr (fun i hi => by rcases (show i = 0 ∨ i = 1 by omega) with h | h <;> subst h <;> rfl), owns_set HROW.out (by omega), HB6.out.setCell (Nat.le_refl _) _, by show _ ≤ _; simpa using HS6.out⟩
                    case measure => simp [intOf]; omega
                  exact AllReadyH.nil
                exact AllReadyH.nil
              exact AllReadyH.nil
            exact AllReadyH.nil
          refine AllReadyH.cons (o := { dst := some 25, op := Go.Op.call { callee := Go.Callee.value (Go.Operand.func 72), args := #[Go.Operand.tmp 23, Go.Operand.tmp 24], argTypes := #[118, 120] }, type := 9, pos := "l08_query.go:146", after := #[{ on := 2, ground := Go.Ground.data }, { on := 3, ground := Go.Ground.data }], guard := none }) rfl (fun K hK => ?_) ?_
          · go_wp2_with (go_at_call 72; refine (HCC.out _ HBD.out).mono ?_; rintro e w4 ⟨rfl, HB4⟩)
            have HB4V : Hid (Below (P + 1) V w4) := HBD.out.trans (HB4.out.mono (by rw [← HSV.out]; exact HBD.out.size))
            clear d0 d1 d2 d3 d4
            obtain ⟨e0, e1, e2, e3, e4⟩ := HCX.out _ HB4V.out
            refine hK.out _ _ ⟨e2, e3, e4⟩ (fun hHeld => ?_)
            clear hK K
            try simp only [Act.put, List.setIfInBounds_toArray, List.set_cons_zero, List.set_cons_succ]
            refine wpAnyH_ready (rs := [1, 5]) (by kernel_rfl) (by simp) ?_
            refine AllReadyH.cons (o := { dst := some 22, op := Go.Op.load 42 (Go.Operand.tmp 21), type := 42, pos := "l08_query.go:146", after := #[{ on := 0, ground := Go.Ground.data }], guard := none }) rfl (fun K hK => ?_) ?_
            · go_simp
              refine hK.out _ _ ⟨e2, e3, e4⟩ (fun hHeld => ?_)
              clear hK K
              try simp only [Act.put, List.setIfInBounds_toArray, List.set_cons_zero, List.set_cons_succ]
              refine wpAnyH_ready (rs := [5]) (by kernel_rfl) (by simp) ?_
              refine AllReadyH.cons (o := { dst := some 26, op := Go.Op.buildSlice 42 1 #[(0, Go.Operand.tmp 25)], type := 42, pos := "l08_query.go:146", after := #[{ on := 4, ground := Go.Ground.data }], guard := none }) rfl (fun K hK => ?_) ?_
              · have HB5 : Hid (Below (P + 1) V (w4.alloc (.cells #[.string y] 9))) := HB4V.out.alloc (by rw [← HSV.out]; exact HB4V.out.size) _
                obtain ⟨f0, f1, f2, f3, f4⟩ := HCX.out _ HB5.out
                have hown := (own_below HOV.out (by rw [HSV.out]; exact HB4V.out)).alloc (.cells #[.string y] 9)
                have hbase : C + 1 ≤ (w4.alloc (.cells #[.string y] 9)).heap.size := by have := HB5.out.size; have := HSV.out; have := HPC.out; omega
                go_simp
                refine hK.out _ _ ⟨f2, f3, f4⟩ (fun hHeld => ?_)
                clear hK K
                try simp only [Act.put, List.setIfInBounds_toArray, List.set_cons_zero, List.set_cons_succ]
                refine wpAnyH_ready (rs := [6]) (by kernel_rfl) (by simp) ?_
                refine AllReadyH.cons (o := { dst := some 27, op := Go.Op.call { callee := Go.Callee.builtin Go.Builtin.append, args := #[Go.Operand.tmp 22, Go.Operand.tmp 26], argTypes := #[42, 42] }, type := 42, pos := "l08_query.go:146", after := #[{ on := 1, ground := Go.Ground.data }, { on := 5, ground := Go.Ground.data }, { on := 4, ground := Go.Ground.chain }], guard := none }) rfl (fun K hK => ?_) ?_
                · refine step_append_lies _ rfl (.tmp 22) (.tmp 26) 42 rfl (C + 1) 9 i9 (.string ⟨#[]⟩) 1 16 Try.underlying42 hi9 hz90 hz91 hz92 rfl (by decide) (.slice ao k cc) k (strC (shT l k)) rfl hown ⟨w4.heap.size, 0, none⟩ 1 1 [.string y] rfl rfl (news_new1 w4 (.string y) 9) (by simp [Value.oneCell']) (by decide) (by unfold maxLen; omega) (by omega) hbase _ rfl ?_
                  intro g5 cap5 w6 hown5 hgrow5 hloc5 hg5
                  have hlt9 := hown.lt
                  have HK6 : Hid (KeptP (fun c => (Value.slice ao k cc).ownBlock = some c) (w4.alloc (.cells #[.string y] 9)) w6) := ⟨hgrow5.os, hgrow5.tape, hgrow5.output, hgrow5.size, fun k hk hn => hgrow5.block k hk (fun e => hn e.symm)⟩
                  have HNC : Hid (¬ (Value.slice ao k cc).ownBlock = some C) := fun h => by have := (hlt9 C h).1; omega
                  have HNP : Hid (¬ (Value.slice ao k cc).ownBlock = some P) := fun h => HNP0.out h
                  have hfl0 : C < (w4.alloc (.cells #[.string y] 9)).heap.size := lt_of_cell f0
                  have hfl2 : P < (w4.alloc (.cells #[.string y] 9)).heap.size := lt_of_cell f2
                  have g0 := HK6.out.cell f0 hfl0 HNC.out
                  have g1 := HK6.out.cell f1 hfl0 HNC.out
                  have g2 := HK6.out.cell f2 hfl2 HNP.out
                  have g3 := HK6.out.cell f3 hfl2 HNP.out
                  have g4 := HK6.out.cell f4 hfl2 HNP.out
                  refine hK.out _ _ ⟨g2, g3, g4⟩ (fun hHeld => ?_)
                  clear hK K
                  try simp only [Act.put, List.setIfInBounds_toArray, List.set_cons_zero, List.set_cons_succ]
                  refine wpAnyH_take (i := 7) (oi := { dst := some 28, op := Go.Op.fieldAddr 118 (Go.Operand.tmp 4) 1, type := 0, pos := "l08_query.go:146", after := #[{ on := 0, ground := Go.Ground.phase }, { on := 1, ground := Go.Ground.phase }, { on := 2, ground := Go.Ground.phase }, { on := 3, ground := Go.Ground.phase }, { on := 4, ground := Go.Ground.phase }, { on := 5, ground := Go.Ground.phase }, { on := 6, ground := Go.Ground.phase }], guard := none }) (v := ?_) rfl (by kernel_rfl) (by kernel_rfl) (by kernel_rfl) (fun _ _ _ h => h) (Or.inl ⟨by kernel_rfl, ?_⟩) (by assumption) ?_
                  rotate_left
                  · intro w hSw; (try dsimp only at hSw); go_simp; try with_reducible rfl
                  simp only [Act.put, List.setIfInBounds_toArray, List.set_cons_zero, List.set_cons_succ]
                  refine wpAnyH_ready (rs := [8]) (by kernel_rfl) (by simp) ?_
                  refine AllReadyH.cons (o := { dst := none, op := Go.Op.store 42 (Go.Operand.tmp 28) (Go.Operand.tmp 27), type := 0, pos := "l08_query.go:146", after := #[{ on := 7, ground := Go.Ground.data }, { on := 6, ground := Go.Ground.data }, { on := 6, ground := Go.Ground.chain }, { on := 0, ground := Go.Ground.phase }, { on := 1, ground := Go.Ground.phase }, { on := 2, ground := Go.Ground.phase }, { on := 3, ground := Go.Ground.phase }, { on := 4, ground := Go.Ground.phase }, { on := 5, ground := Go.Ground.phase }, { on := 6, ground := Go.Ground.phase }], guard := none }) rfl (fun K hK => ?_) ?_
                  · have HC6 : Hid (Blk w6 C 2 (fun i => if i = 0 then .slice (some ⟨bb, oo, none⟩) (m + 1) cap else .slice ao k cc)) := HK6.out.blk (HCV.out.of_block (HB5.out.block _ (by have := HPC.out; omega))) HNC.out
                    have hf6 := HC6.out.frozen 1
                    have hne : P ≠ C := by have := HPC.out; omega
                    have s9 := fun (u : Value) => And.intro (cell_set (c := C) (j := 1) g2 u hne) (And.intro (cell_set (c := C) (j := 1) g3 u hne) (cell_set (c := C) (j := 1) g4 u hne))
                    go_simp
                    refine hK.out _ _ (s9 _) (fun hHeld => ?_)
                    clear hK K
                    try simp only [Act.put, List.setIfInBounds_toArray, List.set_cons_zero, List.set_cons_succ]
                    refine wpAnyH_done (by kernel_rfl) ?_ _
                    clear hHeld s9 hf6 g0 g1 g2 g3 g4 f0 f1 f2 f3 f4 e0 e1 e2 e3 e4
                    have HROW : Hid (w6.ownsRow (C + 1) 9 1 (.slice (some ⟨g5, 0, none⟩) (k + 1) cap5) (k + 1) (strC (shT l (k + 1)))) := by show _; rw [HSH.out]; exact hown5
                    have HB6 : Hid (Below C w1 w6) := (HBR.out.trans ((HBV.out.trans (HB5.out.mono (by omega))).mono (by have := HPC.out; omega))).trans (own_grown hgrow5 (fun c hc => by have := (hlt9 c hc).1; omega) (by omega))
                    have HS6 : Hid (C + 1 ≤ w6.heap.size) := by have := hgrow5.size; show _ ≤ _; omega
                    clear hown hown5 hgrow5 hloc5 hg5 hlt9 hbase hfl0 hfl2 hne
                    go_wp2
                    go_roundw
                    case rel => exact ⟨k + 1, _, by go_num, by omega, (HC6.out.set 1 (by omega) _).congr (fun i hi => by rcases (show i = 0 ∨ i = 1 by omega) with h | h <;> subst h <;> rfl), owns_set HROW.out (by omega), HB6.out.setCell (Nat.le_refl _) _, by show _ ≤ _; simpa using HS6.out⟩
                    case measure => simp [intOf]; omega
                  exact AllReadyH.nil
                exact AllReadyH.nil
              exact AllReadyH.nil
            refine AllReadyH.cons (o := { dst := some 26, op := Go.Op.buildSlice 42 1 #[(0, Go.Operand.tmp 25)], type := 42, pos := "l08_query.go:146", after := #[{ on := 4, ground := Go.Ground.data }], guard := none }) rfl (fun K hK => ?_) ?_
            · have HB5 : Hid (Below (P + 1) V (w4.alloc (.cells #[.string y] 9))) := HB4V.out.alloc (by rw [← HSV.out]; exact HB4V.out.size) _
              obtain ⟨f0, f1, f2, f3, f4⟩ := HCX.out _ HB5.out
              have hown := (own_below HOV.out (by rw [HSV.out]; exact HB4V.out)).alloc (.cells #[.string y] 9)
              have hbase : C + 1 ≤ (w4.alloc (.cells #[.string y] 9)).heap.size := by have := HB5.out.size; have := HSV.out; have := HPC.out; omega
              go_simp
              refine hK.out _ _ ⟨f2, f3, f4⟩ (fun hHeld => ?_)
              clear hK K
              try simp only [Act.put, List.setIfInBounds_toArray, List.set_cons_zero, List.set_cons_succ]
              refine wpAnyH_ready (rs := [1]) (by kernel_rfl) (by simp) ?_
              refine AllReadyH.cons (o := { dst := some 22, op := Go.Op.load 42 (Go.Operand.tmp 21), type := 42, pos := "l08_query.go:146", after := #[{ on := 0, ground := Go.Ground.data }], guard := none }) rfl (fun K hK => ?_) ?_
              · go_simp
                refine hK.out _ _ ⟨f2, f3, f4⟩ (fun hHeld => ?_)
                clear hK K
                try simp only [Act.put, List.setIfInBounds_toArray, List.set_cons_zero, List.set_cons_succ]
                refine wpAnyH_ready (rs := [6]) (by kernel_rfl) (by simp) ?_
                refine AllReadyH.cons (o := { dst := some 27, op := Go.Op.call { callee := Go.Callee.builtin Go.Builtin.append, args := #[Go.Operand.tmp 22, Go.Operand.tmp 26], argTypes := #[42, 42] }, type := 42, pos := "l08_query.go:146", after := #[{ on := 1, ground := Go.Ground.data }, { on := 5, ground := Go.Ground.data }, { on := 4, ground := Go.Ground.chain }], guard := none }) rfl (fun K hK => ?_) ?_
                · refine step_append_lies _ rfl (.tmp 22) (.tmp 26) 42 rfl (C + 1) 9 i9 (.string ⟨#[]⟩) 1 16 Try.underlying42 hi9 hz90 hz91 hz92 rfl (by decide) (.slice ao k cc) k (strC (shT l k)) rfl hown ⟨w4.heap.size, 0, none⟩ 1 1 [.string y] rfl rfl (news_new1 w4 (.string y) 9) (by simp [Value.oneCell']) (by decide) (by unfold maxLen; omega) (by omega) hbase _ rfl ?_
                  intro g5 cap5 w6 hown5 hgrow5 hloc5 hg5
                  have hlt9 := hown.lt
                  have HK6 : Hid (KeptP (fun c => (Value.slice ao k cc).ownBlock = some c) (w4.alloc (.cells #[.string y] 9)) w6) := ⟨hgrow5.os, hgrow5.tape, hgrow5.output, hgrow5.size, fun k hk hn => hgrow5.block k hk (fun e => hn e.symm)⟩
                  have HNC : Hid (¬ (Value.slice ao k cc).ownBlock = some C) := fun h => by have := (hlt9 C h).1; omega
                  have HNP : Hid (¬ (Value.slice ao k cc).ownBlock = some P) := fun h => HNP0.out h
                  have hfl0 : C < (w4.alloc (.cells #[.string y] 9)).heap.size := lt_of_cell f0
                  have hfl2 : P < (w4.alloc (.cells #[.string y] 9)).heap.size := lt_of_cell f2
                  have g0 := HK6.out.cell f0 hfl0 HNC.out
                  have g1 := HK6.out.cell f1 hfl0 HNC.out
                  have g2 := HK6.out.cell f2 hfl2 HNP.out
                  have g3 := HK6.out.cell f3 hfl2 HNP.out
                  have g4 := HK6.out.cell f4 hfl2 HNP.out
                  refine hK.out _ _ ⟨g2, g3, g4⟩ (fun hHeld => ?_)
                  clear hK K
                  try simp only [Act.put, List.setIfInBounds_toArray, List.set_cons_zero, List.set_cons_succ]
                  refine wpAnyH_take (i := 7) (oi := { dst := some 28, op := Go.Op.fieldAddr 118 (Go.Operand.tmp 4) 1, type := 0, pos := "l08_query.go:146", after := #[{ on := 0, ground := Go.Ground.phase }, { on := 1, ground := Go.Ground.phase }, { on := 2, ground := Go.Ground.phase }, { on := 3, ground := Go.Ground.phase }, { on := 4, ground := Go.Ground.phase }, { on := 5, ground := Go.Ground.phase }, { on := 6, ground := Go.Ground.phase }], guard := none }) (v := ?_) rfl (by kernel_rfl) (by kernel_rfl) (by kernel_rfl) (fun _ _ _ h => h) (Or.inl ⟨by kernel_rfl, ?_⟩) (by assumption) ?_
                  rotate_left
                  · intro w hSw; (try dsimp only at hSw); go_simp; try with_reducible rfl
                  simp only [Act.put, List.setIfInBounds_toArray, List.set_cons_zero, List.set_cons_succ]
                  refine wpAnyH_ready (rs := [8]) (by kernel_rfl) (by simp) ?_
                  refine AllReadyH.cons (o := { dst := none, op := Go.Op.store 42 (Go.Operand.tmp 28) (Go.Operand.tmp 27), type := 0, pos := "l08_query.go:146", after := #[{ on := 7, ground := Go.Ground.data }, { on := 6, ground := Go.Ground.data }, { on := 6, ground := Go.Ground.chain }, { on := 0, ground := Go.Ground.phase }, { on := 1, ground := Go.Ground.phase }, { on := 2, ground := Go.Ground.phase }, { on := 3, ground := Go.Ground.phase }, { on := 4, ground := Go.Ground.phase }, { on := 5, ground := Go.Ground.phase }, { on := 6, ground := Go.Ground.phase }], guard := none }) rfl (fun K hK => ?_) ?_
                  · have HC6 : Hid (Blk w6 C 2 (fun i => if i = 0 then .slice (some ⟨bb, oo, none⟩) (m + 1) cap else .slice ao k cc)) := HK6.out.blk (HCV.out.of_block (HB5.out.block _ (by have := HPC.out; omega))) HNC.out
                    have hf6 := HC6.out.frozen 1
                    have hne : P ≠ C := by have := HPC.out; omega
                    have s9 := fun (u : Value) => And.intro (cell_set (c := C) (j := 1) g2 u hne) (And.intro (cell_set (c := C) (j := 1) g3 u hne) (cell_set (c := C) (j := 1) g4 u hne))
                    go_simp
                    refine hK.out _ _ (s9 _) (fun hHeld => ?_)
                    clear hK K
                    try simp only [Act.put, List.setIfInBounds_toArray, List.set_cons_zero, List.set_cons_succ]
                    refine wpAnyH_done (by kernel_rfl) ?_ _
                    clear hHeld s9 hf6 g0 g1 g2 g3 g4 f0 f1 f2 f3 f4 e0 e1 e2 e3 e4
                    have HROW : Hid (w6.ownsRow (C + 1) 9 1 (.slice (some ⟨g5, 0, none⟩) (k + 1) cap5) (k + 1) (strC (shT l (k + 1)))) := by show _; rw [HSH.out]; exact hown5
                    have HB6 : Hid (Below C w1 w6) := (HBR.out.trans ((HBV.out.trans (HB5.out.mono (by omega))).mono (by have := HPC.out; omega))).trans (own_grown hgrow5 (fun c hc => by have := (hlt9 c hc).1; omega) (by omega))
                    have HS6 : Hid (C + 1 ≤ w6.heap.size) := by have := hgrow5.size; show _ ≤ _; omega
                    clear hown hown5 hgrow5 hloc5 hg5 hlt9 hbase hfl0 hfl2 hne
                    go_wp2
                    go_roundw
                    case rel => exact ⟨k + 1, _, by go_num, by omega, (HC6.out.set 1 (by omega) _).congr (fun i hi => by rcases (show i = 0 ∨ i = 1 by omega) with h | h <;> subst h <;> rfl), owns_set HROW.out (by omega), HB6.out.setCell (Nat.le_refl _) _, by show _ ≤ _; simpa using HS6.out⟩
                    case measure => simp [intOf]; omega
                  exact AllReadyH.nil
                exact AllReadyH.nil
              exact AllReadyH.nil
            exact AllReadyH.nil
          exact AllReadyH.nil
        exact AllReadyH.nil
      · obtain rfl : k = m + 1 := by omega
        have HFL : Hid (FlOwn 1 (C + 1) wr.heap.size wr ao (m + 1) (tC (shT l (m + 1)))) := hfl
        clear hfl
        obtain ⟨tb, tt, rfl, _, _, hc⟩ := HFL.out.toIn.at (k := m) (by omega)
        have t0 := hc 0 (by omega)
        rw [tC0, shT_at l (by omega), ← HTT.out] at t0
        simp only [Nat.add_zero, Nat.mul_one] at t0
        clear hc
        have d1 : wr.cell? ⟨C, 1, none⟩ = some _ := HBX.out.cell (i := 1) (by omega)
        simp only [Nat.one_ne_zero, if_false] at d1
        have hm0 : (0 : Int) ≤ (m : Int) := by omega
        have hm1 : (m : Int) < ((m + 1 : Nat) : Int) := by omega
        have hm2 : (m : Int) < (m : Int) + 1 := by omega
        have HE : Hid ((!(t.toList).isEmpty) = r) := by show _ = _; rw [HRR.out, isE]
        go_wp2
        go_ret2
        exact ⟨by rw [HE.out]; rfl, HBW.out.trans (HBR.out.mono HHC.out.2.2)⟩
  · subst ho
    have HTT : Hid (t = emT) := by show _ = _; rw [HT.out]; unfold showT; rw [if_neg (by rw [← HO.out]; simp)]
    obtain rfl : r = false := by rw [HRR.out, HTT.out]; rfl
    go_wp2
    go_ret2
    exact ⟨by rw [HTT.out]; rfl, HBW⟩
end Go.Proofs.Ytkcflhlipdnbnaa
