/-
  The arcs of one label: impl.labelArcs.from.
-/
import Derived.Test.YtdhkkabcgehjpaaMsA
import Derived.Deep.RegionHeld3
namespace Go.Proofs.Ytdhkkabcgehjpaa
open Go.RowKit

/-- where a set leads by the arcs of a matrix -/
def goS (A : Nat → Bool) (f : Nat → Bool) (j : Nat) : Bool := (List.range 24).any fun i => f i && A (i * 24 + j)
/-- the same, of the first k states -/
def goTo (A : Nat → Bool) (f : Nat → Bool) (k : Nat) (j : Nat) : Bool := (List.range k).any fun i => f i && A (i * 24 + j)
theorem goTo_succ (A f : Nat → Bool) (k j : Nat) : goTo A f (k + 1) j = (goTo A f k j || (f k && A (k * 24 + j))) := by simp [goTo, List.range_succ]
theorem goTo_all (A f : Nat → Bool) (j : Nat) : goTo A f 24 j = goS A f j := rfl
theorem wp_load_midB {P : Program} {ops : Array Oper} {op : Oper} {a : Act} {w : World} {K : Act → World → Prop} {Q : Exit → Act → World → Prop} {E : Prop} (hw : Region.wanted op (yielded ops a.tmps) = true) (ty : TypeId) (x : Operand) (ho : op.op = .load ty x)
    (b o : Nat) (hx : a.eval x = .pointer (some ⟨b, o, none⟩)) (cs : List Value) (d : TypeDesc) (hc : w.rangeAt b o cs)
    (hu : P.underlying ty = some d) (hd : d.isRow = true) (hi : (P.info? ty).map (·.size) = some cs.length)
    (h : K (a.put op.dst (.agg cs.toArray)) w) : if Region.wanted op (yielded ops a.tmps) = true then Oper.wp P op a w K Q else E := by
  rw [if_pos hw]
  exact wp_load_mid ty x ho b o hx cs d hc hu hd hi h

set_option maxHeartbeats 4000000 in
set_option maxRecDepth 100000 in
theorem from_any (A f : Nat → Bool) (w : World) : Calls Try.prog 62 #[.agg (bcells 576 A).toArray, sv f] w fun e w' => e = .returned (sv (goS A f)) ∧ Hid (Below w.heap.size w w') := by
  obtain ⟨cA, HCA⟩ : ∃ cf, Hid (cf = (bcells 576 A).toArray) := ⟨_, rfl⟩
  obtain ⟨cf, HCF⟩ : ∃ cf, Hid (cf = (bcells 24 f).toArray) := ⟨_, rfl⟩
  have hA : cA.size = 576 := by rw [HCA.out]; simp [bcells]
  have hf : cf.size = 24 := by rw [HCF.out]; simp [bcells]
  unfold sv
  rw [← HCA.out, ← HCF.out]
  obtain ⟨B, HB⟩ : ∃ B, Hid (B = w.heap.size) := ⟨_, rfl⟩
  obtain ⟨V, HV⟩ : ∃ V, Hid (V = (((w.alloc (.cells cA 101)).alloc (.cells cf 64)).alloc (.cells #[.bool false, .bool false, .bool false, .bool false, .bool false, .bool false, .bool false, .bool false, .bool false, .bool false, .bool false, .bool false, .bool false, .bool false, .bool false, .bool false, .bool false, .bool false, .bool false, .bool false, .bool false, .bool false, .bool false, .bool false] 64)).alloc (.cells #[.bool false, .bool false, .bool false, .bool false, .bool false, .bool false, .bool false, .bool false, .bool false, .bool false, .bool false, .bool false, .bool false, .bool false, .bool false, .bool false, .bool false, .bool false, .bool false, .bool false, .bool false, .bool false, .bool false, .bool false] 64)) := ⟨_, rfl⟩
  have HBV : Hid (Below w.heap.size w V) := by rw [HV.out]; exact (below3 w _ _ _).trans ((below1 _ _).mono (by simp; omega))
  have HXV : Hid (BBlk V B 576 A) := by rw [HV.out, HCA.out]; exact Blk.alloc (Blk.alloc (Blk.alloc (BBlk.new w B HB.out 576 A _) _) _) _
  have HYV : Hid (BBlk V (B + 1) 24 f) := by rw [HV.out, HCF.out]; exact Blk.alloc (Blk.alloc (BBlk.new _ (B + 1) (by rw [HB.out]; simp) 24 f _) _) _
  have HRV : Hid (BBlk V (B + 1 + 1) 24 noB) := by rw [HV.out]; exact Blk.alloc (BBlk.zero _ (B + 1 + 1) (by rw [HB.out]; simp) _) _
  have HZV : Hid (BBlk V (B + 1 + 1 + 1) 24 noB) := by rw [HV.out]; exact BBlk.zero _ (B + 1 + 1 + 1) (by rw [HB.out]; simp) _
  have HSV : Hid (V.heap.size = B + 4) := by rw [HV.out, HB.out]; show _ = _; simp
  have HT : Hid (((((w.alloc (.cells cA 101)).alloc (.cells cf 64)).alloc (.cells #[.bool false, .bool false, .bool false, .bool false, .bool false, .bool false, .bool false, .bool false, .bool false, .bool false, .bool false, .bool false, .bool false, .bool false, .bool false, .bool false, .bool false, .bool false, .bool false, .bool false, .bool false, .bool false, .bool false, .bool false] 64)).alloc (.cells #[.bool false, .bool false, .bool false, .bool false, .bool false, .bool false, .bool false, .bool false, .bool false, .bool false, .bool false, .bool false, .bool false, .bool false, .bool false, .bool false, .bool false, .bool false, .bool false, .bool false, .bool false, .bool false, .bool false, .bool false] 64)).there (w.heap.size + 1 + 1 + 1) 0 24) := by
    have := HZV.out.there 0 24 (by omega)
    rw [HV.out, HB.out] at this; exact this
  obtain ⟨W, HW⟩ : ∃ W, Hid (W = V.setCells (B + 1 + 1 + 1) 0 (bcells 24 noB)) := ⟨_, rfl⟩
  have HBW : Hid (Below w.heap.size w W) := by rw [HW.out]; exact Below.setCells (by have := HB.out; omega) _ _ HBV.out
  have HX : Hid (BBlk W B 576 A) := by rw [HW.out]; exact HXV.out.of (block_setCells (by omega) _ _ _)
  have HY : Hid (BBlk W (B + 1) 24 f) := by rw [HW.out]; exact HYV.out.of (block_setCells (by omega) _ _ _)
  have HR : Hid (BBlk W (B + 1 + 1) 24 noB) := by rw [HW.out]; exact HRV.out.of (block_setCells (by omega) _ _ _)
  have HZ : Hid (BBlk W (B + 1 + 1 + 1) 24 noB) := by rw [HW.out]; exact HZV.out.put noB
  have HSW : Hid (W.heap.size = B + 4) := by rw [HW.out]; show _ = _; rw [size_setCells, HSV.out]
  go_enter Try.func62, Try.ntmps62
  obtain ⟨FF, HFF⟩ : ∃ F : Func, Hid (F = Try.f62) := ⟨_, rfl⟩
  rw [← HFF.out]
  go_upto_region 2 with (with_reducible refine wpList_here' ?_; refine wpList_store_mid rfl 64 _ _ rfl (w.heap.size + 1 + 1 + 1) 0 (bcells 24 noB).toArray rfl rfl (by rw [bcells_size]; exact HT.out) (by rw [bcells_size]; exact info_set) (bcells_one _ _) ?_; dsimp only [Act.put])
  rw [← HV.out, ← HB.out]
  first | rw [← HW.out] | (rw [show _ = W from HW.out.symm])
  clear HW HV HT HXV HYV HRV HZV HSV HBV
  go_wp2_with (with_reducible refine wpList_here' ?_; refine wpList_load_mid rfl 64 _ rfl (B + 1) 0 rfl (bcells 24 f) _ HY.out.all Try.underlying64 rfl (by rw [bcells_len]; exact info_set) ?_)
  rw [← HCF.out]
  go_loopw [10] (fun i wr => ∃ k : Nat, i = .int .i64 k ∧ k ≤ 24 ∧ Hid (BBlk wr (B + 1 + 1 + 1) 24 (goTo A f k)) ∧ Hid (KeptP (fun c => c = B + 1 + 1 + 1 ∨ B + 4 ≤ c) W wr)) (fun i _ => 24 - (intOf i).toNat)
  case atStart => exact ⟨0, rfl, by omega, HZ.out.congr (fun i _ => by simp [goTo, noB]), KeptP.refl _ _⟩
  case round =>
    obtain ⟨k, rfl, hk, HXR, HL⟩ := hrel
    have HBE : Hid (Below w.heap.size w wr) := HBW.out.trans (HL.out.to_below HBW.out.size (fun b hb => by have := HB.out; omega))
    have HSZ : Hid (B + 4 ≤ wr.heap.size) := by have := HSW.out; have := HL.out.size; show _ ≤ _; omega
    by_cases hlt : k < 24
    · have hlt1 : (k : Int) < 24 := by omega
      have hlt0 : (0 : Int) ≤ (k : Int) := by omega
      obtain ⟨y, HYY⟩ : ∃ y, Hid (y = f k) := ⟨_, rfl⟩
      have hix : ∀ w, (Instr.index 64 (.agg cf) (.int .i64 (k : Int))).run Try.prog w = .ok (.bool y) w := fun w => by rw [HCF.out, HYY.out]; exact index_set f hlt w
      rcases Bool.eq_false_or_eq_true y with hy | hy
      · subst hy
        have HAR : Hid (BBlk wr B 576 A) := HL.out.blk HX.out (by omega)
        obtain ⟨G, HGG⟩ : ∃ G : Nat → Bool, Hid (G = fun j => A (k * 24 + j)) := ⟨_, rfl⟩
        have HRG : Hid (wr.rangeAt B (k * 24) (bcells 24 G)) := by rw [HGG.out]; exact HAR.out.range (k * 24) 24 (by omega)
        obtain ⟨T, HTT⟩ : ∃ G : Nat → Bool, Hid (G = goTo A f k) := ⟨_, rfl⟩
        rw [← HTT.out] at HXR
        have HST : Hid (∀ i, i < 24 → (T i || G i) = goTo A f (k + 1) i) := fun i _ => by rw [goTo_succ, HTT.out, HGG.out, ← HYY.out, Bool.true_and]
        go_upto_region 6 with fail
        clear hix
        refine wp_region_held_drew (S := fun _ => True) (by kernel_rfl) trivial (fun hHeld => ?_)
        refine wpAnyH_take (i := 1) (oi := { dst := some 16, op := Go.Op.move (Go.Operand.tmp 6), type := 3, pos := "l07_nfa.go:276", after := #[], guard := none }) (v := ?_) rfl (by kernel_rfl) (by kernel_rfl) (by kernel_rfl) (fun _ _ _ h => h) (Or.inl ⟨by kernel_rfl, ?_⟩) (by assumption) ?_
        rotate_left
        · intro w hSw; (try dsimp only at hSw); go_simp; try with_reducible rfl
        simp only [Act.put, List.setIfInBounds_toArray, List.set_cons_zero, List.set_cons_succ]
        refine wpAnyH_take (i := 2) (oi := { dst := some 17, op := Go.Op.indexAddr 101 (Go.Operand.tmp 2) (Go.Operand.tmp 16), type := 0, pos := "l07_nfa.go:276", after := #[{ on := 1, ground := Go.Ground.data }], guard := none }) (v := ?_) rfl (by kernel_rfl) (by kernel_rfl) (by kernel_rfl) (fun _ _ _ h => h) (Or.inl ⟨by kernel_rfl, ?_⟩) (by assumption) ?_
        rotate_left
        · intro w hSw; (try dsimp only at hSw); go_simp; try with_reducible rfl
        simp only [Act.put, List.setIfInBounds_toArray, List.set_cons_zero, List.set_cons_succ]
        refine wpAnyH_ready (rs := [0, 3]) (by kernel_rfl) (by simp) ?_
        refine AllReadyH.cons (o := { dst := some 15, op := Go.Op.load 64 (Go.Operand.tmp 5), type := 64, pos := "l07_nfa.go:276", after := #[], guard := none }) rfl (fun K hK => ?_) ?_
        · refine wp_load_midB (by kernel_rfl) 64 _ rfl (B + 1 + 1 + 1) 0 rfl (bcells 24 T) _ HXR.out.all Try.underlying64 rfl (by rw [bcells_len]; exact info_set) ?_
          refine hK.out _ _ trivial (fun hHeld => ?_)
          clear hK K
          try simp only [Act.put, List.setIfInBounds_toArray, List.set_cons_zero, List.set_cons_succ]
          refine wpAnyH_ready (rs := [3]) (by kernel_rfl) (by simp) ?_
          refine AllReadyH.cons (o := { dst := some 18, op := Go.Op.load 64 (Go.Operand.tmp 17), type := 64, pos := "l07_nfa.go:276", after := #[{ on := 2, ground := Go.Ground.data }], guard := none }) rfl (fun K hK => ?_) ?_
          · refine wp_load_midB (by kernel_rfl) 64 _ rfl B (k * 24) rfl (bcells 24 G) _ HRG.out Try.underlying64 rfl (by rw [bcells_len]; exact info_set) ?_
            refine hK.out _ _ trivial (fun hHeld => ?_)
            clear hK K
            try simp only [Act.put, List.setIfInBounds_toArray, List.set_cons_zero, List.set_cons_succ]
            refine wpAnyH_ready (rs := [4]) (by kernel_rfl) (by simp) ?_
            refine AllReadyH.cons (o := { dst := some 19, op := Go.Op.call { callee := Go.Callee.value (Go.Operand.func 68), args := #[Go.Operand.tmp 15, Go.Operand.tmp 18], argTypes := #[64, 64] }, type := 64, pos := "l07_nfa.go:276", after := #[{ on := 0, ground := Go.Ground.data }, { on := 3, ground := Go.Ground.data }], guard := none }) rfl (fun K hK => ?_) ?_
            · go_simp
              go_wp2_with (go_at_call 68; refine (orS_any T G _).mono ?_; rintro e w2 ⟨rfl, HB2⟩)
              have HXR2 : Hid (BBlk w2 (B + 1 + 1 + 1) 24 T) := HXR.out.of (HB2.out.block _ HXR.out.lt)
              have HL2 : Hid (KeptP (fun c => c = B + 1 + 1 + 1 ∨ B + 4 ≤ c) W w2) := HL.out.trans ((KeptP.of_below ((Below.refl _ _).drew) (fun k hk _ => hk)).trans (KeptP.of_below HB2.out (fun k hk _ => hk)))
              refine hK.out _ _ trivial (fun hHeld => ?_)
              clear hK K
              try simp only [Act.put, List.setIfInBounds_toArray, List.set_cons_zero, List.set_cons_succ]
              refine wpAnyH_ready (rs := [5]) (by kernel_rfl) (by simp) ?_
              refine AllReadyH.cons (o := { dst := none, op := Go.Op.store 64 (Go.Operand.tmp 5) (Go.Operand.tmp 19), type := 0, pos := "l07_nfa.go:276", after := #[{ on := 4, ground := Go.Ground.data }, { on := 4, ground := Go.Ground.chain }, { on := 0, ground := Go.Ground.phase }, { on := 1, ground := Go.Ground.phase }, { on := 2, ground := Go.Ground.phase }, { on := 3, ground := Go.Ground.phase }, { on := 4, ground := Go.Ground.phase }], guard := none }) rfl (fun K hK => ?_) ?_
              · rw [if_pos (by kernel_rfl)]
                refine wp_store_mid 64 _ _ rfl (B + 1 + 1 + 1) 0 (bcells 24 fun i => T i || G i).toArray rfl rfl (by rw [bcells_size]; exact HXR2.out.there 0 24 (by omega)) (by rw [bcells_size]; exact info_set) (bcells_one _ _) ?_
                have HXR3 : Hid (BBlk (w2.setCells (B + 1 + 1 + 1) 0 (bcells 24 fun i => T i || G i)) (B + 1 + 1 + 1) 24 (fun i => T i || G i)) := HXR2.out.put _
                have HL3 : Hid (KeptP (fun c => c = B + 1 + 1 + 1 ∨ B + 4 ≤ c) W (w2.setCells (B + 1 + 1 + 1) 0 (bcells 24 fun i => T i || G i))) := KeptP.setCells (.inl rfl) _ _ HL2.out
                refine hK.out _ _ trivial (fun hHeld => ?_)
                clear hK K
                try simp only [Act.put]
                refine wpAnyH_done (by kernel_rfl) ?_ _
                clear hHeld
                go_wp2
                go_roundw
                case rel => exact ⟨k + 1, by go_num, by omega, HXR3.out.congr (fun i hi => HST.out i hi), HL3⟩
                case measure => simp [intOf]; omega
              exact AllReadyH.nil
            exact AllReadyH.nil
          exact AllReadyH.nil
        refine AllReadyH.cons (o := { dst := some 18, op := Go.Op.load 64 (Go.Operand.tmp 17), type := 64, pos := "l07_nfa.go:276", after := #[{ on := 2, ground := Go.Ground.data }], guard := none }) rfl (fun K hK => ?_) ?_
        · refine wp_load_midB (by kernel_rfl) 64 _ rfl B (k * 24) rfl (bcells 24 G) _ HRG.out Try.underlying64 rfl (by rw [bcells_len]; exact info_set) ?_
          refine hK.out _ _ trivial (fun hHeld => ?_)
          clear hK K
          try simp only [Act.put, List.setIfInBounds_toArray, List.set_cons_zero, List.set_cons_succ]
          refine wpAnyH_ready (rs := [0]) (by kernel_rfl) (by simp) ?_
          refine AllReadyH.cons (o := { dst := some 15, op := Go.Op.load 64 (Go.Operand.tmp 5), type := 64, pos := "l07_nfa.go:276", after := #[], guard := none }) rfl (fun K hK => ?_) ?_
          · refine wp_load_midB (by kernel_rfl) 64 _ rfl (B + 1 + 1 + 1) 0 rfl (bcells 24 T) _ HXR.out.all Try.underlying64 rfl (by rw [bcells_len]; exact info_set) ?_
            refine hK.out _ _ trivial (fun hHeld => ?_)
            clear hK K
            try simp only [Act.put, List.setIfInBounds_toArray, List.set_cons_zero, List.set_cons_succ]
            refine wpAnyH_ready (rs := [4]) (by kernel_rfl) (by simp) ?_
            refine AllReadyH.cons (o := { dst := some 19, op := Go.Op.call { callee := Go.Callee.value (Go.Operand.func 68), args := #[Go.Operand.tmp 15, Go.Operand.tmp 18], argTypes := #[64, 64] }, type := 64, pos := "l07_nfa.go:276", after := #[{ on := 0, ground := Go.Ground.data }, { on := 3, ground := Go.Ground.data }], guard := none }) rfl (fun K hK => ?_) ?_
            · go_simp
              go_wp2_with (go_at_call 68; refine (orS_any T G _).mono ?_; rintro e w2 ⟨rfl, HB2⟩)
              have HXR2 : Hid (BBlk w2 (B + 1 + 1 + 1) 24 T) := HXR.out.of (HB2.out.block _ HXR.out.lt)
              have HL2 : Hid (KeptP (fun c => c = B + 1 + 1 + 1 ∨ B + 4 ≤ c) W w2) := HL.out.trans ((KeptP.of_below ((Below.refl _ _).drew) (fun k hk _ => hk)).trans (KeptP.of_below HB2.out (fun k hk _ => hk)))
              refine hK.out _ _ trivial (fun hHeld => ?_)
              clear hK K
              try simp only [Act.put, List.setIfInBounds_toArray, List.set_cons_zero, List.set_cons_succ]
              refine wpAnyH_ready (rs := [5]) (by kernel_rfl) (by simp) ?_
              refine AllReadyH.cons (o := { dst := none, op := Go.Op.store 64 (Go.Operand.tmp 5) (Go.Operand.tmp 19), type := 0, pos := "l07_nfa.go:276", after := #[{ on := 4, ground := Go.Ground.data }, { on := 4, ground := Go.Ground.chain }, { on := 0, ground := Go.Ground.phase }, { on := 1, ground := Go.Ground.phase }, { on := 2, ground := Go.Ground.phase }, { on := 3, ground := Go.Ground.phase }, { on := 4, ground := Go.Ground.phase }], guard := none }) rfl (fun K hK => ?_) ?_
              · rw [if_pos (by kernel_rfl)]
                refine wp_store_mid 64 _ _ rfl (B + 1 + 1 + 1) 0 (bcells 24 fun i => T i || G i).toArray rfl rfl (by rw [bcells_size]; exact HXR2.out.there 0 24 (by omega)) (by rw [bcells_size]; exact info_set) (bcells_one _ _) ?_
                have HXR3 : Hid (BBlk (w2.setCells (B + 1 + 1 + 1) 0 (bcells 24 fun i => T i || G i)) (B + 1 + 1 + 1) 24 (fun i => T i || G i)) := HXR2.out.put _
                have HL3 : Hid (KeptP (fun c => c = B + 1 + 1 + 1 ∨ B + 4 ≤ c) W (w2.setCells (B + 1 + 1 + 1) 0 (bcells 24 fun i => T i || G i))) := KeptP.setCells (.inl rfl) _ _ HL2.out
                refine hK.out _ _ trivial (fun hHeld => ?_)
                clear hK K
                try simp only [Act.put]
                refine wpAnyH_done (by kernel_rfl) ?_ _
                clear hHeld
                go_wp2
                go_roundw
                case rel => exact ⟨k + 1, by go_num, by omega, HXR3.out.congr (fun i hi => HST.out i hi), HL3⟩
                case measure => simp [intOf]; omega
              exact AllReadyH.nil
            exact AllReadyH.nil
          exact AllReadyH.nil
        exact AllReadyH.nil
      · subst hy
        have HST : Hid (∀ i, i < 24 → goTo A f k i = goTo A f (k + 1) i) := fun i _ => by rw [goTo_succ, ← HYY.out, Bool.false_and, Bool.or_false]
        go_wp2
        go_roundw
        case rel => exact ⟨k + 1, by go_num, by omega, HXR.out.congr (fun i hi => HST.out i hi), HL⟩
        case measure => simp [intOf]; omega
    · obtain rfl : k = 24 := by omega
      have HXE : Hid (BBlk wr (B + 1 + 1 + 1) 24 (goS A f)) := HXR
      have HZR : Hid (BBlk wr (B + 1 + 1) 24 noB) := HL.out.blk HR.out (by omega)
      go_wp2_with (with_reducible refine wpList_here' ?_; first | (refine wpList_load_mid rfl 64 _ rfl (B + 1 + 1 + 1) 0 rfl (bcells 24 (goS A f)) _ HXE.out.all Try.underlying64 rfl (by rw [bcells_len]; exact info_set) ?_) | (refine wpList_store_mid rfl 64 _ _ rfl (B + 1 + 1) 0 (bcells 24 (goS A f)).toArray rfl rfl (by rw [bcells_size]; exact HZR.out.there 0 24 (by omega)) (by rw [bcells_size]; exact info_set) (bcells_one _ _) ?_; dsimp only [Act.put]))
      obtain rfl : FF = Try.f62 := HFF.out
      refine bodyPost_ret (results_row (k := 4) (t := 64) (b := B + 1 + 1) Try.results62 rfl (load_set (HZR.out.put (goS A f)))) rfl ?_
      exact ⟨rfl, Below.setCells (by have := HB.out; omega) _ _ HBE.out⟩
end Go.Proofs.Ytdhkkabcgehjpaa
