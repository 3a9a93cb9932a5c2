/-
  Two automata held by their words: impl.SameWords.
-/
import Derived.Test.YtdhkkabcgehjpaaSwA
namespace Go.Proofs.Ytdhkkabcgehjpaa
open Go.RowKit

theorem machineOf_any (lo hi : Nat) (s : Int) (a : Option Addr) (n cap : Nat) (l : List Ed) (eb : Option Addr) (em ec : Nat) (es : List Bool) (u : Bool) (w : World) (ha : EdgesIn lo hi w a l) (hbi : BlsIn lo hi w eb es) (hh : hi ≤ w.heap.size) (hn : l.length = n) (hje : es.length = em) (hm : n ≤ 1048576) (hu : u = okN s l em) :
    Calls Try.prog 32 #[nv s a n cap eb em ec] w fun e w' => (∃ v, e = .returned (.tuple #[.agg v, .bool u]) ∧ Hid (v.size = 28 ∧ v.all (·.oneCell') = true ∧ (u = true → v = (mcells (arcM l) (endM es)).toArray))) ∧ Hid (Below w.heap.size w w') := by
  rcases Bool.eq_false_or_eq_true u with h | h
  · subst h
    exact (machineOf_yes lo hi s a n cap l eb em ec es w ha hbi hh hn hje hm hu.symm).mono fun _ _ ⟨⟨v, h1, h2⟩, h3⟩ => ⟨⟨v, h1, by rw [h2.out]; exact ⟨mcells_size _ _, mcells_one _ _, fun _ => rfl⟩⟩, h3⟩
  · subst h
    exact (machineOf_no lo hi s a n cap l eb em ec w ha hh hn hm hu.symm).mono fun _ _ ⟨⟨v, h1, h2⟩, h3⟩ => ⟨⟨v, h1, by rw [h2.out]; exact ⟨mzero_size, mzero_one, fun h => by cases h⟩⟩, h3⟩

/-- whether two automata are right and take the same words of at most 6 letters -/
def sameW (s : Int) (l : List Ed) (m : Nat) (e : List Bool) (s' : Int) (l' : List Ed) (m' : Nat) (e' : List Bool) : Bool := okN s l m && okN s' l' m' && aheadB (arcM l) (arcM l') (endM e) (endM e') 6 oneS oneS
/-- a block of 28 cells, of a value at hand -/
theorem CBlk.ofArr (w : World) (b : Nat) (hb : b = w.heap.size) (v : Array Value) (hv : v.size = 28) (T : TypeId) : CBlk ((w.alloc (.cells #[.nilFunc, .nilFunc, .nilFunc, .nilFunc, .bool false, .bool false, .bool false, .bool false, .bool false, .bool false, .bool false, .bool false, .bool false, .bool false, .bool false, .bool false, .bool false, .bool false, .bool false, .bool false, .bool false, .bool false, .bool false, .bool false, .bool false, .bool false, .bool false, .bool false] T)).setCells b 0 v.toList) b v.toList :=
  (CBlk.new w b hb mzero rfl T).put v.toList (by rw [Array.length_toList]; exact hv)

set_option maxHeartbeats 4000000 in
set_option maxRecDepth 100000 in
theorem sameWords_any (lo hi lo' hi' : Nat) (s s' : Int) (a a' : Option Addr) (n n' cap cap' : Nat) (l l' : List Ed) (eb eb' : Option Addr) (em em' ec ec' : Nat) (es es' : List Bool) (r : Bool) (w : World) (ha : EdgesIn lo hi w a l) (hbi : BlsIn lo hi w eb es) (hh : hi ≤ w.heap.size) (hn : l.length = n) (hje : es.length = em) (hm : n ≤ 1048576)
    (ha' : EdgesIn lo' hi' w a' l') (hbi' : BlsIn lo' hi' w eb' es') (hh' : hi' ≤ w.heap.size) (hn' : l'.length = n') (hje' : es'.length = em') (hm' : n' ≤ 1048576) (hr : r = sameW s l em es s' l' em' es') :
    Calls Try.prog 26 #[nv s a n cap eb em ec, nv s' a' n' cap' eb' em' ec'] w fun e w' => e = .returned (.bool r) ∧ Hid (Below w.heap.size w w') := by
  obtain ⟨u, HU⟩ : ∃ u, Hid (u = okN s l em) := ⟨_, rfl⟩
  obtain ⟨u', HU'⟩ : ∃ u, Hid (u = okN s' l' em') := ⟨_, rfl⟩
  obtain ⟨z, HZ⟩ : ∃ z, Hid (z = aheadB (arcM l) (arcM l') (endM es) (endM es') 6 oneS oneS) := ⟨_, rfl⟩
  have HR : Hid (r = (u && u' && z)) := by show _ = _; rw [hr, HU.out, HU'.out, HZ.out]; rfl
  obtain ⟨B, HB⟩ : ∃ B, Hid (B = w.heap.size) := ⟨_, rfl⟩
  obtain ⟨W, HW⟩ : ∃ W, Hid (W = (w.alloc (.cells #[.int .i64 s, .slice a n cap, .slice eb em ec] 30)).alloc (.cells #[.int .i64 s', .slice a' n' cap', .slice eb' em' ec'] 30)) := ⟨_, rfl⟩
  have HBW : Hid (Below w.heap.size w W) := by rw [HW.out]; exact below2 w _ _
  have HSW : Hid (W.heap.size = B + 2) := by rw [HW.out, HB.out]; show _ = _; simp
  have HN1 : Hid (Blk W B 3 (nf s a n cap eb em ec)) := by rw [HW.out]; exact (blk_nf w B HB.out _ _ _ _ _ _ _ _).alloc _
  have HN2 : Hid (Blk W (B + 1) 3 (nf s' a' n' cap' eb' em' ec')) := by rw [HW.out]; exact blk_nf _ (B + 1) (by rw [HB.out]; simp) _ _ _ _ _ _ _ _
  have HC1 : Hid (∀ w0, Below w.heap.size w w0 → Calls Try.prog 32 #[nv s a n cap eb em ec] w0 fun e w' => (∃ v, e = .returned (.tuple #[.agg v, .bool u]) ∧ Hid (v.size = 28 ∧ v.all (·.oneCell') = true ∧ (u = true → v = (mcells (arcM l) (endM es)).toArray))) ∧ Hid (Below w0.heap.size w0 w')) := fun w0 h =>
    machineOf_any lo hi s a n cap l eb em ec es u w0 (ha.below h hh) (hbi.below h hh) (Nat.le_trans hh h.size) hn hje hm HU.out
  have HC2 : Hid (∀ w0, Below w.heap.size w w0 → Calls Try.prog 32 #[nv s' a' n' cap' eb' em' ec'] w0 fun e w' => (∃ v, e = .returned (.tuple #[.agg v, .bool u']) ∧ Hid (v.size = 28 ∧ v.all (·.oneCell') = true ∧ (u' = true → v = (mcells (arcM l') (endM es')).toArray))) ∧ Hid (Below w0.heap.size w0 w')) := fun w0 h =>
    machineOf_any lo' hi' s' a' n' cap' l' eb' em' ec' es' u' w0 (ha'.below h hh') (hbi'.below h hh') (Nat.le_trans hh' h.size) hn' hje' hm' HU'.out
  clear ha hbi hh hn hje hm ha' hbi' hh' hn' hje' hm' hr
  obtain ⟨c0, c1, c2⟩ := nf_cells HN1.out
  go_enter Try.func26, Try.ntmps26
  go_upto_region 1 with fail
  rw [← HB.out, ← HW.out]
  clear HW
  go_wp2_with fail
  refine (HC1.out _ HBW.out).mono ?_
  rintro e w1 ⟨⟨v, rfl, HVV⟩, HB1⟩
  have hvs : v.size = 28 := HVV.out.1
  have hv1 : v.all (·.oneCell') = true := HVV.out.2.1
  have HBE1 : Hid (Below w.heap.size w w1) := HBW.out.trans (HB1.out.mono HBW.out.size)
  obtain ⟨P, HPP⟩ : ∃ P, Hid (P = w1.heap.size) := ⟨_, rfl⟩
  have HBP : Hid (B + 2 ≤ P) := by have := HB1.out.size; have := HSW.out; have := HPP.out; show _ ≤ _; omega
  obtain ⟨V, HV⟩ : ∃ V, Hid (V = (w1.alloc (.cells #[.nilFunc, .nilFunc, .nilFunc, .nilFunc, .bool false, .bool false, .bool false, .bool false, .bool false, .bool false, .bool false, .bool false, .bool false, .bool false, .bool false, .bool false, .bool false, .bool false, .bool false, .bool false, .bool false, .bool false, .bool false, .bool false, .bool false, .bool false, .bool false, .bool false] 66)).setCells P 0 v.toList) := ⟨_, rfl⟩
  have HT1 : Hid ((w1.alloc (.cells #[.nilFunc, .nilFunc, .nilFunc, .nilFunc, .bool false, .bool false, .bool false, .bool false, .bool false, .bool false, .bool false, .bool false, .bool false, .bool false, .bool false, .bool false, .bool false, .bool false, .bool false, .bool false, .bool false, .bool false, .bool false, .bool false, .bool false, .bool false, .bool false, .bool false] 66)).there w1.heap.size 0 28) := (CBlk.new w1 _ rfl mzero rfl _).there
  have HXV : Hid (CBlk V P v.toList) := by rw [HV.out]; exact CBlk.ofArr w1 P HPP.out v hvs _
  have HBV : Hid (Below (B + 2) W V) := by rw [HV.out]; exact Below.setCells HBP.out _ _ ((HB1.out.mono (by rw [HSW.out]; exact Nat.le_refl _)).trans ((below1 w1 _).mono (by have := HBP.out; have := HPP.out; omega)))
  have HSV : Hid (V.heap.size = P + 1) := by rw [HV.out]; show _ = _; rw [size_setCells, HPP.out]; simp
  have HBF : Hid (Below w.heap.size w V) := HBW.out.trans (HBV.out.mono (by have := HB.out; omega))
  have HN2V : Hid (Blk V (B + 1) 3 (nf s' a' n' cap' eb' em' ec')) := HN2.out.of_block (HBV.out.block _ (by omega))
  clear c0 c1 c2
  go_upto_region 2 with (with_reducible refine wpList_here' ?_; refine wpList_store_mid rfl 66 _ _ rfl w1.heap.size 0 v rfl rfl (by rw [hvs]; exact HT1.out) (by rw [hvs]; exact info_mac) hv1 ?_; dsimp only [Act.put])
  rw [← HPP.out]
  first | rw [← HV.out] | (rw [show _ = V from HV.out.symm])
  clear HV HT1 hvs hv1
  obtain ⟨c0, c1, c2⟩ := nf_cells HN2V.out
  go_wp2_with fail
  refine (HC2.out _ HBF.out).mono ?_
  rintro e w2 ⟨⟨v', rfl, HVV'⟩, HB2⟩
  have hvs : v'.size = 28 := HVV'.out.1
  have hv1 : v'.all (·.oneCell') = true := HVV'.out.2.1
  obtain ⟨D, HDD⟩ : ∃ P, Hid (P = w2.heap.size) := ⟨_, rfl⟩
  have HPD : Hid (P + 1 ≤ D) := by have := HB2.out.size; have := HSV.out; have := HDD.out; show _ ≤ _; omega
  obtain ⟨U, HUU⟩ : ∃ V, Hid (V = (w2.alloc (.cells #[.nilFunc, .nilFunc, .nilFunc, .nilFunc, .bool false, .bool false, .bool false, .bool false, .bool false, .bool false, .bool false, .bool false, .bool false, .bool false, .bool false, .bool false, .bool false, .bool false, .bool false, .bool false, .bool false, .bool false, .bool false, .bool false, .bool false, .bool false, .bool false, .bool false] 66)).setCells D 0 v'.toList) := ⟨_, rfl⟩
  have HT1 : Hid ((w2.alloc (.cells #[.nilFunc, .nilFunc, .nilFunc, .nilFunc, .bool false, .bool false, .bool false, .bool false, .bool false, .bool false, .bool false, .bool false, .bool false, .bool false, .bool false, .bool false, .bool false, .bool false, .bool false, .bool false, .bool false, .bool false, .bool false, .bool false, .bool false, .bool false, .bool false, .bool false] 66)).there w2.heap.size 0 28) := (CBlk.new w2 _ rfl mzero rfl _).there
  have HYU : Hid (CBlk U D v'.toList) := by rw [HUU.out]; exact CBlk.ofArr w2 D HDD.out v' hvs _
  have HBU : Hid (Below (P + 1) V U) := by rw [HUU.out]; exact Below.setCells HPD.out _ _ ((HB2.out.mono (by rw [HSV.out]; exact Nat.le_refl _)).trans ((below1 w2 _).mono (by have := HPD.out; have := HDD.out; omega)))
  have HXU : Hid (CBlk U P v.toList) := HXV.out.of (HBU.out.block _ (by omega))
  have HSU : Hid (U.heap.size = D + 1) := by rw [HUU.out]; show _ = _; rw [size_setCells, HDD.out]; simp
  have HBG : Hid (Below w.heap.size w U) := HBF.out.trans (HBU.out.mono (by have := HB.out; have := HBP.out; omega))
  clear c0 c1 c2
  go_upto_region 3 with (with_reducible refine wpList_here' ?_; refine wpList_store_mid rfl 66 _ _ rfl w2.heap.size 0 v' rfl rfl (by rw [hvs]; exact HT1.out) (by rw [hvs]; exact info_mac) hv1 ?_; dsimp only [Act.put])
  rw [← HDD.out]
  first | rw [← HUU.out] | (rw [show _ = U from HUU.out.symm])
  clear HUU HT1 hvs hv1
  obtain ⟨cO, HCO⟩ : ∃ c, Hid (c = (bcells 24 oneS).toArray) := ⟨_, rfl⟩
  have hcO : cO.size = 24 := by rw [HCO.out]; exact bcells_size _ _
  have HF : Hid (∀ w0, Calls Try.prog 33 #[] w0 fun e w' => e = .returned (.agg cO) ∧ Hid (Below w0.heap.size w0 w')) := fun w0 => by rw [HCO.out]; exact firstState_any w0
  have l1 : v.toList.length = 28 := HXU.out.1
  have l2 : v'.toList.length = 28 := HYU.out.1
  have HL1 : ∀ wz, Hid (Below (D + 1) U wz) → wz.rangeAt P 0 v.toList := fun wz h => (HXU.out.of (h.out.block _ (by have := HPD.out; omega))).range
  have HL2 : ∀ wz, Hid (Below (D + 1) U wz) → wz.rangeAt D 0 v'.toList := fun wz h => (HYU.out.of (h.out.block _ (by omega))).range
  have HDW : Hid (Below (D + 1) U U.drew) := (Below.refl _ _).drew
  rcases Bool.eq_false_or_eq_true u with hu | hu
  · subst hu
    rcases Bool.eq_false_or_eq_true u' with hu' | hu'
    · subst hu'
      have HS : Hid (∀ w0, Calls Try.prog 57 #[.agg v, .agg v', .agg cO, .agg cO, .int .i64 6] w0 fun e w' => e = .returned (.bool z) ∧ Hid (Below w0.heap.size w0 w')) := fun w0 => by
        rw [HVV.out.2.2 rfl, HVV'.out.2.2 rfl, HCO.out]; exact sameAhead_any _ _ _ _ 6 (by omega) _ _ z w0 HZ.out
      have HRZ : Hid (r = z) := by show _ = _; rw [HR.out]; simp
      rcases Bool.eq_false_or_eq_true z with hz | hz
      all_goals
        subst hz
        refine wp_region_held_drew (S := fun wz => Hid (Below (D + 1) U wz)) (by kernel_rfl) HDW (fun hHeld => ?_)
        refine wpAnyH_take (i := 0) (oi := { dst := some 19, op := Go.Op.move (Go.Operand.tmp 6), type := 4, pos := "l07_nfa.go:133", after := #[], guard := none }) (v := ?_) rfl (by kernel_rfl) (by kernel_rfl) (by kernel_rfl) (fun _ _ _ h => h) (Or.inl ⟨by kernel_rfl, ?_⟩) (by assumption) ?_
        rotate_left
        · intro w hSw; (try dsimp only at hSw); go_simp; try with_reducible rfl
        simp only [Act.put, List.setIfInBounds_toArray, List.set_cons_zero, List.set_cons_succ]
        refine wpAnyH_take (i := 1) (oi := { dst := some 20, op := Go.Op.move (Go.Operand.tmp 19), type := 4, pos := "l07_nfa.go:133", after := #[{ on := 0, ground := Go.Ground.data }], guard := none }) (v := ?_) rfl (by kernel_rfl) (by kernel_rfl) (by kernel_rfl) (fun _ _ _ h => h) (Or.inl ⟨by kernel_rfl, ?_⟩) (by assumption) ?_
        rotate_left
        · intro w hSw; (try dsimp only at hSw); go_simp; try with_reducible rfl
        simp only [Act.put, List.setIfInBounds_toArray, List.set_cons_zero, List.set_cons_succ]
        refine wpAnyH_take (i := 2) (oi := { dst := some 21, op := Go.Op.move (Go.Operand.tmp 8), type := 4, pos := "l07_nfa.go:133", after := #[{ on := 1, ground := Go.Ground.guard }], guard := some (1, true) }) (v := ?_) rfl (by kernel_rfl) (by kernel_rfl) (by kernel_rfl) (fun _ _ _ h => h) (Or.inl ⟨by kernel_rfl, ?_⟩) (by assumption) ?_
        rotate_left
        · intro w hSw; (try dsimp only at hSw); go_simp; try with_reducible rfl
        simp only [Act.put, List.setIfInBounds_toArray, List.set_cons_zero, List.set_cons_succ]
        refine wpAnyH_take (i := 3) (oi := { dst := some 22, op := Go.Op.pick (Go.Operand.tmp 20) (Go.Operand.tmp 21) (Go.Operand.const (Go.Value.bool false)), type := 4, pos := "l07_nfa.go:133", after := #[{ on := 1, ground := Go.Ground.data }, { on := 2, ground := Go.Ground.data }], guard := none }) (v := ?_) rfl (by kernel_rfl) (by kernel_rfl) (by kernel_rfl) (fun _ _ _ h => h) (Or.inl ⟨by kernel_rfl, ?_⟩) (by assumption) ?_
        rotate_left
        · intro w hSw; (try dsimp only at hSw); go_simp; try with_reducible rfl
        simp only [Act.put, List.setIfInBounds_toArray, List.set_cons_zero, List.set_cons_succ]
        refine wpAnyH_take (i := 4) (oi := { dst := some 23, op := Go.Op.move (Go.Operand.tmp 22), type := 4, pos := "l07_nfa.go:133", after := #[{ on := 3, ground := Go.Ground.data }, { on := 1, ground := Go.Ground.chain }], guard := none }) (v := ?_) rfl (by kernel_rfl) (by kernel_rfl) (by kernel_rfl) (fun _ _ _ h => h) (Or.inl ⟨by kernel_rfl, ?_⟩) (by assumption) ?_
        rotate_left
        · intro w hSw; (try dsimp only at hSw); go_simp; try with_reducible rfl
        simp only [Act.put, List.setIfInBounds_toArray, List.set_cons_zero, List.set_cons_succ]
        refine wpAnyH_take (i := 5) (oi := { dst := some 24, op := Go.Op.load 66 (Go.Operand.tmp 5), type := 66, pos := "l07_nfa.go:133", after := #[{ on := 4, ground := Go.Ground.guard }], guard := some (4, true) }) (v := .agg v) rfl (by kernel_rfl) (by kernel_rfl) (by kernel_rfl) (fun _ _ _ h => h) (yieldsIf_load_mid (by kernel_rfl) 66 _ rfl P 0 rfl v.toList _ HL1 Try.underlying66 rfl (by rw [l1]; exact info_mac)) (by assumption) ?_
        simp only [Act.put, List.setIfInBounds_toArray, List.set_cons_zero, List.set_cons_succ]
        refine wpAnyH_take (i := 6) (oi := { dst := some 25, op := Go.Op.load 66 (Go.Operand.tmp 7), type := 66, pos := "l07_nfa.go:133", after := #[{ on := 4, ground := Go.Ground.guard }], guard := some (4, true) }) (v := .agg v') rfl (by kernel_rfl) (by kernel_rfl) (by kernel_rfl) (fun _ _ _ h => h) (yieldsIf_load_mid (by kernel_rfl) 66 _ rfl D 0 rfl v'.toList _ HL2 Try.underlying66 rfl (by rw [l2]; exact info_mac)) (by assumption) ?_
        simp only [Act.put, List.setIfInBounds_toArray, List.set_cons_zero, List.set_cons_succ]
        refine wpAnyH_ready (rs := [7]) (by kernel_rfl) (by simp) ?_
        refine AllReadyH.cons (o := { dst := some 26, op := Go.Op.call { callee := Go.Callee.value (Go.Operand.func 33), args := #[], argTypes := #[] }, type := 64, pos := "l07_nfa.go:133", after := #[{ on := 4, ground := Go.Ground.chain }, { on := 4, ground := Go.Ground.guard }], guard := some (4, true) }) rfl (fun K hK => ?_) ?_
        · go_simp
          go_wp2_with (go_at_call 33; refine (HF.out _).mono ?_; rintro e w5 ⟨rfl, HB50⟩)
          have HB5 : Hid (Below (D + 1) U w5) := HDW.out.trans (HB50.out.mono (by have := HDW.out.size; have := HSU.out; omega))
          refine hK.out _ _ HB5 (fun hHeld => ?_)
          clear hK K
          try simp only [Act.put, List.setIfInBounds_toArray, List.set_cons_zero, List.set_cons_succ]
          refine wpAnyH_ready (rs := [8]) (by kernel_rfl) (by simp) ?_
          refine AllReadyH.cons (o := { dst := some 27, op := Go.Op.call { callee := Go.Callee.value (Go.Operand.func 33), args := #[], argTypes := #[] }, type := 64, pos := "l07_nfa.go:133", after := #[{ on := 7, ground := Go.Ground.chain }, { on := 4, ground := Go.Ground.guard }], guard := some (4, true) }) rfl (fun K hK => ?_) ?_
          · go_simp
            go_wp2_with (go_at_call 33; refine (HF.out _).mono ?_; rintro e w6 ⟨rfl, HB60⟩)
            have HB6 : Hid (Below (D + 1) U w6) := HB5.out.trans (HB60.out.mono (by have := HB5.out.size; have := HSU.out; omega))
            refine hK.out _ _ HB6 (fun hHeld => ?_)
            clear hK K
            try simp only [Act.put, List.setIfInBounds_toArray, List.set_cons_zero, List.set_cons_succ]
            refine wpAnyH_ready (rs := [9]) (by kernel_rfl) (by simp) ?_
            refine AllReadyH.cons (o := { dst := some 28, op := Go.Op.call { callee := Go.Callee.value (Go.Operand.func 57), args := #[Go.Operand.tmp 24, Go.Operand.tmp 25, Go.Operand.tmp 26, Go.Operand.tmp 27, Go.Operand.const (Go.Value.int Go.IntKind.i64 6)], argTypes := #[66, 66, 64, 64, 3] }, type := 4, pos := "l07_nfa.go:133", after := #[{ on := 5, ground := Go.Ground.data }, { on := 6, ground := Go.Ground.data }, { on := 7, ground := Go.Ground.data }, { on := 8, ground := Go.Ground.data }, { on := 8, ground := Go.Ground.chain }, { on := 4, ground := Go.Ground.guard }], guard := some (4, true) }) rfl (fun K hK => ?_) ?_
            · go_simp
              go_wp2_with (go_at_call 57; refine (HS.out _).mono ?_; rintro e w7 ⟨rfl, HB70⟩)
              have HB7 : Hid (Below (D + 1) U w7) := HB6.out.trans (HB70.out.mono (by have := HB6.out.size; have := HSU.out; omega))
              refine hK.out _ _ HB7 (fun hHeld => ?_)
              clear hK K
              try simp only [Act.put, List.setIfInBounds_toArray, List.set_cons_zero, List.set_cons_succ]
              refine wpAnyH_take (i := 10) (oi := { dst := some 29, op := Go.Op.pick (Go.Operand.tmp 23) (Go.Operand.tmp 28) (Go.Operand.const (Go.Value.bool false)), type := 4, pos := "l07_nfa.go:133", after := #[{ on := 4, ground := Go.Ground.data }, { on := 9, ground := Go.Ground.data }], guard := none }) (v := ?_) rfl (by kernel_rfl) (by kernel_rfl) (by kernel_rfl) (fun _ _ _ h => h) (Or.inl ⟨by kernel_rfl, ?_⟩) (by assumption) ?_
              rotate_left
              · intro w hSw; (try dsimp only at hSw); go_simp; try with_reducible rfl
              simp only [Act.put, List.setIfInBounds_toArray, List.set_cons_zero, List.set_cons_succ]
              refine wpAnyH_take (i := 11) (oi := { dst := some 4, op := Go.Op.assign (Go.Operand.tmp 29), type := 4, pos := "l07_nfa.go:133", after := #[{ on := 10, ground := Go.Ground.data }, { on := 9, ground := Go.Ground.chain }, { on := 0, ground := Go.Ground.phase }, { on := 1, ground := Go.Ground.phase }, { on := 2, ground := Go.Ground.phase }, { on := 3, ground := Go.Ground.phase }, { on := 4, ground := Go.Ground.phase }, { on := 5, ground := Go.Ground.phase }, { on := 6, ground := Go.Ground.phase }, { on := 7, ground := Go.Ground.phase }, { on := 8, ground := Go.Ground.phase }, { on := 9, ground := Go.Ground.phase }, { on := 10, ground := Go.Ground.phase }], guard := none }) (v := ?_) rfl (by kernel_rfl) (by kernel_rfl) (by kernel_rfl) (fun _ _ _ h => h) (Or.inl ⟨by kernel_rfl, ?_⟩) (by assumption) ?_
              rotate_left
              · intro w hSw; (try dsimp only at hSw); go_simp; try with_reducible rfl
              simp only [Act.put, List.setIfInBounds_toArray, List.set_cons_zero, List.set_cons_succ]
              refine wpAnyH_done (by kernel_rfl) ?_ _
              clear hHeld
              go_wp2
              go_ret
              exact ⟨by rw [HRZ.out]; rfl, HBG.out.trans (HB7.out.mono (by have := HBG.out.size; have := HSU.out; omega))⟩
            exact AllReadyH.nil
          exact AllReadyH.nil
        exact AllReadyH.nil
    · subst hu'
      have HRF : Hid (r = false) := by show _ = _; rw [HR.out]; simp
      refine wp_region_held_drew (S := fun wz => Hid (Below (D + 1) U wz)) (by kernel_rfl) HDW (fun hHeld => ?_)
      refine wpAnyH_take (i := 0) (oi := { dst := some 19, op := Go.Op.move (Go.Operand.tmp 6), type := 4, pos := "l07_nfa.go:133", after := #[], guard := none }) (v := ?_) rfl (by kernel_rfl) (by kernel_rfl) (by kernel_rfl) (fun _ _ _ h => h) (Or.inl ⟨by kernel_rfl, ?_⟩) (by assumption) ?_
      rotate_left
      · intro w hSw; (try dsimp only at hSw); go_simp; try with_reducible rfl
      simp only [Act.put, List.setIfInBounds_toArray, List.set_cons_zero, List.set_cons_succ]
      refine wpAnyH_take (i := 1) (oi := { dst := some 20, op := Go.Op.move (Go.Operand.tmp 19), type := 4, pos := "l07_nfa.go:133", after := #[{ on := 0, ground := Go.Ground.data }], guard := none }) (v := ?_) rfl (by kernel_rfl) (by kernel_rfl) (by kernel_rfl) (fun _ _ _ h => h) (Or.inl ⟨by kernel_rfl, ?_⟩) (by assumption) ?_
      rotate_left
      · intro w hSw; (try dsimp only at hSw); go_simp; try with_reducible rfl
      simp only [Act.put, List.setIfInBounds_toArray, List.set_cons_zero, List.set_cons_succ]
      refine wpAnyH_take (i := 2) (oi := { dst := some 21, op := Go.Op.move (Go.Operand.tmp 8), type := 4, pos := "l07_nfa.go:133", after := #[{ on := 1, ground := Go.Ground.guard }], guard := some (1, true) }) (v := ?_) rfl (by kernel_rfl) (by kernel_rfl) (by kernel_rfl) (fun _ _ _ h => h) (Or.inl ⟨by kernel_rfl, ?_⟩) (by assumption) ?_
      rotate_left
      · intro w hSw; (try dsimp only at hSw); go_simp; try with_reducible rfl
      simp only [Act.put, List.setIfInBounds_toArray, List.set_cons_zero, List.set_cons_succ]
      refine wpAnyH_take (i := 3) (oi := { dst := some 22, op := Go.Op.pick (Go.Operand.tmp 20) (Go.Operand.tmp 21) (Go.Operand.const (Go.Value.bool false)), type := 4, pos := "l07_nfa.go:133", after := #[{ on := 1, ground := Go.Ground.data }, { on := 2, ground := Go.Ground.data }], guard := none }) (v := ?_) rfl (by kernel_rfl) (by kernel_rfl) (by kernel_rfl) (fun _ _ _ h => h) (Or.inl ⟨by kernel_rfl, ?_⟩) (by assumption) ?_
      rotate_left
      · intro w hSw; (try dsimp only at hSw); go_simp; try with_reducible rfl
      simp only [Act.put, List.setIfInBounds_toArray, List.set_cons_zero, List.set_cons_succ]
      refine wpAnyH_take (i := 4) (oi := { dst := some 23, op := Go.Op.move (Go.Operand.tmp 22), type := 4, pos := "l07_nfa.go:133", after := #[{ on := 3, ground := Go.Ground.data }, { on := 1, ground := Go.Ground.chain }], guard := none }) (v := ?_) rfl (by kernel_rfl) (by kernel_rfl) (by kernel_rfl) (fun _ _ _ h => h) (Or.inl ⟨by kernel_rfl, ?_⟩) (by assumption) ?_
      rotate_left
      · intro w hSw; (try dsimp only at hSw); go_simp; try with_reducible rfl
      simp only [Act.put, List.setIfInBounds_toArray, List.set_cons_zero, List.set_cons_succ]
      refine wpAnyH_take (i := 5) (oi := { dst := some 24, op := Go.Op.load 66 (Go.Operand.tmp 5), type := 66, pos := "l07_nfa.go:133", after := #[{ on := 4, ground := Go.Ground.guard }], guard := some (4, true) }) (v := undef) rfl (by kernel_rfl) (by kernel_rfl) (by kernel_rfl) (fun _ _ _ h => h) (Or.inr ⟨by kernel_rfl, rfl⟩) (by assumption) ?_
      simp only [Act.put, List.setIfInBounds_toArray, List.set_cons_zero, List.set_cons_succ]
      refine wpAnyH_take (i := 6) (oi := { dst := some 25, op := Go.Op.load 66 (Go.Operand.tmp 7), type := 66, pos := "l07_nfa.go:133", after := #[{ on := 4, ground := Go.Ground.guard }], guard := some (4, true) }) (v := undef) rfl (by kernel_rfl) (by kernel_rfl) (by kernel_rfl) (fun _ _ _ h => h) (Or.inr ⟨by kernel_rfl, rfl⟩) (by assumption) ?_
      simp only [Act.put, List.setIfInBounds_toArray, List.set_cons_zero, List.set_cons_succ]
      refine wpAnyH_ready (rs := [7]) (by kernel_rfl) (by simp) ?_
      refine AllReadyH.cons (o := { dst := some 26, op := Go.Op.call { callee := Go.Callee.value (Go.Operand.func 33), args := #[], argTypes := #[] }, type := 64, pos := "l07_nfa.go:133", after := #[{ on := 4, ground := Go.Ground.chain }, { on := 4, ground := Go.Ground.guard }], guard := some (4, true) }) rfl (fun K hK => ?_) ?_
      · rw [if_neg (by refine Bool.eq_false_iff.1 ?_; kernel_rfl)]
        refine hK.out _ _ hHeld (fun hHeld => ?_)
        clear hK K
        try simp only [Act.put, List.setIfInBounds_toArray, List.set_cons_zero, List.set_cons_succ]
        refine wpAnyH_ready (rs := [8]) (by kernel_rfl) (by simp) ?_
        refine AllReadyH.cons (o := { dst := some 27, op := Go.Op.call { callee := Go.Callee.value (Go.Operand.func 33), args := #[], argTypes := #[] }, type := 64, pos := "l07_nfa.go:133", after := #[{ on := 7, ground := Go.Ground.chain }, { on := 4, ground := Go.Ground.guard }], guard := some (4, true) }) rfl (fun K hK => ?_) ?_
        · rw [if_neg (by refine Bool.eq_false_iff.1 ?_; kernel_rfl)]
          refine hK.out _ _ hHeld (fun hHeld => ?_)
          clear hK K
          try simp only [Act.put, List.setIfInBounds_toArray, List.set_cons_zero, List.set_cons_succ]
          refine wpAnyH_ready (rs := [9]) (by kernel_rfl) (by simp) ?_
          refine AllReadyH.cons (o := { dst := some 28, op := Go.Op.call { callee := Go.Callee.value (Go.Operand.func 57), args := #[Go.Operand.tmp 24, Go.Operand.tmp 25, Go.Operand.tmp 26, Go.Operand.tmp 27, Go.Operand.const (Go.Value.int Go.IntKind.i64 6)], argTypes := #[66, 66, 64, 64, 3] }, type := 4, pos := "l07_nfa.go:133", after := #[{ on := 5, ground := Go.Ground.data }, { on := 6, ground := Go.Ground.data }, { on := 7, ground := Go.Ground.data }, { on := 8, ground := Go.Ground.data }, { on := 8, ground := Go.Ground.chain }, { on := 4, ground := Go.Ground.guard }], guard := some (4, true) }) rfl (fun K hK => ?_) ?_
          · rw [if_neg (by refine Bool.eq_false_iff.1 ?_; kernel_rfl)]
            refine hK.out _ _ hHeld (fun hHeld => ?_)
            clear hK K
            try simp only [Act.put, List.setIfInBounds_toArray, List.set_cons_zero, List.set_cons_succ]
            refine wpAnyH_take (i := 10) (oi := { dst := some 29, op := Go.Op.pick (Go.Operand.tmp 23) (Go.Operand.tmp 28) (Go.Operand.const (Go.Value.bool false)), type := 4, pos := "l07_nfa.go:133", after := #[{ on := 4, ground := Go.Ground.data }, { on := 9, ground := Go.Ground.data }], guard := none }) (v := ?_) rfl (by kernel_rfl) (by kernel_rfl) (by kernel_rfl) (fun _ _ _ h => h) (Or.inl ⟨by kernel_rfl, ?_⟩) (by assumption) ?_
            rotate_left
            · intro w hSw; (try dsimp only at hSw); go_simp; try with_reducible rfl
            simp only [Act.put, List.setIfInBounds_toArray, List.set_cons_zero, List.set_cons_succ]
            refine wpAnyH_take (i := 11) (oi := { dst := some 4, op := Go.Op.assign (Go.Operand.tmp 29), type := 4, pos := "l07_nfa.go:133", after := #[{ on := 10, ground := Go.Ground.data }, { on := 9, ground := Go.Ground.chain }, { on := 0, ground := Go.Ground.phase }, { on := 1, ground := Go.Ground.phase }, { on := 2, ground := Go.Ground.phase }, { on := 3, ground := Go.Ground.phase }, { on := 4, ground := Go.Ground.phase }, { on := 5, ground := Go.Ground.phase }, { on := 6, ground := Go.Ground.phase }, { on := 7, ground := Go.Ground.phase }, { on := 8, ground := Go.Ground.phase }, { on := 9, ground := Go.Ground.phase }, { on := 10, ground := Go.Ground.phase }], guard := none }) (v := ?_) rfl (by kernel_rfl) (by kernel_rfl) (by kernel_rfl) (fun _ _ _ h => h) (Or.inl ⟨by kernel_rfl, ?_⟩) (by assumption) ?_
            rotate_left
            · intro w hSw; (try dsimp only at hSw); go_simp; try with_reducible rfl
            simp only [Act.put, List.setIfInBounds_toArray, List.set_cons_zero, List.set_cons_succ]
            refine wpAnyH_done (by kernel_rfl) ?_ _
            clear hHeld
            go_wp2
            go_ret
            exact ⟨by rw [HRF.out]; rfl, HBG.out.trans (HDW.out.mono (by have := HBG.out.size; have := HSU.out; omega))⟩
          exact AllReadyH.nil
        exact AllReadyH.nil
      exact AllReadyH.nil
  · subst hu
    have HRF : Hid (r = false) := by show _ = _; rw [HR.out]; simp
    refine wp_region_held_drew (S := fun wz => Hid (Below (D + 1) U wz)) (by kernel_rfl) HDW (fun hHeld => ?_)
    refine wpAnyH_take (i := 0) (oi := { dst := some 19, op := Go.Op.move (Go.Operand.tmp 6), type := 4, pos := "l07_nfa.go:133", after := #[], guard := none }) (v := ?_) rfl (by kernel_rfl) (by kernel_rfl) (by kernel_rfl) (fun _ _ _ h => h) (Or.inl ⟨by kernel_rfl, ?_⟩) (by assumption) ?_
    rotate_left
    · intro w hSw; (try dsimp only at hSw); go_simp; try with_reducible rfl
    simp only [Act.put, List.setIfInBounds_toArray, List.set_cons_zero, List.set_cons_succ]
    refine wpAnyH_take (i := 1) (oi := { dst := some 20, op := Go.Op.move (Go.Operand.tmp 19), type := 4, pos := "l07_nfa.go:133", after := #[{ on := 0, ground := Go.Ground.data }], guard := none }) (v := ?_) rfl (by kernel_rfl) (by kernel_rfl) (by kernel_rfl) (fun _ _ _ h => h) (Or.inl ⟨by kernel_rfl, ?_⟩) (by assumption) ?_
    rotate_left
    · intro w hSw; (try dsimp only at hSw); go_simp; try with_reducible rfl
    simp only [Act.put, List.setIfInBounds_toArray, List.set_cons_zero, List.set_cons_succ]
    refine wpAnyH_take (i := 2) (oi := { dst := some 21, op := Go.Op.move (Go.Operand.tmp 8), type := 4, pos := "l07_nfa.go:133", after := #[{ on := 1, ground := Go.Ground.guard }], guard := some (1, true) }) (v := undef) rfl (by kernel_rfl) (by kernel_rfl) (by kernel_rfl) (fun _ _ _ h => h) (Or.inr ⟨by kernel_rfl, rfl⟩) (by assumption) ?_
    simp only [Act.put, List.setIfInBounds_toArray, List.set_cons_zero, List.set_cons_succ]
    refine wpAnyH_take (i := 3) (oi := { dst := some 22, op := Go.Op.pick (Go.Operand.tmp 20) (Go.Operand.tmp 21) (Go.Operand.const (Go.Value.bool false)), type := 4, pos := "l07_nfa.go:133", after := #[{ on := 1, ground := Go.Ground.data }, { on := 2, ground := Go.Ground.data }], guard := none }) (v := ?_) rfl (by kernel_rfl) (by kernel_rfl) (by kernel_rfl) (fun _ _ _ h => h) (Or.inl ⟨by kernel_rfl, ?_⟩) (by assumption) ?_
    rotate_left
    · intro w hSw; (try dsimp only at hSw); go_simp; try with_reducible rfl
    simp only [Act.put, List.setIfInBounds_toArray, List.set_cons_zero, List.set_cons_succ]
    refine wpAnyH_take (i := 4) (oi := { dst := some 23, op := Go.Op.move (Go.Operand.tmp 22), type := 4, pos := "l07_nfa.go:133", after := #[{ on := 3, ground := Go.Ground.data }, { on := 1, ground := Go.Ground.chain }], guard := none }) (v := ?_) rfl (by kernel_rfl) (by kernel_rfl) (by kernel_rfl) (fun _ _ _ h => h) (Or.inl ⟨by kernel_rfl, ?_⟩) (by assumption) ?_
    rotate_left
    · intro w hSw; (try dsimp only at hSw); go_simp; try with_reducible rfl
    simp only [Act.put, List.setIfInBounds_toArray, List.set_cons_zero, List.set_cons_succ]
    refine wpAnyH_take (i := 5) (oi := { dst := some 24, op := Go.Op.load 66 (Go.Operand.tmp 5), type := 66, pos := "l07_nfa.go:133", after := #[{ on := 4, ground := Go.Ground.guard }], guard := some (4, true) }) (v := undef) rfl (by kernel_rfl) (by kernel_rfl) (by kernel_rfl) (fun _ _ _ h => h) (Or.inr ⟨by kernel_rfl, rfl⟩) (by assumption) ?_
    simp only [Act.put, List.setIfInBounds_toArray, List.set_cons_zero, List.set_cons_succ]
    refine wpAnyH_take (i := 6) (oi := { dst := some 25, op := Go.Op.load 66 (Go.Operand.tmp 7), type := 66, pos := "l07_nfa.go:133", after := #[{ on := 4, ground := Go.Ground.guard }], guard := some (4, true) }) (v := undef) rfl (by kernel_rfl) (by kernel_rfl) (by kernel_rfl) (fun _ _ _ h => h) (Or.inr ⟨by kernel_rfl, rfl⟩) (by assumption) ?_
    simp only [Act.put, List.setIfInBounds_toArray, List.set_cons_zero, List.set_cons_succ]
    refine wpAnyH_ready (rs := [7]) (by kernel_rfl) (by simp) ?_
    refine AllReadyH.cons (o := { dst := some 26, op := Go.Op.call { callee := Go.Callee.value (Go.Operand.func 33), args := #[], argTypes := #[] }, type := 64, pos := "l07_nfa.go:133", after := #[{ on := 4, ground := Go.Ground.chain }, { on := 4, ground := Go.Ground.guard }], guard := some (4, true) }) rfl (fun K hK => ?_) ?_
    · rw [if_neg (by refine Bool.eq_false_iff.1 ?_; kernel_rfl)]
      refine hK.out _ _ hHeld (fun hHeld => ?_)
      clear hK K
      try simp only [Act.put, List.setIfInBounds_toArray, List.set_cons_zero, List.set_cons_succ]
      refine wpAnyH_ready (rs := [8]) (by kernel_rfl) (by simp) ?_
      refine AllReadyH.cons (o := { dst := some 27, op := Go.Op.call { callee := Go.Callee.value (Go.Operand.func 33), args := #[], argTypes := #[] }, type := 64, pos := "l07_nfa.go:133", after := #[{ on := 7, ground := Go.Ground.chain }, { on := 4, ground := Go.Ground.guard }], guard := some (4, true) }) rfl (fun K hK => ?_) ?_
      · rw [if_neg (by refine Bool.eq_false_iff.1 ?_; kernel_rfl)]
        refine hK.out _ _ hHeld (fun hHeld => ?_)
        clear hK K
        try simp only [Act.put, List.setIfInBounds_toArray, List.set_cons_zero, List.set_cons_succ]
        refine wpAnyH_ready (rs := [9]) (by kernel_rfl) (by simp) ?_
        refine AllReadyH.cons (o := { dst := some 28, op := Go.Op.call { callee := Go.Callee.value (Go.Operand.func 57), args := #[Go.Operand.tmp 24, Go.Operand.tmp 25, Go.Operand.tmp 26, Go.Operand.tmp 27, Go.Operand.const (Go.Value.int Go.IntKind.i64 6)], argTypes := #[66, 66, 64, 64, 3] }, type := 4, pos := "l07_nfa.go:133", after := #[{ on := 5, ground := Go.Ground.data }, { on := 6, ground := Go.Ground.data }, { on := 7, ground := Go.Ground.data }, { on := 8, ground := Go.Ground.data }, { on := 8, ground := Go.Ground.chain }, { on := 4, ground := Go.Ground.guard }], guard := some (4, true) }) rfl (fun K hK => ?_) ?_
        · rw [if_neg (by refine Bool.eq_false_iff.1 ?_; kernel_rfl)]
          refine hK.out _ _ hHeld (fun hHeld => ?_)
          clear hK K
          try simp only [Act.put, List.setIfInBounds_toArray, List.set_cons_zero, List.set_cons_succ]
          refine wpAnyH_take (i := 10) (oi := { dst := some 29, op := Go.Op.pick (Go.Operand.tmp 23) (Go.Operand.tmp 28) (Go.Operand.const (Go.Value.bool false)), type := 4, pos := "l07_nfa.go:133", after := #[{ on := 4, ground := Go.Ground.data }, { on := 9, ground := Go.Ground.data }], guard := none }) (v := ?_) rfl (by kernel_rfl) (by kernel_rfl) (by kernel_rfl) (fun _ _ _ h => h) (Or.inl ⟨by kernel_rfl, ?_⟩) (by assumption) ?_
          rotate_left
          · intro w hSw; (try dsimp only at hSw); go_simp; try with_reducible rfl
          simp only [Act.put, List.setIfInBounds_toArray, List.set_cons_zero, List.set_cons_succ]
          refine wpAnyH_take (i := 11) (oi := { dst := some 4, op := Go.Op.assign (Go.Operand.tmp 29), type := 4, pos := "l07_nfa.go:133", after := #[{ on := 10, ground := Go.Ground.data }, { on := 9, ground := Go.Ground.chain }, { on := 0, ground := Go.Ground.phase }, { on := 1, ground := Go.Ground.phase }, { on := 2, ground := Go.Ground.phase }, { on := 3, ground := Go.Ground.phase }, { on := 4, ground := Go.Ground.phase }, { on := 5, ground := Go.Ground.phase }, { on := 6, ground := Go.Ground.phase }, { on := 7, ground := Go.Ground.phase }, { on := 8, ground := Go.Ground.phase }, { on := 9, ground := Go.Ground.phase }, { on := 10, ground := Go.Ground.phase }], guard := none }) (v := ?_) rfl (by kernel_rfl) (by kernel_rfl) (by kernel_rfl) (fun _ _ _ h => h) (Or.inl ⟨by kernel_rfl, ?_⟩) (by assumption) ?_
          rotate_left
          · intro w hSw; (try dsimp only at hSw); go_simp; try with_reducible rfl
          simp only [Act.put, List.setIfInBounds_toArray, List.set_cons_zero, List.set_cons_succ]
          refine wpAnyH_done (by kernel_rfl) ?_ _
          clear hHeld
          go_wp2
          go_ret
          exact ⟨by rw [HRF.out]; rfl, HBG.out.trans (HDW.out.mono (by have := HBG.out.size; have := HSU.out; omega))⟩
        exact AllReadyH.nil
      exact AllReadyH.nil
    exact AllReadyH.nil
end Go.Proofs.Ytdhkkabcgehjpaa
