/-
  The model's text of a path: spec.l08Show, spec.ShowPath.
-/
import Derived.Test.YtkcflhlipdnbnaaShM
import Derived.Test.YtkcflhlipdnbnaaQyT
import Derived.Test.YtkcflhlipdnbnaaNxS
import Derived.Deep.RegionHeld3
import Derived.Laws.IdiomStrings
namespace Go.Proofs.Ytkcflhlipdnbnaa
open Go.RowKit

theorem PathIn.op {lo hi bb oo : Nat} {w : World} {l : List Pc} (h : PathIn lo hi w (some ⟨bb, oo, none⟩) l) {i : Nat} (hi' : i < l.length) : w.cell? ⟨bb, oo + i * 3, none⟩ = some (.int .i64 (pat l i).1) ∧ bb < hi := by
  obtain ⟨b, o, e, _, h2, h3, _⟩ := h.piece hi'
  simp only [Option.some.injEq, Addr.mk.injEq] at e
  obtain ⟨rfl, rfl, _⟩ := e
  exact ⟨h3, h2⟩
theorem conv_u8 (w : World) (x : Int) (h : 0 ≤ x ∧ x < 256) :
    (convert 65 9 (.slice (some ⟨w.heap.size, 0, none⟩) 1 1)).run Try.prog (w.alloc (.cells #[.int .u8 x] 5)) = .ok (.string ⟨#[UInt8.ofNat x.toNat]⟩) (w.alloc (.cells #[.int .u8 x] 5)) := by
  have e : ((UInt8.ofNat x.toNat).toNat : Int) = x := by rw [UInt8.toNat_ofNat']; omega
  refine run_convert_bytes_back _ 65 9 5 ⟨w.heap.size, 0, none⟩ 1 [UInt8.ofNat x.toNat] Try.underlying65 Try.underlying5 Try.underlying9 fun j hj => ?_
  have hj0 : j = 0 := by simpa using hj
  subst hj0
  show (w.alloc _).cell? ⟨w.heap.size, 0, none⟩ = some (.int .u8 (((UInt8.ofNat x.toNat).toNat : Nat) : Int))
  rw [e, cell_new1 w _ _ _ rfl]
theorem emb_em : (emT.toList == ([] : List UInt8)) = true := by decide +kernel
theorem emb_no {t : Tx} (h : ¬ t = emT) : (t.toList == ([] : List UInt8)) = false := by
  rw [Bool.eq_false_iff]
  intro e
  have e2 : t.toList = [] := by simpa using e
  rw [Lib.toList_data] at e2
  exact h (em_of_size (by show t.data.size = 0; rw [← Array.length_toList, e2]; rfl))

set_option maxHeartbeats 16000000 in
set_option maxRecDepth 100000 in
theorem l08Show_step (lo hi : Nat) (b : Option Addr) (m mc : Nat) (ps : List Pc) (k : Nat) (wi : Bool) (w : World) (ha : PathIn lo hi w b ps) (hh : hi ≤ w.heap.size) (hn : ps.length = m) (hk : k < m) (hok : ∀ i, i < m → formOk (pat ps i) = true ∧ kidsOk i (pat ps i).2.2 = true) (hq : ∀ i, i < m → (pat ps i).2.2.length ≤ 1048576) (hwi : wi = true → (pat ps k).1 = 2 ∨ (pat ps k).1 = 3)
    (IH : ∀ z, z < k → ∀ (v : Bool) w0, Below w.heap.size w w0 → (v = true → (pat ps z).1 = 2 ∨ (pat ps z).1 = 3) → Calls Try.prog 70 #[pv b m mc, .int .i64 (z : Int), .bool v] w0 fun e w' => e = .returned (.string (wrapT (oneT ps z) v)) ∧ Hid (Below w0.heap.size w0 w')) :
    Calls Try.prog 70 #[pv b m mc, .int .i64 (k : Int), .bool wi] w fun e w' => e = .returned (.string (wrapT (oneT ps k) wi)) ∧ Hid (Below w.heap.size w w') := by
  obtain ⟨i9, hi9, hz90, hz91, hz92⟩ := info_parts info9s
  obtain ⟨bb, oo, rfl, _, hbh, p0, p1, ra, rc, p2, hrow⟩ := ha.piece (k := k) (by rw [hn]; exact hk)
  have HIH : Hid (∀ z, z < k → ∀ (v : Bool) w0, Below w.heap.size w w0 → (v = true → (pat ps z).1 = 2 ∨ (pat ps z).1 = 3) → Calls Try.prog 70 #[pv (some ⟨bb, oo, none⟩) m mc, .int .i64 (z : Int), .bool v] w0 fun e w' => e = .returned (.string (wrapT (oneT ps z) v)) ∧ Hid (Below w0.heap.size w0 w')) := IH
  have HN : Hid (ps.length = m) := hn
  obtain ⟨x, HX⟩ : ∃ x, Hid (x = pat ps k) := ⟨_, rfl⟩
  have HOK := hok k hk
  have hql := hq k hk
  rw [← HX.out] at p0 p1 p2 hrow HOK hwi hql
  have HONE : Hid (oneT ps k = pcT (shT ps k) ps x) := by show _ = _; unfold oneT; rw [← HX.out]
  obtain ⟨x0, x1, ks⟩ := x
  dsimp only at p0 p1 p2 hrow hwi hql
  obtain ⟨q, HQL⟩ : ∃ q, Hid (ks.length = q) := ⟨_, rfl⟩
  rw [HQL.out] at p2 hql
  obtain ⟨B, HB⟩ : ∃ B, Hid (B = w.heap.size) := ⟨_, rfl⟩
  obtain ⟨W, HW⟩ : ∃ W, Hid (W = (w.alloc (.cells #[.slice (some ⟨bb, oo, none⟩) m mc] 34)).alloc (.cells #[.int .i64 x0, .int .u8 x1, .slice ra q rc] 120)) := ⟨_, rfl⟩
  have HBW : Hid (Below w.heap.size w W) := by rw [HW.out]; exact below2 w _ _
  have HSW : Hid (W.heap.size = B + 2) := by rw [HW.out, HB.out]; show _ = _; simp
  have HPB : Hid (Blk W B 1 (fun _ => .slice (some ⟨bb, oo, none⟩) m mc)) := by rw [HW.out]; exact (blk_one w B HB.out _ _).alloc _
  have HXB : Hid (Blk W (B + 1) 3 (fun i => if i = 0 then .int .i64 x0 else if i = 1 then .int .u8 x1 else .slice ra q rc)) := by rw [HW.out]; exact blk_three _ (B + 1) (by rw [HB.out]; simp) _ _ _ _
  have HPW : Hid (PathIn lo hi W (some ⟨bb, oo, none⟩) ps) := ha.below HBW.out hh
  have HRW : Hid (RowIn lo hi W ra ks) := hrow.below HBW.out hh
  have HH : Hid (hi ≤ B) := by rw [HB.out]; exact hh
  have HKO : Hid (∀ j, j < q → ∃ z : Nat, ks.getD j 0 = (z : Int) ∧ z < k) := fun j hj => by
    have h1 := List.all_eq_true.1 HOK.2 (ks.getD j 0) (by rw [List.getD, List.getElem?_eq_getElem (by rw [HQL.out]; exact hj)]; exact List.getElem_mem _)
    simp only [Bool.and_eq_true, decide_eq_true_eq] at h1
    exact ⟨(ks.getD j 0).toNat, by omega, by omega⟩
  have hform := formOk_cases HOK.1
  have HWI : Hid (wi = true → x0 = 2 ∨ x0 = 3) := hwi
  have hkm0 : (0 : Int) ≤ (k : Int) := by omega
  have hkm1 : (k : Int) < (m : Int) := by omega
  obtain ⟨TS, HTS⟩ : ∃ l, Hid (l = shT ps k) := ⟨_, rfl⟩
  rw [← HTS.out] at HONE
  have HTZ : Hid (∀ z, z < k → tat TS z = oneT ps z) := fun z hz => by rw [HTS.out]; exact shT_at ps hz
  obtain ⟨RR, HRR⟩ : ∃ R, Hid (R = wrapT (oneT ps k) wi) := ⟨_, rfl⟩
  rw [← HRR.out]
  clear ha hh IH hok hq hrow HOK hwi
  go_enter Try.func70, Try.ntmps70
  go_upto_region 1 with fail
  have g0 := cell_below p0 (below1 w (.cells #[.slice (some ⟨bb, oo, none⟩) m mc] 34)) (by have := HH.out; have := HB.out; omega)
  have g1 := cell_below p1 (below1 w (.cells #[.slice (some ⟨bb, oo, none⟩) m mc] 34)) (by have := HH.out; have := HB.out; omega)
  have g2 := cell_below p2 (below1 w (.cells #[.slice (some ⟨bb, oo, none⟩) m mc] 34)) (by have := HH.out; have := HB.out; omega)
  clear p0 p1 p2
  go_upto_region 2 with fail
  rw [← HB.out]
  first | rw [← HW.out] | (rw [show _ = W from HW.out.symm])
  clear HW g0 g1 g2
  rcases hform with ⟨rfl, h3, h4⟩ | h23
  · -- a step
    have hl := isL_yes h3
    have hcv := fun w0 => conv_u8 w0 x1 (by omega)
    have HWF : Hid (wi = false) := by
      rcases Bool.eq_false_or_eq_true wi with h | h
      · rcases HWI.out h with e | e <;> omega
      · exact h
    have HRE : Hid (RR = ⟨#[UInt8.ofNat x1.toNat]⟩) := by
      show _ = _
      rw [HRR.out, HONE.out, HWF.out]
      unfold wrapT pcT
      rw [if_pos rfl, if_neg (fun e => by have := congrArg ByteArray.size e; rw [size_em] at this; exact absurd this (by show ¬ 1 = 0; omega)), if_neg (by simp)]
    obtain ⟨c0, c1, c2⟩ : W.cell? ⟨B + 1, 0, none⟩ = some (.int .i64 1) ∧ W.cell? ⟨B + 1, 1, none⟩ = some (.int .u8 x1) ∧ W.cell? ⟨B + 1, 2, none⟩ = some (.slice ra q rc) := ⟨HXB.out.cell (i := 0) (by omega), HXB.out.cell (i := 1) (by omega), HXB.out.cell (i := 2) (by omega)⟩
    go_wp2
    go_ret
    exact ⟨by rw [HRE.out]; rfl, HBW.out.alloc (by have := HSW.out; have := HB.out; omega) _⟩
  · have HCX : Hid (∀ z, Below (B + 2) W z → (z.cell? ⟨B, 0, none⟩ = some (.slice (some ⟨bb, oo, none⟩) m mc)) ∧ (z.cell? ⟨B + 1, 0, none⟩ = some (.int .i64 x0) ∧ z.cell? ⟨B + 1, 2, none⟩ = some (.slice ra q rc))) := fun z h => by
      have h1 := HPB.out.of_block (h.block _ (by omega))
      have h2 := HXB.out.of_block (h.block _ (by omega))
      exact ⟨h1.cell (i := 0) (by omega), h2.cell (i := 0) (by omega), h2.cell (i := 2) (by omega)⟩
    have HWZ : Hid (∀ z, Below (B + 2) W z → Below w.heap.size w z) := fun z h => HBW.out.trans (h.mono (by have := HB.out; omega))
    obtain ⟨c0, c1, c2⟩ := HCX.out W (Below.refl _ _)
    by_cases hx23 : x0 = 2 ∨ x0 = 3
    · -- a row, or either of
      have HQ2 : Hid (2 ≤ q) := by
        rcases h23 with h | h | h | h | h
        · have := h.2.2; have := HQL.out; show _ ≤ _; omega
        · have := h.2.2; have := HQL.out; show _ ≤ _; omega
        all_goals have := h.1; omega
      have HX23 : Hid (x0 = 2 ∨ x0 = 3) := hx23
      clear h23
      have HPC : Hid (oneT ps k = match kT TS ps x0 ks q with | none => emT | some t => t) := by
        show _ = _
        rw [HONE.out]
        unfold pcT kidsT
        rw [if_neg (show ¬ x0 = 1 by omega)]
        dsimp only
        rw [HQL.out]
        cases kT TS ps x0 ks q with
        | none => rfl
        | some t => show t ++ behT x0 = t; unfold behT; rw [if_pos HX23.out]; exact app_em t
      have HX1 : Hid (¬ x0 = 1) := by show ¬ _; omega
      rcases hx23 with hx | hx
      · obtain rfl : x0 = 2 := hx
        go_wp2
        go_loopw [9, 8] (fun i v wr => ∃ (j : Nat) (t : Tx), i = .int .i64 (j : Int) ∧ v = .string t ∧ j ≤ q ∧ Hid (kT TS ps 2 ks j = some t) ∧ Hid (Below (B + 2) W wr)) (fun i _ _ => q - (intOf i).toNat)
        case atStart => exact ⟨0, emT, rfl, rfl, by omega, rfl, Below.refl _ _⟩
        case round =>
          obtain ⟨j, t, rfl, rfl, hj, HKT, HBR⟩ := hrel
          clear c0 c1 c2
          obtain ⟨c0, c1, c2⟩ := HCX.out wr HBR.out
          have hts : t.size ≤ 20 := kT_le HKT.out
          by_cases hlt : j < q
          · have hlt1 : (j : Int) < (q : Int) := by omega
            have hlt0 : (0 : Int) ≤ (j : Int) := by omega
            obtain ⟨z, hz, hzk⟩ := HKO.out j hlt
            obtain ⟨rb, ro, rfl, hr⟩ := (HRW.out.below HBR.out (by have := HH.out; omega)).num (i := j) (by rw [HQL.out]; exact hlt)
            rw [hz] at hr
            obtain ⟨hop, _⟩ := (HPW.out.below HBR.out (by have := HH.out; omega)).op (i := z) (by rw [HN.out]; omega)
            obtain ⟨y, HY⟩ : ∃ y, Hid (y = (pat ps z).1) := ⟨_, rfl⟩
            rw [← HY.out] at hop
            have hz0 : (0 : Int) ≤ (z : Int) := by omega
            have hz1 : (z : Int) < (m : Int) := by omega
            obtain ⟨wz, HWZ2⟩ : ∃ v, Hid (v = inPar 2 y) := ⟨_, rfl⟩
            obtain ⟨v, HV⟩ : ∃ v, Hid (v = wrapT (oneT ps z) wz) := ⟨_, rfl⟩
            have hvs : v.size ≤ 20 := by rw [HV.out]; exact wrapT_le (oneT_le ps z) wz
            have HSTEP : Hid (kT TS ps 2 ks (j + 1) = if v = emT ∨ 20 < ((if (2 : Int) = 3 ∧ 0 < j then t ++ barT else t) ++ v).size then none else some ((if (2 : Int) = 3 ∧ 0 < j then t ++ barT else t) ++ v)) := kT_step (by omega) HKT.out (by rw [hz, show ((z : Int)).toNat = z by omega, HTZ.out _ hzk, HV.out, HWZ2.out, HY.out])
            have HST2 : Hid (kT TS ps 2 ks (j + 1) = if v = emT ∨ 20 < (t ++ v).size then none else some (t ++ v)) := by
              have h := HSTEP.out
              rw [if_neg (show ¬ ((2 : Int) = 3 ∧ 0 < j) by omega)] at h
              exact h
            clear HSTEP
            have HWW : Hid (wz = true → (pat ps z).1 = 2 ∨ (pat ps z).1 = 3) := fun h => by
              rw [HWZ2.out, HY.out] at h
              unfold inPar at h
              simp at h
              omega
            have HCC : Hid (∀ w0, Below w.heap.size w w0 → Calls Try.prog 70 #[pv (some ⟨bb, oo, none⟩) m mc, .int .i64 (z : Int), .bool wz] w0 fun e w' => e = .returned (.string v) ∧ Hid (Below w0.heap.size w0 w')) := fun w0 h => by rw [HV.out]; exact HIH.out z hzk wz w0 h HWW.out
            have HZZ : Hid (ks.getD j 0 = (z : Int)) := hz
            clear hz hzk
            go_wp2_with fail
            go_quiet (fail)
            obtain ⟨V, HVV⟩ : ∃ V, Hid (V = wr.drewN nq) := ⟨_, rfl⟩
            have HBV : Hid (Below (B + 2) W V) := by rw [HVV.out]; exact HBR.out.trans (below_drewN (Below.refl _ _) _)
            rw [← HVV.out]
            have hrV : V.cell? ⟨rb, ro + j, none⟩ = some (.int .i64 (z : Int)) := by rw [HVV.out]; exact hr
            clear HVV c0 c1 c2 hop
            obtain ⟨c0, c1, c2⟩ := HCX.out V HBV.out
            have HKS : Hid (∀ wz, Below V.heap.size V wz → (wz.cell? ⟨B, 0, none⟩ = some (.slice (some ⟨bb, oo, none⟩) m mc)) ∧ (wz.cell? ⟨B + 1, 0, none⟩ = some (.int .i64 2) ∧ wz.cell? ⟨B + 1, 2, none⟩ = some (.slice (some ⟨rb, ro, none⟩) q rc)) ∧ wz.cell? ⟨rb, ro + j, none⟩ = some (.int .i64 (z : Int))) := fun wz h => by
              have h1 := HCX.out wz (HBV.out.trans (h.mono (by have := HBV.out.size; have := HSW.out; omega)))
              exact ⟨h1.1, h1.2, cell_below hrV h (lt_of_cell hrV)⟩
            have HBD : Hid (Below V.heap.size V V.drew) := (Below.refl _ _).drew
            have HBVW : Hid (Below w.heap.size w V) := HWZ.out _ HBV.out
            clear c0 c1 c2 hrV hr
            go_upto_region 18 with fail
            go_cut [11] (fun vv wc => vv = .string v ∧ Hid (Below V.heap.size V wc))
            case first =>
              by_cases hy3 : y = 3
              · subst hy3
                obtain rfl : wz = true := by rw [HWZ2.out]; decide
                refine wp_region_held_drew (S := fun wz => (wz.cell? ⟨B, 0, none⟩ = some (.slice (some ⟨bb, oo, none⟩) m mc)) ∧ (wz.cell? ⟨B + 1, 0, none⟩ = some (.int .i64 2) ∧ wz.cell? ⟨B + 1, 2, none⟩ = some (.slice (some ⟨rb, ro, none⟩) q rc)) ∧ wz.cell? ⟨rb, ro + j, none⟩ = some (.int .i64 (z : Int))) (by kernel_rfl) (HKS.out _ HBD.out) (fun hHeld => ?_)
                refine wpAnyH_take (i := 0) (oi := { dst := some 79, op := Go.Op.load 34 (Go.Operand.tmp 3), type := 34, pos := "l08_query.go:272", after := #[], guard := none }) (v := ?_) rfl (by kernel_rfl) (by kernel_rfl) (by kernel_rfl) (fun _ _ _ h => h) (Or.inl ⟨by kernel_rfl, ?_⟩) (by assumption) ?_
                rotate_left
                · intro w hSw; (try dsimp only at hSw); go_simp; try with_reducible rfl
                simp only [Act.put, List.setIfInBounds_toArray, List.set_cons_zero, List.set_cons_succ]
                refine wpAnyH_take (i := 1) (oi := { dst := some 80, op := Go.Op.fieldAddr 120 (Go.Operand.tmp 7) 2, type := 0, pos := "l08_query.go:272", after := #[], guard := none }) (v := ?_) rfl (by kernel_rfl) (by kernel_rfl) (by kernel_rfl) (fun _ _ _ h => h) (Or.inl ⟨by kernel_rfl, ?_⟩) (by assumption) ?_
                rotate_left
                · intro w hSw; (try dsimp only at hSw); go_simp; try with_reducible rfl
                simp only [Act.put, List.setIfInBounds_toArray, List.set_cons_zero, List.set_cons_succ]
                refine wpAnyH_take (i := 2) (oi := { dst := some 81, op := Go.Op.load 68 (Go.Operand.tmp 80), type := 68, pos := "l08_query.go:272", after := #[{ on := 1, ground := Go.Ground.data }], guard := none }) (v := ?_) rfl (by kernel_rfl) (by kernel_rfl) (by kernel_rfl) (fun _ _ _ h => h) (Or.inl ⟨by kernel_rfl, ?_⟩) (by assumption) ?_
                rotate_left
                · intro w hSw; (try dsimp only at hSw); go_simp; try with_reducible rfl
                simp only [Act.put, List.setIfInBounds_toArray, List.set_cons_zero, List.set_cons_succ]
                refine wpAnyH_take (i := 3) (oi := { dst := some 82, op := Go.Op.move (Go.Operand.tmp 9), type := 3, pos := "l08_query.go:272", after := #[], guard := none }) (v := ?_) rfl (by kernel_rfl) (by kernel_rfl) (by kernel_rfl) (fun _ _ _ h => h) (Or.inl ⟨by kernel_rfl, ?_⟩) (by assumption) ?_
                rotate_left
                · intro w hSw; (try dsimp only at hSw); go_simp; try with_reducible rfl
                simp only [Act.put, List.setIfInBounds_toArray, List.set_cons_zero, List.set_cons_succ]
                refine wpAnyH_take (i := 4) (oi := { dst := some 83, op := Go.Op.indexAddr 68 (Go.Operand.tmp 81) (Go.Operand.tmp 82), type := 0, pos := "l08_query.go:272", after := #[{ on := 2, ground := Go.Ground.data }, { on := 3, ground := Go.Ground.data }], guard := none }) (v := ?_) rfl (by kernel_rfl) (by kernel_rfl) (by kernel_rfl) (fun _ _ _ h => h) (Or.inl ⟨by kernel_rfl, ?_⟩) (by assumption) ?_
                rotate_left
                · intro w hSw; (try dsimp only at hSw); go_simp; try with_reducible rfl
                simp only [Act.put, List.setIfInBounds_toArray, List.set_cons_zero, List.set_cons_succ]
                refine wpAnyH_take (i := 5) (oi := { dst := some 84, op := Go.Op.load 3 (Go.Operand.tmp 83), type := 3, pos := "l08_query.go:272", after := #[{ on := 4, ground := Go.Ground.data }], guard := none }) (v := ?_) rfl (by kernel_rfl) (by kernel_rfl) (by kernel_rfl) (fun _ _ _ h => h) (Or.inl ⟨by kernel_rfl, ?_⟩) (by assumption) ?_
                rotate_left
                · intro w hSw; (try dsimp only at hSw); go_simp; try with_reducible rfl
                simp only [Act.put, List.setIfInBounds_toArray, List.set_cons_zero, List.set_cons_succ]
                refine wpAnyH_take (i := 6) (oi := { dst := some 85, op := Go.Op.move (Go.Operand.tmp 10), type := 3, pos := "l08_query.go:272", after := #[], guard := none }) (v := ?_) rfl (by kernel_rfl) (by kernel_rfl) (by kernel_rfl) (fun _ _ _ h => h) (Or.inl ⟨by kernel_rfl, ?_⟩) (by assumption) ?_
                rotate_left
                · intro w hSw; (try dsimp only at hSw); go_simp; try with_reducible rfl
                simp only [Act.put, List.setIfInBounds_toArray, List.set_cons_zero, List.set_cons_succ]
                refine wpAnyH_take (i := 7) (oi := { dst := some 86, op := Go.Op.binOp Go.BinOp.eql 3 (Go.Operand.tmp 85) (Go.Operand.const (Go.Value.int Go.IntKind.i64 3)) 3, type := 4, pos := "l08_query.go:272", after := #[{ on := 6, ground := Go.Ground.data }], guard := none }) (v := ?_) rfl (by kernel_rfl) (by kernel_rfl) (by kernel_rfl) (fun _ _ _ h => h) (Or.inl ⟨by kernel_rfl, ?_⟩) (by assumption) ?_
                rotate_left
                · intro w hSw; (try dsimp only at hSw); go_simp; try with_reducible rfl
                simp only [Act.put, List.setIfInBounds_toArray, List.set_cons_zero, List.set_cons_succ]
                refine wpAnyH_take (i := 8) (oi := { dst := some 87, op := Go.Op.move (Go.Operand.tmp 86), type := 4, pos := "l08_query.go:272", after := #[{ on := 7, ground := Go.Ground.data }], guard := none }) (v := ?_) rfl (by kernel_rfl) (by kernel_rfl) (by kernel_rfl) (fun _ _ _ h => h) (Or.inl ⟨by kernel_rfl, ?_⟩) (by assumption) ?_
                rotate_left
                · intro w hSw; (try dsimp only at hSw); go_simp; try with_reducible rfl
                simp only [Act.put, List.setIfInBounds_toArray, List.set_cons_zero, List.set_cons_succ]
                refine wpAnyH_take (i := 9) (oi := { dst := some 88, op := Go.Op.move (Go.Operand.tmp 10), type := 3, pos := "l08_query.go:272", after := #[{ on := 8, ground := Go.Ground.guard }], guard := some (8, false) }) (v := undef) rfl (by kernel_rfl) (by kernel_rfl) (by kernel_rfl) (fun _ _ _ h => h) (Or.inr ⟨by kernel_rfl, rfl⟩) (by assumption) ?_
                simp only [Act.put, List.setIfInBounds_toArray, List.set_cons_zero, List.set_cons_succ]
                refine wpAnyH_take (i := 10) (oi := { dst := some 89, op := Go.Op.binOp Go.BinOp.eql 3 (Go.Operand.tmp 88) (Go.Operand.const (Go.Value.int Go.IntKind.i64 2)) 3, type := 4, pos := "l08_query.go:272", after := #[{ on := 9, ground := Go.Ground.data }, { on := 8, ground := Go.Ground.guard }], guard := some (8, false) }) (v := undef) rfl (by kernel_rfl) (by kernel_rfl) (by kernel_rfl) (fun _ _ _ h => h) (Or.inr ⟨by kernel_rfl, rfl⟩) (by assumption) ?_
                simp only [Act.put, List.setIfInBounds_toArray, List.set_cons_zero, List.set_cons_succ]
                refine wpAnyH_take (i := 11) (oi := { dst := some 90, op := Go.Op.move (Go.Operand.tmp 89), type := 4, pos := "l08_query.go:272", after := #[{ on := 10, ground := Go.Ground.data }, { on := 8, ground := Go.Ground.chain }, { on := 8, ground := Go.Ground.guard }], guard := some (8, false) }) (v := undef) rfl (by kernel_rfl) (by kernel_rfl) (by kernel_rfl) (fun _ _ _ h => h) (Or.inr ⟨by kernel_rfl, rfl⟩) (by assumption) ?_
                simp only [Act.put, List.setIfInBounds_toArray, List.set_cons_zero, List.set_cons_succ]
                refine wpAnyH_take (i := 12) (oi := { dst := some 91, op := Go.Op.fieldAddr 120 (Go.Operand.tmp 7) 0, type := 0, pos := "l08_query.go:272", after := #[{ on := 11, ground := Go.Ground.guard }], guard := some (11, true) }) (v := undef) rfl (by kernel_rfl) (by kernel_rfl) (by kernel_rfl) (fun _ _ _ h => h) (Or.inr ⟨by kernel_rfl, rfl⟩) (by assumption) ?_
                simp only [Act.put, List.setIfInBounds_toArray, List.set_cons_zero, List.set_cons_succ]
                refine wpAnyH_take (i := 13) (oi := { dst := some 92, op := Go.Op.load 3 (Go.Operand.tmp 91), type := 3, pos := "l08_query.go:272", after := #[{ on := 12, ground := Go.Ground.data }, { on := 11, ground := Go.Ground.guard }], guard := some (11, true) }) (v := undef) rfl (by kernel_rfl) (by kernel_rfl) (by kernel_rfl) (fun _ _ _ h => h) (Or.inr ⟨by kernel_rfl, rfl⟩) (by assumption) ?_
                simp only [Act.put, List.setIfInBounds_toArray, List.set_cons_zero, List.set_cons_succ]
                refine wpAnyH_take (i := 14) (oi := { dst := some 93, op := Go.Op.binOp Go.BinOp.eql 3 (Go.Operand.tmp 92) (Go.Operand.const (Go.Value.int Go.IntKind.i64 2)) 3, type := 4, pos := "l08_query.go:272", after := #[{ on := 13, ground := Go.Ground.data }, { on := 11, ground := Go.Ground.guard }], guard := some (11, true) }) (v := undef) rfl (by kernel_rfl) (by kernel_rfl) (by kernel_rfl) (fun _ _ _ h => h) (Or.inr ⟨by kernel_rfl, rfl⟩) (by assumption) ?_
                simp only [Act.put, List.setIfInBounds_toArray, List.set_cons_zero, List.set_cons_succ]
                refine wpAnyH_take (i := 15) (oi := { dst := some 94, op := Go.Op.pick (Go.Operand.tmp 90) (Go.Operand.tmp 93) (Go.Operand.const (Go.Value.bool false)), type := 4, pos := "l08_query.go:272", after := #[{ on := 11, ground := Go.Ground.data }, { on := 14, ground := Go.Ground.data }, { on := 8, ground := Go.Ground.guard }], guard := some (8, false) }) (v := undef) rfl (by kernel_rfl) (by kernel_rfl) (by kernel_rfl) (fun _ _ _ h => h) (Or.inr ⟨by kernel_rfl, rfl⟩) (by assumption) ?_
                simp only [Act.put, List.setIfInBounds_toArray, List.set_cons_zero, List.set_cons_succ]
                refine wpAnyH_take (i := 16) (oi := { dst := some 95, op := Go.Op.pick (Go.Operand.tmp 87) (Go.Operand.const (Go.Value.bool true)) (Go.Operand.tmp 94), type := 4, pos := "l08_query.go:272", after := #[{ on := 8, ground := Go.Ground.data }, { on := 15, ground := Go.Ground.data }], guard := none }) (v := ?_) rfl (by kernel_rfl) (by kernel_rfl) (by kernel_rfl) (fun _ _ _ h => h) (Or.inl ⟨by kernel_rfl, ?_⟩) (by assumption) ?_
                rotate_left
                · intro w hSw; (try dsimp only at hSw); go_simp; try with_reducible rfl
                simp only [Act.put, List.setIfInBounds_toArray, List.set_cons_zero, List.set_cons_succ]
                refine wpAnyH_ready (rs := [17]) (by kernel_rfl) (by simp) ?_
                refine AllReadyH.cons (o := { dst := some 96, op := Go.Op.call { callee := Go.Callee.value (Go.Operand.func 70), args := #[Go.Operand.tmp 79, Go.Operand.tmp 84, Go.Operand.tmp 95], argTypes := #[34, 3, 4] }, type := 9, pos := "l08_query.go:272", after := #[{ on := 0, ground := Go.Ground.data }, { on := 5, ground := Go.Ground.data }, { on := 16, ground := Go.Ground.data }, { on := 11, ground := Go.Ground.chain }], guard := none }) rfl (fun K hK => ?_) ?_
                · go_wp2_with (go_at_call 70; refine (HCC.out _ (HBVW.out.trans (HBD.out.mono HBVW.out.size))).mono ?_; rintro e w4 ⟨rfl, HB4⟩)
                  have HB4V : Hid (Below V.heap.size V w4) := HBD.out.trans (HB4.out.mono HBD.out.size)
                  refine hK.out _ _ (HKS.out _ HB4V.out) (fun hHeld => ?_)
                  clear hK K
                  try simp only [Act.put, List.setIfInBounds_toArray, List.set_cons_zero, List.set_cons_succ]
                  refine wpAnyH_take (i := 18) (oi := { dst := some 11, op := Go.Op.assign (Go.Operand.tmp 96), type := 9, pos := "l08_query.go:272", after := #[{ on := 17, ground := Go.Ground.data }, { on := 17, ground := Go.Ground.chain }, { on := 0, ground := Go.Ground.phase }, { on := 1, ground := Go.Ground.phase }, { on := 2, ground := Go.Ground.phase }, { on := 3, ground := Go.Ground.phase }, { on := 4, ground := Go.Ground.phase }, { on := 5, ground := Go.Ground.phase }, { on := 6, ground := Go.Ground.phase }, { on := 7, ground := Go.Ground.phase }, { on := 8, ground := Go.Ground.phase }, { on := 9, ground := Go.Ground.phase }, { on := 10, ground := Go.Ground.phase }, { on := 11, ground := Go.Ground.phase }, { on := 12, ground := Go.Ground.phase }, { on := 13, ground := Go.Ground.phase }, { on := 14, ground := Go.Ground.phase }, { on := 15, ground := Go.Ground.phase }, { on := 16, ground := Go.Ground.phase }, { on := 17, ground := Go.Ground.phase }], guard := none }) (v := ?_) rfl (by kernel_rfl) (by kernel_rfl) (by kernel_rfl) (fun _ _ _ h => h) (Or.inl ⟨by kernel_rfl, ?_⟩) (by assumption) ?_
                  rotate_left
                  · intro w hSw; (try dsimp only at hSw); go_simp; try with_reducible rfl
                  simp only [Act.put, List.setIfInBounds_toArray, List.set_cons_zero, List.set_cons_succ]
                  refine wpAnyH_done (by kernel_rfl) ?_ _
                  clear hHeld
                  first | (go_meet; case rel => exact ⟨rfl, HB4V⟩) | (go_wp2_with fail; go_meet; case rel => exact ⟨rfl, HB4V⟩)
                exact AllReadyH.nil
              · have hd3 : decide (y = 3) = false := decide_eq_false hy3
                have hb3 : (y == 3) = false := by simpa using hy3
                by_cases hy2 : y = 2
                · subst hy2
                  obtain rfl : wz = true := by rw [HWZ2.out]; decide
                  refine wp_region_held_drew (S := fun wz => (wz.cell? ⟨B, 0, none⟩ = some (.slice (some ⟨bb, oo, none⟩) m mc)) ∧ (wz.cell? ⟨B + 1, 0, none⟩ = some (.int .i64 2) ∧ wz.cell? ⟨B + 1, 2, none⟩ = some (.slice (some ⟨rb, ro, none⟩) q rc)) ∧ wz.cell? ⟨rb, ro + j, none⟩ = some (.int .i64 (z : Int))) (by kernel_rfl) (HKS.out _ HBD.out) (fun hHeld => ?_)
                  refine wpAnyH_take (i := 0) (oi := { dst := some 79, op := Go.Op.load 34 (Go.Operand.tmp 3), type := 34, pos := "l08_query.go:272", after := #[], guard := none }) (v := ?_) rfl (by kernel_rfl) (by kernel_rfl) (by kernel_rfl) (fun _ _ _ h => h) (Or.inl ⟨by kernel_rfl, ?_⟩) (by assumption) ?_
                  rotate_left
                  · intro w hSw; (try dsimp only at hSw); go_simp; try with_reducible rfl
                  simp only [Act.put, List.setIfInBounds_toArray, List.set_cons_zero, List.set_cons_succ]
                  refine wpAnyH_take (i := 1) (oi := { dst := some 80, op := Go.Op.fieldAddr 120 (Go.Operand.tmp 7) 2, type := 0, pos := "l08_query.go:272", after := #[], guard := none }) (v := ?_) rfl (by kernel_rfl) (by kernel_rfl) (by kernel_rfl) (fun _ _ _ h => h) (Or.inl ⟨by kernel_rfl, ?_⟩) (by assumption) ?_
                  rotate_left
                  · intro w hSw; (try dsimp only at hSw); go_simp; try with_reducible rfl
                  simp only [Act.put, List.setIfInBounds_toArray, List.set_cons_zero, List.set_cons_succ]
                  refine wpAnyH_take (i := 2) (oi := { dst := some 81, op := Go.Op.load 68 (Go.Operand.tmp 80), type := 68, pos := "l08_query.go:272", after := #[{ on := 1, ground := Go.Ground.data }], guard := none }) (v := ?_) rfl (by kernel_rfl) (by kernel_rfl) (by kernel_rfl) (fun _ _ _ h => h) (Or.inl ⟨by kernel_rfl, ?_⟩) (by assumption) ?_
                  rotate_left
                  · intro w hSw; (try dsimp only at hSw); go_simp; try with_reducible rfl
                  simp only [Act.put, List.setIfInBounds_toArray, List.set_cons_zero, List.set_cons_succ]
                  refine wpAnyH_take (i := 3) (oi := { dst := some 82, op := Go.Op.move (Go.Operand.tmp 9), type := 3, pos := "l08_query.go:272", after := #[], guard := none }) (v := ?_) rfl (by kernel_rfl) (by kernel_rfl) (by kernel_rfl) (fun _ _ _ h => h) (Or.inl ⟨by kernel_rfl, ?_⟩) (by assumption) ?_
                  rotate_left
                  · intro w hSw; (try dsimp only at hSw); go_simp; try with_reducible rfl
                  simp only [Act.put, List.setIfInBounds_toArray, List.set_cons_zero, List.set_cons_succ]
                  refine wpAnyH_take (i := 4) (oi := { dst := some 83, op := Go.Op.indexAddr 68 (Go.Operand.tmp 81) (Go.Operand.tmp 82), type := 0, pos := "l08_query.go:272", after := #[{ on := 2, ground := Go.Ground.data }, { on := 3, ground := Go.Ground.data }], guard := none }) (v := ?_) rfl (by kernel_rfl) (by kernel_rfl) (by kernel_rfl) (fun _ _ _ h => h) (Or.inl ⟨by kernel_rfl, ?_⟩) (by assumption) ?_
                  rotate_left
                  · intro w hSw; (try dsimp only at hSw); go_simp; try with_reducible rfl
                  simp only [Act.put, List.setIfInBounds_toArray, List.set_cons_zero, List.set_cons_succ]
                  refine wpAnyH_take (i := 5) (oi := { dst := some 84, op := Go.Op.load 3 (Go.Operand.tmp 83), type := 3, pos := "l08_query.go:272", after := #[{ on := 4, ground := Go.Ground.data }], guard := none }) (v := ?_) rfl (by kernel_rfl) (by kernel_rfl) (by kernel_rfl) (fun _ _ _ h => h) (Or.inl ⟨by kernel_rfl, ?_⟩) (by assumption) ?_
                  rotate_left
                  · intro w hSw; (try dsimp only at hSw); go_simp; try with_reducible rfl
                  simp only [Act.put, List.setIfInBounds_toArray, List.set_cons_zero, List.set_cons_succ]
                  refine wpAnyH_take (i := 6) (oi := { dst := some 85, op := Go.Op.move (Go.Operand.tmp 10), type := 3, pos := "l08_query.go:272", after := #[], guard := none }) (v := ?_) rfl (by kernel_rfl) (by kernel_rfl) (by kernel_rfl) (fun _ _ _ h => h) (Or.inl ⟨by kernel_rfl, ?_⟩) (by assumption) ?_
                  rotate_left
                  · intro w hSw; (try dsimp only at hSw); go_simp; try with_reducible rfl
                  simp only [Act.put, List.setIfInBounds_toArray, List.set_cons_zero, List.set_cons_succ]
                  refine wpAnyH_take (i := 7) (oi := { dst := some 86, op := Go.Op.binOp Go.BinOp.eql 3 (Go.Operand.tmp 85) (Go.Operand.const (Go.Value.int Go.IntKind.i64 3)) 3, type := 4, pos := "l08_query.go:272", after := #[{ on := 6, ground := Go.Ground.data }], guard := none }) (v := ?_) rfl (by kernel_rfl) (by kernel_rfl) (by kernel_rfl) (fun _ _ _ h => h) (Or.inl ⟨by kernel_rfl, ?_⟩) (by assumption) ?_
                  rotate_left
                  · intro w hSw; (try dsimp only at hSw); go_simp; try with_reducible rfl
                  simp only [Act.put, List.setIfInBounds_toArray, List.set_cons_zero, List.set_cons_succ]
                  refine wpAnyH_take (i := 8) (oi := { dst := some 87, op := Go.Op.move (Go.Operand.tmp 86), type := 4, pos := "l08_query.go:272", after := #[{ on := 7, ground := Go.Ground.data }], guard := none }) (v := ?_) rfl (by kernel_rfl) (by kernel_rfl) (by kernel_rfl) (fun _ _ _ h => h) (Or.inl ⟨by kernel_rfl, ?_⟩) (by assumption) ?_
                  rotate_left
                  · intro w hSw; (try dsimp only at hSw); go_simp; try with_reducible rfl
                  simp only [Act.put, List.setIfInBounds_toArray, List.set_cons_zero, List.set_cons_succ]
                  refine wpAnyH_take (i := 9) (oi := { dst := some 88, op := Go.Op.move (Go.Operand.tmp 10), type := 3, pos := "l08_query.go:272", after := #[{ on := 8, ground := Go.Ground.guard }], guard := some (8, false) }) (v := ?_) rfl (by kernel_rfl) (by kernel_rfl) (by kernel_rfl) (fun _ _ _ h => h) (Or.inl ⟨by kernel_rfl, ?_⟩) (by assumption) ?_
                  rotate_left
                  · intro w hSw; (try dsimp only at hSw); go_simp; try with_reducible rfl
                  simp only [Act.put, List.setIfInBounds_toArray, List.set_cons_zero, List.set_cons_succ]
                  refine wpAnyH_take (i := 10) (oi := { dst := some 89, op := Go.Op.binOp Go.BinOp.eql 3 (Go.Operand.tmp 88) (Go.Operand.const (Go.Value.int Go.IntKind.i64 2)) 3, type := 4, pos := "l08_query.go:272", after := #[{ on := 9, ground := Go.Ground.data }, { on := 8, ground := Go.Ground.guard }], guard := some (8, false) }) (v := ?_) rfl (by kernel_rfl) (by kernel_rfl) (by kernel_rfl) (fun _ _ _ h => h) (Or.inl ⟨by kernel_rfl, ?_⟩) (by assumption) ?_
                  rotate_left
                  · intro w hSw; (try dsimp only at hSw); go_simp; try with_reducible rfl
                  simp only [Act.put, List.setIfInBounds_toArray, List.set_cons_zero, List.set_cons_succ]
                  refine wpAnyH_take (i := 11) (oi := { dst := some 90, op := Go.Op.move (Go.Operand.tmp 89), type := 4, pos := "l08_query.go:272", after := #[{ on := 10, ground := Go.Ground.data }, { on := 8, ground := Go.Ground.chain }, { on := 8, ground := Go.Ground.guard }], guard := some (8, false) }) (v := ?_) rfl (by kernel_rfl) (by kernel_rfl) (by kernel_rfl) (fun _ _ _ h => h) (Or.inl ⟨by kernel_rfl, ?_⟩) (by assumption) ?_
                  rotate_left
                  · intro w hSw; (try dsimp only at hSw); go_simp; try with_reducible rfl
                  simp only [Act.put, List.setIfInBounds_toArray, List.set_cons_zero, List.set_cons_succ]
                  refine wpAnyH_take (i := 12) (oi := { dst := some 91, op := Go.Op.fieldAddr 120 (Go.Operand.tmp 7) 0, type := 0, pos := "l08_query.go:272", after := #[{ on := 11, ground := Go.Ground.guard }], guard := some (11, true) }) (v := ?_) rfl (by kernel_rfl) (by kernel_rfl) (by kernel_rfl) (fun _ _ _ h => h) (Or.inl ⟨by kernel_rfl, ?_⟩) (by assumption) ?_
                  rotate_left
                  · intro w hSw; (try dsimp only at hSw); go_simp; try with_reducible rfl
                  simp only [Act.put, List.setIfInBounds_toArray, List.set_cons_zero, List.set_cons_succ]
                  refine wpAnyH_take (i := 13) (oi := { dst := some 92, op := Go.Op.load 3 (Go.Operand.tmp 91), type := 3, pos := "l08_query.go:272", after := #[{ on := 12, ground := Go.Ground.data }, { on := 11, ground := Go.Ground.guard }], guard := some (11, true) }) (v := ?_) rfl (by kernel_rfl) (by kernel_rfl) (by kernel_rfl) (fun _ _ _ h => h) (Or.inl ⟨by kernel_rfl, ?_⟩) (by assumption) ?_
                  rotate_left
                  · intro w hSw; (try dsimp only at hSw); go_simp; try with_reducible rfl
                  simp only [Act.put, List.setIfInBounds_toArray, List.set_cons_zero, List.set_cons_succ]
                  refine wpAnyH_take (i := 14) (oi := { dst := some 93, op := Go.Op.binOp Go.BinOp.eql 3 (Go.Operand.tmp 92) (Go.Operand.const (Go.Value.int Go.IntKind.i64 2)) 3, type := 4, pos := "l08_query.go:272", after := #[{ on := 13, ground := Go.Ground.data }, { on := 11, ground := Go.Ground.guard }], guard := some (11, true) }) (v := ?_) rfl (by kernel_rfl) (by kernel_rfl) (by kernel_rfl) (fun _ _ _ h => h) (Or.inl ⟨by kernel_rfl, ?_⟩) (by assumption) ?_
                  rotate_left
                  · intro w hSw; (try dsimp only at hSw); go_simp; try with_reducible rfl
                  simp only [Act.put, List.setIfInBounds_toArray, List.set_cons_zero, List.set_cons_succ]
                  refine wpAnyH_take (i := 15) (oi := { dst := some 94, op := Go.Op.pick (Go.Operand.tmp 90) (Go.Operand.tmp 93) (Go.Operand.const (Go.Value.bool false)), type := 4, pos := "l08_query.go:272", after := #[{ on := 11, ground := Go.Ground.data }, { on := 14, ground := Go.Ground.data }, { on := 8, ground := Go.Ground.guard }], guard := some (8, false) }) (v := ?_) rfl (by kernel_rfl) (by kernel_rfl) (by kernel_rfl) (fun _ _ _ h => h) (Or.inl ⟨by kernel_rfl, ?_⟩) (by assumption) ?_
                  rotate_left
                  · intro w hSw; (try dsimp only at hSw); go_simp; try with_reducible rfl
                  simp only [Act.put, List.setIfInBounds_toArray, List.set_cons_zero, List.set_cons_succ]
                  refine wpAnyH_take (i := 16) (oi := { dst := some 95, op := Go.Op.pick (Go.Operand.tmp 87) (Go.Operand.const (Go.Value.bool true)) (Go.Operand.tmp 94), type := 4, pos := "l08_query.go:272", after := #[{ on := 8, ground := Go.Ground.data }, { on := 15, ground := Go.Ground.data }], guard := none }) (v := ?_) rfl (by kernel_rfl) (by kernel_rfl) (by kernel_rfl) (fun _ _ _ h => h) (Or.inl ⟨by kernel_rfl, ?_⟩) (by assumption) ?_
                  rotate_left
                  · intro w hSw; (try dsimp only at hSw); go_simp; try with_reducible rfl
                  simp only [Act.put, List.setIfInBounds_toArray, List.set_cons_zero, List.set_cons_succ]
                  refine wpAnyH_ready (rs := [17]) (by kernel_rfl) (by simp) ?_
                  refine AllReadyH.cons (o := { dst := some 96, op := Go.Op.call { callee := Go.Callee.value (Go.Operand.func 70), args := #[Go.Operand.tmp 79, Go.Operand.tmp 84, Go.Operand.tmp 95], argTypes := #[34, 3, 4] }, type := 9, pos := "l08_query.go:272", after := #[{ on := 0, ground := Go.Ground.data }, { on := 5, ground := Go.Ground.data }, { on := 16, ground := Go.Ground.data }, { on := 11, ground := Go.Ground.chain }], guard := none }) rfl (fun K hK => ?_) ?_
                  · go_wp2_with (go_at_call 70; refine (HCC.out _ (HBVW.out.trans (HBD.out.mono HBVW.out.size))).mono ?_; rintro e w4 ⟨rfl, HB4⟩)
                    have HB4V : Hid (Below V.heap.size V w4) := HBD.out.trans (HB4.out.mono HBD.out.size)
                    refine hK.out _ _ (HKS.out _ HB4V.out) (fun hHeld => ?_)
                    clear hK K
                    try simp only [Act.put, List.setIfInBounds_toArray, List.set_cons_zero, List.set_cons_succ]
                    refine wpAnyH_take (i := 18) (oi := { dst := some 11, op := Go.Op.assign (Go.Operand.tmp 96), type := 9, pos := "l08_query.go:272", after := #[{ on := 17, ground := Go.Ground.data }, { on := 17, ground := Go.Ground.chain }, { on := 0, ground := Go.Ground.phase }, { on := 1, ground := Go.Ground.phase }, { on := 2, ground := Go.Ground.phase }, { on := 3, ground := Go.Ground.phase }, { on := 4, ground := Go.Ground.phase }, { on := 5, ground := Go.Ground.phase }, { on := 6, ground := Go.Ground.phase }, { on := 7, ground := Go.Ground.phase }, { on := 8, ground := Go.Ground.phase }, { on := 9, ground := Go.Ground.phase }, { on := 10, ground := Go.Ground.phase }, { on := 11, ground := Go.Ground.phase }, { on := 12, ground := Go.Ground.phase }, { on := 13, ground := Go.Ground.phase }, { on := 14, ground := Go.Ground.phase }, { on := 15, ground := Go.Ground.phase }, { on := 16, ground := Go.Ground.phase }, { on := 17, ground := Go.Ground.phase }], guard := none }) (v := ?_) rfl (by kernel_rfl) (by kernel_rfl) (by kernel_rfl) (fun _ _ _ h => h) (Or.inl ⟨by kernel_rfl, ?_⟩) (by assumption) ?_
                    rotate_left
                    · intro w hSw; (try dsimp only at hSw); go_simp; try with_reducible rfl
                    simp only [Act.put, List.setIfInBounds_toArray, List.set_cons_zero, List.set_cons_succ]
                    refine wpAnyH_done (by kernel_rfl) ?_ _
                    clear hHeld
                    first | (go_meet; case rel => exact ⟨rfl, HB4V⟩) | (go_wp2_with fail; go_meet; case rel => exact ⟨rfl, HB4V⟩)
                  exact AllReadyH.nil
                · have hd2 : decide (y = 2) = false := decide_eq_false hy2
                  have hb2 : (y == 2) = false := by simpa using hy2
                  obtain rfl : wz = false := by rw [HWZ2.out]; unfold inPar; rw [hd3, hd2]; rfl
                  refine wp_region_held_drew (S := fun wz => (wz.cell? ⟨B, 0, none⟩ = some (.slice (some ⟨bb, oo, none⟩) m mc)) ∧ (wz.cell? ⟨B + 1, 0, none⟩ = some (.int .i64 2) ∧ wz.cell? ⟨B + 1, 2, none⟩ = some (.slice (some ⟨rb, ro, none⟩) q rc)) ∧ wz.cell? ⟨rb, ro + j, none⟩ = some (.int .i64 (z : Int))) (by kernel_rfl) (HKS.out _ HBD.out) (fun hHeld => ?_)
                  refine wpAnyH_take (i := 0) (oi := { dst := some 79, op := Go.Op.load 34 (Go.Operand.tmp 3), type := 34, pos := "l08_query.go:272", after := #[], guard := none }) (v := ?_) rfl (by kernel_rfl) (by kernel_rfl) (by kernel_rfl) (fun _ _ _ h => h) (Or.inl ⟨by kernel_rfl, ?_⟩) (by assumption) ?_
                  rotate_left
                  · intro w hSw; (try dsimp only at hSw); go_simp; try with_reducible rfl
                  simp only [Act.put, List.setIfInBounds_toArray, List.set_cons_zero, List.set_cons_succ]
                  refine wpAnyH_take (i := 1) (oi := { dst := some 80, op := Go.Op.fieldAddr 120 (Go.Operand.tmp 7) 2, type := 0, pos := "l08_query.go:272", after := #[], guard := none }) (v := ?_) rfl (by kernel_rfl) (by kernel_rfl) (by kernel_rfl) (fun _ _ _ h => h) (Or.inl ⟨by kernel_rfl, ?_⟩) (by assumption) ?_
                  rotate_left
                  · intro w hSw; (try dsimp only at hSw); go_simp; try with_reducible rfl
                  simp only [Act.put, List.setIfInBounds_toArray, List.set_cons_zero, List.set_cons_succ]
                  refine wpAnyH_take (i := 2) (oi := { dst := some 81, op := Go.Op.load 68 (Go.Operand.tmp 80), type := 68, pos := "l08_query.go:272", after := #[{ on := 1, ground := Go.Ground.data }], guard := none }) (v := ?_) rfl (by kernel_rfl) (by kernel_rfl) (by kernel_rfl) (fun _ _ _ h => h) (Or.inl ⟨by kernel_rfl, ?_⟩) (by assumption) ?_
                  rotate_left
                  · intro w hSw; (try dsimp only at hSw); go_simp; try with_reducible rfl
                  simp only [Act.put, List.setIfInBounds_toArray, List.set_cons_zero, List.set_cons_succ]
                  refine wpAnyH_take (i := 3) (oi := { dst := some 82, op := Go.Op.move (Go.Operand.tmp 9), type := 3, pos := "l08_query.go:272", after := #[], guard := none }) (v := ?_) rfl (by kernel_rfl) (by kernel_rfl) (by kernel_rfl) (fun _ _ _ h => h) (Or.inl ⟨by kernel_rfl, ?_⟩) (by assumption) ?_
                  rotate_left
                  · intro w hSw; (try dsimp only at hSw); go_simp; try with_reducible rfl
                  simp only [Act.put, List.setIfInBounds_toArray, List.set_cons_zero, List.set_cons_succ]
                  refine wpAnyH_take (i := 4) (oi := { dst := some 83, op := Go.Op.indexAddr 68 (Go.Operand.tmp 81) (Go.Operand.tmp 82), type := 0, pos := "l08_query.go:272", after := #[{ on := 2, ground := Go.Ground.data }, { on := 3, ground := Go.Ground.data }], guard := none }) (v := ?_) rfl (by kernel_rfl) (by kernel_rfl) (by kernel_rfl) (fun _ _ _ h => h) (Or.inl ⟨by kernel_rfl, ?_⟩) (by assumption) ?_
                  rotate_left
                  · intro w hSw; (try dsimp only at hSw); go_simp; try with_reducible rfl
                  simp only [Act.put, List.setIfInBounds_toArray, List.set_cons_zero, List.set_cons_succ]
                  refine wpAnyH_take (i := 5) (oi := { dst := some 84, op := Go.Op.load 3 (Go.Operand.tmp 83), type := 3, pos := "l08_query.go:272", after := #[{ on := 4, ground := Go.Ground.data }], guard := none }) (v := ?_) rfl (by kernel_rfl) (by kernel_rfl) (by kernel_rfl) (fun _ _ _ h => h) (Or.inl ⟨by kernel_rfl, ?_⟩) (by assumption) ?_
                  rotate_left
                  · intro w hSw; (try dsimp only at hSw); go_simp; try with_reducible rfl
                  simp only [Act.put, List.setIfInBounds_toArray, List.set_cons_zero, List.set_cons_succ]
                  refine wpAnyH_take (i := 6) (oi := { dst := some 85, op := Go.Op.move (Go.Operand.tmp 10), type := 3, pos := "l08_query.go:272", after := #[], guard := none }) (v := ?_) rfl (by kernel_rfl) (by kernel_rfl) (by kernel_rfl) (fun _ _ _ h => h) (Or.inl ⟨by kernel_rfl, ?_⟩) (by assumption) ?_
                  rotate_left
                  · intro w hSw; (try dsimp only at hSw); go_simp; try with_reducible rfl
                  simp only [Act.put, List.setIfInBounds_toArray, List.set_cons_zero, List.set_cons_succ]
                  refine wpAnyH_take (i := 7) (oi := { dst := some 86, op := Go.Op.binOp Go.BinOp.eql 3 (Go.Operand.tmp 85) (Go.Operand.const (Go.Value.int Go.IntKind.i64 3)) 3, type := 4, pos := "l08_query.go:272", after := #[{ on := 6, ground := Go.Ground.data }], guard := none }) (v := ?_) rfl (by kernel_rfl) (by kernel_rfl) (by kernel_rfl) (fun _ _ _ h => h) (Or.inl ⟨by kernel_rfl, ?_⟩) (by assumption) ?_
                  rotate_left
                  · intro w hSw; (try dsimp only at hSw); go_simp; try with_reducible rfl
                  simp only [Act.put, List.setIfInBounds_toArray, List.set_cons_zero, List.set_cons_succ]
                  refine wpAnyH_take (i := 8) (oi := { dst := some 87, op := Go.Op.move (Go.Operand.tmp 86), type := 4, pos := "l08_query.go:272", after := #[{ on := 7, ground := Go.Ground.data }], guard := none }) (v := ?_) rfl (by kernel_rfl) (by kernel_rfl) (by kernel_rfl) (fun _ _ _ h => h) (Or.inl ⟨by kernel_rfl, ?_⟩) (by assumption) ?_
                  rotate_left
                  · intro w hSw; (try dsimp only at hSw); go_simp; try with_reducible rfl
                  simp only [Act.put, List.setIfInBounds_toArray, List.set_cons_zero, List.set_cons_succ]
                  refine wpAnyH_take (i := 9) (oi := { dst := some 88, op := Go.Op.move (Go.Operand.tmp 10), type := 3, pos := "l08_query.go:272", after := #[{ on := 8, ground := Go.Ground.guard }], guard := some (8, false) }) (v := ?_) rfl (by kernel_rfl) (by kernel_rfl) (by kernel_rfl) (fun _ _ _ h => h) (Or.inl ⟨by kernel_rfl, ?_⟩) (by assumption) ?_
                  rotate_left
                  · intro w hSw; (try dsimp only at hSw); go_simp; try with_reducible rfl
                  simp only [Act.put, List.setIfInBounds_toArray, List.set_cons_zero, List.set_cons_succ]
                  refine wpAnyH_take (i := 10) (oi := { dst := some 89, op := Go.Op.binOp Go.BinOp.eql 3 (Go.Operand.tmp 88) (Go.Operand.const (Go.Value.int Go.IntKind.i64 2)) 3, type := 4, pos := "l08_query.go:272", after := #[{ on := 9, ground := Go.Ground.data }, { on := 8, ground := Go.Ground.guard }], guard := some (8, false) }) (v := ?_) rfl (by kernel_rfl) (by kernel_rfl) (by kernel_rfl) (fun _ _ _ h => h) (Or.inl ⟨by kernel_rfl, ?_⟩) (by assumption) ?_
                  rotate_left
                  · intro w hSw; (try dsimp only at hSw); go_simp; try with_reducible rfl
                  simp only [Act.put, List.setIfInBounds_toArray, List.set_cons_zero, List.set_cons_succ]
                  refine wpAnyH_take (i := 11) (oi := { dst := some 90, op := Go.Op.move (Go.Operand.tmp 89), type := 4, pos := "l08_query.go:272", after := #[{ on := 10, ground := Go.Ground.data }, { on := 8, ground := Go.Ground.chain }, { on := 8, ground := Go.Ground.guard }], guard := some (8, false) }) (v := ?_) rfl (by kernel_rfl) (by kernel_rfl) (by kernel_rfl) (fun _ _ _ h => h) (Or.inl ⟨by kernel_rfl, ?_⟩) (by assumption) ?_
                  rotate_left
                  · intro w hSw; (try dsimp only at hSw); go_simp; try with_reducible rfl
                  simp only [Act.put, List.setIfInBounds_toArray, List.set_cons_zero, List.set_cons_succ]
                  refine wpAnyH_take (i := 12) (oi := { dst := some 91, op := Go.Op.fieldAddr 120 (Go.Operand.tmp 7) 0, type := 0, pos := "l08_query.go:272", after := #[{ on := 11, ground := Go.Ground.guard }], guard := some (11, true) }) (v := undef) rfl (by kernel_rfl) (by kernel_rfl) (by kernel_rfl) (fun _ _ _ h => h) (Or.inr ⟨by kernel_rfl, rfl⟩) (by assumption) ?_
                  simp only [Act.put, List.setIfInBounds_toArray, List.set_cons_zero, List.set_cons_succ]
                  refine wpAnyH_take (i := 13) (oi := { dst := some 92, op := Go.Op.load 3 (Go.Operand.tmp 91), type := 3, pos := "l08_query.go:272", after := #[{ on := 12, ground := Go.Ground.data }, { on := 11, ground := Go.Ground.guard }], guard := some (11, true) }) (v := undef) rfl (by kernel_rfl) (by kernel_rfl) (by kernel_rfl) (fun _ _ _ h => h) (Or.inr ⟨by kernel_rfl, rfl⟩) (by assumption) ?_
                  simp only [Act.put, List.setIfInBounds_toArray, List.set_cons_zero, List.set_cons_succ]
                  refine wpAnyH_take (i := 14) (oi := { dst := some 93, op := Go.Op.binOp Go.BinOp.eql 3 (Go.Operand.tmp 92) (Go.Operand.const (Go.Value.int Go.IntKind.i64 2)) 3, type := 4, pos := "l08_query.go:272", after := #[{ on := 13, ground := Go.Ground.data }, { on := 11, ground := Go.Ground.guard }], guard := some (11, true) }) (v := undef) rfl (by kernel_rfl) (by kernel_rfl) (by kernel_rfl) (fun _ _ _ h => h) (Or.inr ⟨by kernel_rfl, rfl⟩) (by assumption) ?_
                  simp only [Act.put, List.setIfInBounds_toArray, List.set_cons_zero, List.set_cons_succ]
                  refine wpAnyH_take (i := 15) (oi := { dst := some 94, op := Go.Op.pick (Go.Operand.tmp 90) (Go.Operand.tmp 93) (Go.Operand.const (Go.Value.bool false)), type := 4, pos := "l08_query.go:272", after := #[{ on := 11, ground := Go.Ground.data }, { on := 14, ground := Go.Ground.data }, { on := 8, ground := Go.Ground.guard }], guard := some (8, false) }) (v := ?_) rfl (by kernel_rfl) (by kernel_rfl) (by kernel_rfl) (fun _ _ _ h => h) (Or.inl ⟨by kernel_rfl, ?_⟩) (by assumption) ?_
                  rotate_left
                  · intro w hSw; (try dsimp only at hSw); go_simp; try with_reducible rfl
                  simp only [Act.put, List.setIfInBounds_toArray, List.set_cons_zero, List.set_cons_succ]
                  refine wpAnyH_take (i := 16) (oi := { dst := some 95, op := Go.Op.pick (Go.Operand.tmp 87) (Go.Operand.const (Go.Value.bool true)) (Go.Operand.tmp 94), type := 4, pos := "l08_query.go:272", after := #[{ on := 8, ground := Go.Ground.data }, { on := 15, ground := Go.Ground.data }], guard := none }) (v := ?_) rfl (by kernel_rfl) (by kernel_rfl) (by kernel_rfl) (fun _ _ _ h => h) (Or.inl ⟨by kernel_rfl, ?_⟩) (by assumption) ?_
                  rotate_left
                  · intro w hSw; (try dsimp only at hSw); go_simp; try with_reducible rfl
                  simp only [Act.put, List.setIfInBounds_toArray, List.set_cons_zero, List.set_cons_succ]
                  refine wpAnyH_ready (rs := [17]) (by kernel_rfl) (by simp) ?_
                  refine AllReadyH.cons (o := { dst := some 96, op := Go.Op.call { callee := Go.Callee.value (Go.Operand.func 70), args := #[Go.Operand.tmp 79, Go.Operand.tmp 84, Go.Operand.tmp 95], argTypes := #[34, 3, 4] }, type := 9, pos := "l08_query.go:272", after := #[{ on := 0, ground := Go.Ground.data }, { on := 5, ground := Go.Ground.data }, { on := 16, ground := Go.Ground.data }, { on := 11, ground := Go.Ground.chain }], guard := none }) rfl (fun K hK => ?_) ?_
                  · go_wp2_with (go_at_call 70; refine (HCC.out _ (HBVW.out.trans (HBD.out.mono HBVW.out.size))).mono ?_; rintro e w4 ⟨rfl, HB4⟩)
                    have HB4V : Hid (Below V.heap.size V w4) := HBD.out.trans (HB4.out.mono HBD.out.size)
                    refine hK.out _ _ (HKS.out _ HB4V.out) (fun hHeld => ?_)
                    clear hK K
                    try simp only [Act.put, List.setIfInBounds_toArray, List.set_cons_zero, List.set_cons_succ]
                    refine wpAnyH_take (i := 18) (oi := { dst := some 11, op := Go.Op.assign (Go.Operand.tmp 96), type := 9, pos := "l08_query.go:272", after := #[{ on := 17, ground := Go.Ground.data }, { on := 17, ground := Go.Ground.chain }, { on := 0, ground := Go.Ground.phase }, { on := 1, ground := Go.Ground.phase }, { on := 2, ground := Go.Ground.phase }, { on := 3, ground := Go.Ground.phase }, { on := 4, ground := Go.Ground.phase }, { on := 5, ground := Go.Ground.phase }, { on := 6, ground := Go.Ground.phase }, { on := 7, ground := Go.Ground.phase }, { on := 8, ground := Go.Ground.phase }, { on := 9, ground := Go.Ground.phase }, { on := 10, ground := Go.Ground.phase }, { on := 11, ground := Go.Ground.phase }, { on := 12, ground := Go.Ground.phase }, { on := 13, ground := Go.Ground.phase }, { on := 14, ground := Go.Ground.phase }, { on := 15, ground := Go.Ground.phase }, { on := 16, ground := Go.Ground.phase }, { on := 17, ground := Go.Ground.phase }], guard := none }) (v := ?_) rfl (by kernel_rfl) (by kernel_rfl) (by kernel_rfl) (fun _ _ _ h => h) (Or.inl ⟨by kernel_rfl, ?_⟩) (by assumption) ?_
                    rotate_left
                    · intro w hSw; (try dsimp only at hSw); go_simp; try with_reducible rfl
                    simp only [Act.put, List.setIfInBounds_toArray, List.set_cons_zero, List.set_cons_succ]
                    refine wpAnyH_done (by kernel_rfl) ?_ _
                    clear hHeld
                    first | (go_meet; case rel => exact ⟨rfl, HB4V⟩) | (go_wp2_with fail; go_meet; case rel => exact ⟨rfl, HB4V⟩)
                  exact AllReadyH.nil
            case rest =>
              obtain ⟨V2, HV2⟩ : ∃ V, Hid (V = wc) := ⟨_, rfl⟩
              obtain ⟨rfl, HBC⟩ := hcut
              have HBV2 : Hid (Below (B + 2) W wc) := HBV.out.trans (HBC.out.mono (by have := HBV.out.size; have := HSW.out; omega))
              clear HKS HBD HBC HCC HV2
              obtain ⟨c0, c1, c2⟩ := HCX.out wc HBV2.out
              have HSU : Hid (kT TS ps 2 ks (j + 1) = if v = emT ∨ 20 < (t ++ v).size then none else some (t ++ v)) := HST2
              have HRN : Hid (kT TS ps 2 ks (j + 1) = none → RR = emT) := fun h => by rw [HRR.out, HPC.out, kT_none h q (by omega)]; unfold wrapT; rw [if_pos rfl]
              obtain ⟨u, HUU⟩ : ∃ u, Hid (u = t ++ v) := ⟨_, rfl⟩
              have hus : u.size ≤ 41 := by rw [HUU.out, size_app]; omega
              have hovA : ¬ (9223372036854775807 < (t).size + v.size) := by omega
              go_upto_region 22 with fail
              rw [show t ++ v = u from HUU.out.symm]
              rw [← HUU.out] at HSU
              by_cases he : v = emT
              · have hemb : (v.toList == ([] : List UInt8)) = true := by rw [he]; exact emb_em
                have HE : Hid (RR = emT) := HRN.out (by rw [HSU.out, if_pos (.inl he)])
                clear he
                go_wp2
                go_ret
                exact ⟨by rw [HE.out]; rfl, HWZ.out _ HBV2.out⟩
              · have hemb := emb_no he
                have HNE : Hid (¬ v = emT) := he
                clear he
                by_cases h20 : 20 < u.size
                · have h20' : (u.size : Int) > 20 := by omega
                  have HE : Hid (RR = emT) := HRN.out (by rw [HSU.out, if_pos (.inr h20)])
                  go_wp2
                  go_ret
                  exact ⟨by rw [HE.out]; rfl, HWZ.out _ HBV2.out⟩
                · have h20' : ¬ (u.size : Int) > 20 := by omega
                  have HK2 : Hid (kT TS ps 2 ks (j + 1) = some u) := by show _ = _; rw [HSU.out, if_neg (by rintro (h | h); exact HNE.out h; exact h20 h)]
                  go_wp2
                  go_roundw
                  case rel => exact ⟨j + 1, u, by go_num, rfl, by omega, HK2, HBV2⟩
                  case measure => simp [intOf]; omega
          · obtain rfl : j = q := by omega
            have HTT : Hid (oneT ps k = t) := by show _ = _; rw [HPC.out, HKT.out]
            have htn : ¬ t = emT := by
              rcases kT_size HKT.out with ⟨h, _⟩ | h
              · have := HQ2.out; omega
              · intro e; rw [e, size_em] at h; omega
            have HRT : Hid (RR = if wi = true then (if 20 < (parenT t).size then emT else parenT t) else t) := by show _ = _; rw [HRR.out, HTT.out]; unfold wrapT; rw [if_neg htn]
            clear htn
            obtain ⟨P, HP⟩ : ∃ P, Hid (P = parenT t) := ⟨_, rfl⟩
            have hps : P.size = t.size + 2 := by rw [HP.out]; exact paren_size t
            have hov1 : ¬ (9223372036854775807 < 1 + t.size) := by omega
            have hov2 : ¬ (9223372036854775807 < (⟨#[40]⟩ : ByteArray).size + t.size) := by show ¬ (_ < 1 + t.size); omega
            have hov3 : ¬ (9223372036854775807 < 1 + t.size + 1) := by omega
            have hov4 : ¬ (9223372036854775807 < ((⟨#[40]⟩ : ByteArray) ++ t).size + (⟨#[41]⟩ : ByteArray).size) := by rw [size_app]; show ¬ (_ < 1 + t.size + 1); omega
            rcases Bool.eq_false_or_eq_true wi with hw | hw
            · subst hw
              go_upto_region 26 with fail
              rw [show (⟨#[40]⟩ ++ t) ++ ⟨#[41]⟩ = P from HP.out.symm]
              by_cases h20 : 20 < P.size
              · have h20' : (P.size : Int) > 20 := by omega
                have HE : Hid (RR = emT) := by show _ = _; rw [HRT.out, if_pos rfl, ← HP.out, if_pos h20]
                go_wp2
                go_ret
                exact ⟨by rw [HE.out]; rfl, HWZ.out _ HBR.out⟩
              · have h20' : ¬ (P.size : Int) > 20 := by omega
                have HE : Hid (RR = P) := by show _ = _; rw [HRT.out, if_pos rfl, ← HP.out, if_neg h20]
                go_wp2
                go_ret
                exact ⟨by rw [HE.out]; rfl, HWZ.out _ HBR.out⟩
            · subst hw
              have h20' : ¬ (t.size : Int) > 20 := by omega
              have HE : Hid (RR = t) := by show _ = _; rw [HRT.out]; simp
              go_wp2
              go_ret
              exact ⟨by rw [HE.out]; rfl, HWZ.out _ HBR.out⟩
      · obtain rfl : x0 = 3 := hx
        go_wp2
        go_loopw [9, 8] (fun i v wr => ∃ (j : Nat) (t : Tx), i = .int .i64 (j : Int) ∧ v = .string t ∧ j ≤ q ∧ Hid (kT TS ps 3 ks j = some t) ∧ Hid (Below (B + 2) W wr)) (fun i _ _ => q - (intOf i).toNat)
        case atStart => exact ⟨0, emT, rfl, rfl, by omega, rfl, Below.refl _ _⟩
        case round =>
          obtain ⟨j, t, rfl, rfl, hj, HKT, HBR⟩ := hrel
          clear c0 c1 c2
          obtain ⟨c0, c1, c2⟩ := HCX.out wr HBR.out
          have hts : t.size ≤ 20 := kT_le HKT.out
          by_cases hlt : j < q
          · have hlt1 : (j : Int) < (q : Int) := by omega
            have hlt0 : (0 : Int) ≤ (j : Int) := by omega
            obtain ⟨z, hz, hzk⟩ := HKO.out j hlt
            obtain ⟨rb, ro, rfl, hr⟩ := (HRW.out.below HBR.out (by have := HH.out; omega)).num (i := j) (by rw [HQL.out]; exact hlt)
            rw [hz] at hr
            obtain ⟨hop, _⟩ := (HPW.out.below HBR.out (by have := HH.out; omega)).op (i := z) (by rw [HN.out]; omega)
            obtain ⟨y, HY⟩ : ∃ y, Hid (y = (pat ps z).1) := ⟨_, rfl⟩
            rw [← HY.out] at hop
            have hz0 : (0 : Int) ≤ (z : Int) := by omega
            have hz1 : (z : Int) < (m : Int) := by omega
            obtain ⟨wz, HWZ2⟩ : ∃ v, Hid (v = inPar 3 y) := ⟨_, rfl⟩
            obtain ⟨v, HV⟩ : ∃ v, Hid (v = wrapT (oneT ps z) wz) := ⟨_, rfl⟩
            have hvs : v.size ≤ 20 := by rw [HV.out]; exact wrapT_le (oneT_le ps z) wz
            have HSTEP : Hid (kT TS ps 3 ks (j + 1) = if v = emT ∨ 20 < ((if (3 : Int) = 3 ∧ 0 < j then t ++ barT else t) ++ v).size then none else some ((if (3 : Int) = 3 ∧ 0 < j then t ++ barT else t) ++ v)) := kT_step (by omega) HKT.out (by rw [hz, show ((z : Int)).toNat = z by omega, HTZ.out _ hzk, HV.out, HWZ2.out, HY.out])
            have HST3 : Hid ((0 < j → kT TS ps 3 ks (j + 1) = if v = emT ∨ 20 < ((t ++ barT) ++ v).size then none else some ((t ++ barT) ++ v)) ∧ (¬ 0 < j → kT TS ps 3 ks (j + 1) = if v = emT ∨ 20 < (t ++ v).size then none else some (t ++ v))) := by
              have h := HSTEP.out
              refine ⟨fun h0 => ?_, fun h0 => ?_⟩
              · rw [if_pos (show (3 : Int) = 3 ∧ 0 < j from ⟨rfl, h0⟩)] at h; exact h
              · rw [if_neg (show ¬ ((3 : Int) = 3 ∧ 0 < j) from fun h => h0 h.2)] at h; exact h
            clear HSTEP
            have HWW : Hid (wz = true → (pat ps z).1 = 2 ∨ (pat ps z).1 = 3) := fun h => by
              rw [HWZ2.out, HY.out] at h
              unfold inPar at h
              simp at h
              omega
            have HCC : Hid (∀ w0, Below w.heap.size w w0 → Calls Try.prog 70 #[pv (some ⟨bb, oo, none⟩) m mc, .int .i64 (z : Int), .bool wz] w0 fun e w' => e = .returned (.string v) ∧ Hid (Below w0.heap.size w0 w')) := fun w0 h => by rw [HV.out]; exact HIH.out z hzk wz w0 h HWW.out
            have HZZ : Hid (ks.getD j 0 = (z : Int)) := hz
            clear hz hzk
            go_wp2_with fail
            go_quiet (fail)
            obtain ⟨V, HVV⟩ : ∃ V, Hid (V = wr.drewN nq) := ⟨_, rfl⟩
            have HBV : Hid (Below (B + 2) W V) := by rw [HVV.out]; exact HBR.out.trans (below_drewN (Below.refl _ _) _)
            rw [← HVV.out]
            have hrV : V.cell? ⟨rb, ro + j, none⟩ = some (.int .i64 (z : Int)) := by rw [HVV.out]; exact hr
            clear HVV c0 c1 c2 hop
            obtain ⟨c0, c1, c2⟩ := HCX.out V HBV.out
            have HKS : Hid (∀ wz, Below V.heap.size V wz → (wz.cell? ⟨B, 0, none⟩ = some (.slice (some ⟨bb, oo, none⟩) m mc)) ∧ (wz.cell? ⟨B + 1, 0, none⟩ = some (.int .i64 3) ∧ wz.cell? ⟨B + 1, 2, none⟩ = some (.slice (some ⟨rb, ro, none⟩) q rc)) ∧ wz.cell? ⟨rb, ro + j, none⟩ = some (.int .i64 (z : Int))) := fun wz h => by
              have h1 := HCX.out wz (HBV.out.trans (h.mono (by have := HBV.out.size; have := HSW.out; omega)))
              exact ⟨h1.1, h1.2, cell_below hrV h (lt_of_cell hrV)⟩
            have HBD : Hid (Below V.heap.size V V.drew) := (Below.refl _ _).drew
            have HBVW : Hid (Below w.heap.size w V) := HWZ.out _ HBV.out
            clear c0 c1 c2 hrV hr
            go_upto_region 18 with fail
            go_cut [11] (fun vv wc => vv = .string v ∧ Hid (Below V.heap.size V wc))
            case first =>
              by_cases hy3 : y = 3
              · subst hy3
                obtain rfl : wz = true := by rw [HWZ2.out]; decide
                refine wp_region_held_drew (S := fun wz => (wz.cell? ⟨B, 0, none⟩ = some (.slice (some ⟨bb, oo, none⟩) m mc)) ∧ (wz.cell? ⟨B + 1, 0, none⟩ = some (.int .i64 3) ∧ wz.cell? ⟨B + 1, 2, none⟩ = some (.slice (some ⟨rb, ro, none⟩) q rc)) ∧ wz.cell? ⟨rb, ro + j, none⟩ = some (.int .i64 (z : Int))) (by kernel_rfl) (HKS.out _ HBD.out) (fun hHeld => ?_)
                refine wpAnyH_take (i := 0) (oi := { dst := some 79, op := Go.Op.load 34 (Go.Operand.tmp 3), type := 34, pos := "l08_query.go:272", after := #[], guard := none }) (v := ?_) rfl (by kernel_rfl) (by kernel_rfl) (by kernel_rfl) (fun _ _ _ h => h) (Or.inl ⟨by kernel_rfl, ?_⟩) (by assumption) ?_
                rotate_left
                · intro w hSw; (try dsimp only at hSw); go_simp; try with_reducible rfl
                simp only [Act.put, List.setIfInBounds_toArray, List.set_cons_zero, List.set_cons_succ]
                refine wpAnyH_take (i := 1) (oi := { dst := some 80, op := Go.Op.fieldAddr 120 (Go.Operand.tmp 7) 2, type := 0, pos := "l08_query.go:272", after := #[], guard := none }) (v := ?_) rfl (by kernel_rfl) (by kernel_rfl) (by kernel_rfl) (fun _ _ _ h => h) (Or.inl ⟨by kernel_rfl, ?_⟩) (by assumption) ?_
                rotate_left
                · intro w hSw; (try dsimp only at hSw); go_simp; try with_reducible rfl
                simp only [Act.put, List.setIfInBounds_toArray, List.set_cons_zero, List.set_cons_succ]
                refine wpAnyH_take (i := 2) (oi := { dst := some 81, op := Go.Op.load 68 (Go.Operand.tmp 80), type := 68, pos := "l08_query.go:272", after := #[{ on := 1, ground := Go.Ground.data }], guard := none }) (v := ?_) rfl (by kernel_rfl) (by kernel_rfl) (by kernel_rfl) (fun _ _ _ h => h) (Or.inl ⟨by kernel_rfl, ?_⟩) (by assumption) ?_
                rotate_left
                · intro w hSw; (try dsimp only at hSw); go_simp; try with_reducible rfl
                simp only [Act.put, List.setIfInBounds_toArray, List.set_cons_zero, List.set_cons_succ]
                refine wpAnyH_take (i := 3) (oi := { dst := some 82, op := Go.Op.move (Go.Operand.tmp 9), type := 3, pos := "l08_query.go:272", after := #[], guard := none }) (v := ?_) rfl (by kernel_rfl) (by kernel_rfl) (by kernel_rfl) (fun _ _ _ h => h) (Or.inl ⟨by kernel_rfl, ?_⟩) (by assumption) ?_
                rotate_left
                · intro w hSw; (try dsimp only at hSw); go_simp; try with_reducible rfl
                simp only [Act.put, List.setIfInBounds_toArray, List.set_cons_zero, List.set_cons_succ]
                refine wpAnyH_take (i := 4) (oi := { dst := some 83, op := Go.Op.indexAddr 68 (Go.Operand.tmp 81) (Go.Operand.tmp 82), type := 0, pos := "l08_query.go:272", after := #[{ on := 2, ground := Go.Ground.data }, { on := 3, ground := Go.Ground.data }], guard := none }) (v := ?_) rfl (by kernel_rfl) (by kernel_rfl) (by kernel_rfl) (fun _ _ _ h => h) (Or.inl ⟨by kernel_rfl, ?_⟩) (by assumption) ?_
                rotate_left
                · intro w hSw; (try dsimp only at hSw); go_simp; try with_reducible rfl
                simp only [Act.put, List.setIfInBounds_toArray, List.set_cons_zero, List.set_cons_succ]
                refine wpAnyH_take (i := 5) (oi := { dst := some 84, op := Go.Op.load 3 (Go.Operand.tmp 83), type := 3, pos := "l08_query.go:272", after := #[{ on := 4, ground := Go.Ground.data }], guard := none }) (v := ?_) rfl (by kernel_rfl) (by kernel_rfl) (by kernel_rfl) (fun _ _ _ h => h) (Or.inl ⟨by kernel_rfl, ?_⟩) (by assumption) ?_
                rotate_left
                · intro w hSw; (try dsimp only at hSw); go_simp; try with_reducible rfl
                simp only [Act.put, List.setIfInBounds_toArray, List.set_cons_zero, List.set_cons_succ]
                refine wpAnyH_take (i := 6) (oi := { dst := some 85, op := Go.Op.move (Go.Operand.tmp 10), type := 3, pos := "l08_query.go:272", after := #[], guard := none }) (v := ?_) rfl (by kernel_rfl) (by kernel_rfl) (by kernel_rfl) (fun _ _ _ h => h) (Or.inl ⟨by kernel_rfl, ?_⟩) (by assumption) ?_
                rotate_left
                · intro w hSw; (try dsimp only at hSw); go_simp; try with_reducible rfl
                simp only [Act.put, List.setIfInBounds_toArray, List.set_cons_zero, List.set_cons_succ]
                refine wpAnyH_take (i := 7) (oi := { dst := some 86, op := Go.Op.binOp Go.BinOp.eql 3 (Go.Operand.tmp 85) (Go.Operand.const (Go.Value.int Go.IntKind.i64 3)) 3, type := 4, pos := "l08_query.go:272", after := #[{ on := 6, ground := Go.Ground.data }], guard := none }) (v := ?_) rfl (by kernel_rfl) (by kernel_rfl) (by kernel_rfl) (fun _ _ _ h => h) (Or.inl ⟨by kernel_rfl, ?_⟩) (by assumption) ?_
                rotate_left
                · intro w hSw; (try dsimp only at hSw); go_simp; try with_reducible rfl
                simp only [Act.put, List.setIfInBounds_toArray, List.set_cons_zero, List.set_cons_succ]
                refine wpAnyH_take (i := 8) (oi := { dst := some 87, op := Go.Op.move (Go.Operand.tmp 86), type := 4, pos := "l08_query.go:272", after := #[{ on := 7, ground := Go.Ground.data }], guard := none }) (v := ?_) rfl (by kernel_rfl) (by kernel_rfl) (by kernel_rfl) (fun _ _ _ h => h) (Or.inl ⟨by kernel_rfl, ?_⟩) (by assumption) ?_
                rotate_left
                · intro w hSw; (try dsimp only at hSw); go_simp; try with_reducible rfl
                simp only [Act.put, List.setIfInBounds_toArray, List.set_cons_zero, List.set_cons_succ]
                refine wpAnyH_take (i := 9) (oi := { dst := some 88, op := Go.Op.move (Go.Operand.tmp 10), type := 3, pos := "l08_query.go:272", after := #[{ on := 8, ground := Go.Ground.guard }], guard := some (8, false) }) (v := undef) rfl (by kernel_rfl) (by kernel_rfl) (by kernel_rfl) (fun _ _ _ h => h) (Or.inr ⟨by kernel_rfl, rfl⟩) (by assumption) ?_
                simp only [Act.put, List.setIfInBounds_toArray, List.set_cons_zero, List.set_cons_succ]
                refine wpAnyH_take (i := 10) (oi := { dst := some 89, op := Go.Op.binOp Go.BinOp.eql 3 (Go.Operand.tmp 88) (Go.Operand.const (Go.Value.int Go.IntKind.i64 2)) 3, type := 4, pos := "l08_query.go:272", after := #[{ on := 9, ground := Go.Ground.data }, { on := 8, ground := Go.Ground.guard }], guard := some (8, false) }) (v := undef) rfl (by kernel_rfl) (by kernel_rfl) (by kernel_rfl) (fun _ _ _ h => h) (Or.inr ⟨by kernel_rfl, rfl⟩) (by assumption) ?_
                simp only [Act.put, List.setIfInBounds_toArray, List.set_cons_zero, List.set_cons_succ]
                refine wpAnyH_take (i := 11) (oi := { dst := some 90, op := Go.Op.move (Go.Operand.tmp 89), type := 4, pos := "l08_query.go:272", after := #[{ on := 10, ground := Go.Ground.data }, { on := 8, ground := Go.Ground.chain }, { on := 8, ground := Go.Ground.guard }], guard := some (8, false) }) (v := undef) rfl (by kernel_rfl) (by kernel_rfl) (by kernel_rfl) (fun _ _ _ h => h) (Or.inr ⟨by kernel_rfl, rfl⟩) (by assumption) ?_
                simp only [Act.put, List.setIfInBounds_toArray, List.set_cons_zero, List.set_cons_succ]
                refine wpAnyH_take (i := 12) (oi := { dst := some 91, op := Go.Op.fieldAddr 120 (Go.Operand.tmp 7) 0, type := 0, pos := "l08_query.go:272", after := #[{ on := 11, ground := Go.Ground.guard }], guard := some (11, true) }) (v := undef) rfl (by kernel_rfl) (by kernel_rfl) (by kernel_rfl) (fun _ _ _ h => h) (Or.inr ⟨by kernel_rfl, rfl⟩) (by assumption) ?_
                simp only [Act.put, List.setIfInBounds_toArray, List.set_cons_zero, List.set_cons_succ]
                refine wpAnyH_take (i := 13) (oi := { dst := some 92, op := Go.Op.load 3 (Go.Operand.tmp 91), type := 3, pos := "l08_query.go:272", after := #[{ on := 12, ground := Go.Ground.data }, { on := 11, ground := Go.Ground.guard }], guard := some (11, true) }) (v := undef) rfl (by kernel_rfl) (by kernel_rfl) (by kernel_rfl) (fun _ _ _ h => h) (Or.inr ⟨by kernel_rfl, rfl⟩) (by assumption) ?_
                simp only [Act.put, List.setIfInBounds_toArray, List.set_cons_zero, List.set_cons_succ]
                refine wpAnyH_take (i := 14) (oi := { dst := some 93, op := Go.Op.binOp Go.BinOp.eql 3 (Go.Operand.tmp 92) (Go.Operand.const (Go.Value.int Go.IntKind.i64 2)) 3, type := 4, pos := "l08_query.go:272", after := #[{ on := 13, ground := Go.Ground.data }, { on := 11, ground := Go.Ground.guard }], guard := some (11, true) }) (v := undef) rfl (by kernel_rfl) (by kernel_rfl) (by kernel_rfl) (fun _ _ _ h => h) (Or.inr ⟨by kernel_rfl, rfl⟩) (by assumption) ?_
                simp only [Act.put, List.setIfInBounds_toArray, List.set_cons_zero, List.set_cons_succ]
                refine wpAnyH_take (i := 15) (oi := { dst := some 94, op := Go.Op.pick (Go.Operand.tmp 90) (Go.Operand.tmp 93) (Go.Operand.const (Go.Value.bool false)), type := 4, pos := "l08_query.go:272", after := #[{ on := 11, ground := Go.Ground.data }, { on := 14, ground := Go.Ground.data }, { on := 8, ground := Go.Ground.guard }], guard := some (8, false) }) (v := undef) rfl (by kernel_rfl) (by kernel_rfl) (by kernel_rfl) (fun _ _ _ h => h) (Or.inr ⟨by kernel_rfl, rfl⟩) (by assumption) ?_
                simp only [Act.put, List.setIfInBounds_toArray, List.set_cons_zero, List.set_cons_succ]
                refine wpAnyH_take (i := 16) (oi := { dst := some 95, op := Go.Op.pick (Go.Operand.tmp 87) (Go.Operand.const (Go.Value.bool true)) (Go.Operand.tmp 94), type := 4, pos := "l08_query.go:272", after := #[{ on := 8, ground := Go.Ground.data }, { on := 15, ground := Go.Ground.data }], guard := none }) (v := ?_) rfl (by kernel_rfl) (by kernel_rfl) (by kernel_rfl) (fun _ _ _ h => h) (Or.inl ⟨by kernel_rfl, ?_⟩) (by assumption) ?_
                rotate_left
                · intro w hSw; (try dsimp only at hSw); go_simp; try with_reducible rfl
                simp only [Act.put, List.setIfInBounds_toArray, List.set_cons_zero, List.set_cons_succ]
                refine wpAnyH_ready (rs := [17]) (by kernel_rfl) (by simp) ?_
                refine AllReadyH.cons (o := { dst := some 96, op := Go.Op.call { callee := Go.Callee.value (Go.Operand.func 70), args := #[Go.Operand.tmp 79, Go.Operand.tmp 84, Go.Operand.tmp 95], argTypes := #[34, 3, 4] }, type := 9, pos := "l08_query.go:272", after := #[{ on := 0, ground := Go.Ground.data }, { on := 5, ground := Go.Ground.data }, { on := 16, ground := Go.Ground.data }, { on := 11, ground := Go.Ground.chain }], guard := none }) rfl (fun K hK => ?_) ?_
                · go_wp2_with (go_at_call 70; refine (HCC.out _ (HBVW.out.trans (HBD.out.mono HBVW.out.size))).mono ?_; rintro e w4 ⟨rfl, HB4⟩)
                  have HB4V : Hid (Below V.heap.size V w4) := HBD.out.trans (HB4.out.mono HBD.out.size)
                  refine hK.out _ _ (HKS.out _ HB4V.out) (fun hHeld => ?_)
                  clear hK K
                  try simp only [Act.put, List.setIfInBounds_toArray, List.set_cons_zero, List.set_cons_succ]
                  refine wpAnyH_take (i := 18) (oi := { dst := some 11, op := Go.Op.assign (Go.Operand.tmp 96), type := 9, pos := "l08_query.go:272", after := #[{ on := 17, ground := Go.Ground.data }, { on := 17, ground := Go.Ground.chain }, { on := 0, ground := Go.Ground.phase }, { on := 1, ground := Go.Ground.phase }, { on := 2, ground := Go.Ground.phase }, { on := 3, ground := Go.Ground.phase }, { on := 4, ground := Go.Ground.phase }, { on := 5, ground := Go.Ground.phase }, { on := 6, ground := Go.Ground.phase }, { on := 7, ground := Go.Ground.phase }, { on := 8, ground := Go.Ground.phase }, { on := 9, ground := Go.Ground.phase }, { on := 10, ground := Go.Ground.phase }, { on := 11, ground := Go.Ground.phase }, { on := 12, ground := Go.Ground.phase }, { on := 13, ground := Go.Ground.phase }, { on := 14, ground := Go.Ground.phase }, { on := 15, ground := Go.Ground.phase }, { on := 16, ground := Go.Ground.phase }, { on := 17, ground := Go.Ground.phase }], guard := none }) (v := ?_) rfl (by kernel_rfl) (by kernel_rfl) (by kernel_rfl) (fun _ _ _ h => h) (Or.inl ⟨by kernel_rfl, ?_⟩) (by assumption) ?_
                  rotate_left
                  · intro w hSw; (try dsimp only at hSw); go_simp; try with_reducible rfl
                  simp only [Act.put, List.setIfInBounds_toArray, List.set_cons_zero, List.set_cons_succ]
                  refine wpAnyH_done (by kernel_rfl) ?_ _
                  clear hHeld
                  first | (go_meet; case rel => exact ⟨rfl, HB4V⟩) | (go_wp2_with fail; go_meet; case rel => exact ⟨rfl, HB4V⟩)
                exact AllReadyH.nil
              · have hd3 : decide (y = 3) = false := decide_eq_false hy3
                have hb3 : (y == 3) = false := by simpa using hy3
                by_cases hy2 : y = 2
                · subst hy2
                  obtain rfl : wz = false := by rw [HWZ2.out]; decide
                  refine wp_region_held_drew (S := fun wz => (wz.cell? ⟨B, 0, none⟩ = some (.slice (some ⟨bb, oo, none⟩) m mc)) ∧ (wz.cell? ⟨B + 1, 0, none⟩ = some (.int .i64 3) ∧ wz.cell? ⟨B + 1, 2, none⟩ = some (.slice (some ⟨rb, ro, none⟩) q rc)) ∧ wz.cell? ⟨rb, ro + j, none⟩ = some (.int .i64 (z : Int))) (by kernel_rfl) (HKS.out _ HBD.out) (fun hHeld => ?_)
                  refine wpAnyH_take (i := 0) (oi := { dst := some 79, op := Go.Op.load 34 (Go.Operand.tmp 3), type := 34, pos := "l08_query.go:272", after := #[], guard := none }) (v := ?_) rfl (by kernel_rfl) (by kernel_rfl) (by kernel_rfl) (fun _ _ _ h => h) (Or.inl ⟨by kernel_rfl, ?_⟩) (by assumption) ?_
                  rotate_left
                  · intro w hSw; (try dsimp only at hSw); go_simp; try with_reducible rfl
                  simp only [Act.put, List.setIfInBounds_toArray, List.set_cons_zero, List.set_cons_succ]
                  refine wpAnyH_take (i := 1) (oi := { dst := some 80, op := Go.Op.fieldAddr 120 (Go.Operand.tmp 7) 2, type := 0, pos := "l08_query.go:272", after := #[], guard := none }) (v := ?_) rfl (by kernel_rfl) (by kernel_rfl) (by kernel_rfl) (fun _ _ _ h => h) (Or.inl ⟨by kernel_rfl, ?_⟩) (by assumption) ?_
                  rotate_left
                  · intro w hSw; (try dsimp only at hSw); go_simp; try with_reducible rfl
                  simp only [Act.put, List.setIfInBounds_toArray, List.set_cons_zero, List.set_cons_succ]
                  refine wpAnyH_take (i := 2) (oi := { dst := some 81, op := Go.Op.load 68 (Go.Operand.tmp 80), type := 68, pos := "l08_query.go:272", after := #[{ on := 1, ground := Go.Ground.data }], guard := none }) (v := ?_) rfl (by kernel_rfl) (by kernel_rfl) (by kernel_rfl) (fun _ _ _ h => h) (Or.inl ⟨by kernel_rfl, ?_⟩) (by assumption) ?_
                  rotate_left
                  · intro w hSw; (try dsimp only at hSw); go_simp; try with_reducible rfl
                  simp only [Act.put, List.setIfInBounds_toArray, List.set_cons_zero, List.set_cons_succ]
                  refine wpAnyH_take (i := 3) (oi := { dst := some 82, op := Go.Op.move (Go.Operand.tmp 9), type := 3, pos := "l08_query.go:272", after := #[], guard := none }) (v := ?_) rfl (by kernel_rfl) (by kernel_rfl) (by kernel_rfl) (fun _ _ _ h => h) (Or.inl ⟨by kernel_rfl, ?_⟩) (by assumption) ?_
                  rotate_left
                  · intro w hSw; (try dsimp only at hSw); go_simp; try with_reducible rfl
                  simp only [Act.put, List.setIfInBounds_toArray, List.set_cons_zero, List.set_cons_succ]
                  refine wpAnyH_take (i := 4) (oi := { dst := some 83, op := Go.Op.indexAddr 68 (Go.Operand.tmp 81) (Go.Operand.tmp 82), type := 0, pos := "l08_query.go:272", after := #[{ on := 2, ground := Go.Ground.data }, { on := 3, ground := Go.Ground.data }], guard := none }) (v := ?_) rfl (by kernel_rfl) (by kernel_rfl) (by kernel_rfl) (fun _ _ _ h => h) (Or.inl ⟨by kernel_rfl, ?_⟩) (by assumption) ?_
                  rotate_left
                  · intro w hSw; (try dsimp only at hSw); go_simp; try with_reducible rfl
                  simp only [Act.put, List.setIfInBounds_toArray, List.set_cons_zero, List.set_cons_succ]
                  refine wpAnyH_take (i := 5) (oi := { dst := some 84, op := Go.Op.load 3 (Go.Operand.tmp 83), type := 3, pos := "l08_query.go:272", after := #[{ on := 4, ground := Go.Ground.data }], guard := none }) (v := ?_) rfl (by kernel_rfl) (by kernel_rfl) (by kernel_rfl) (fun _ _ _ h => h) (Or.inl ⟨by kernel_rfl, ?_⟩) (by assumption) ?_
                  rotate_left
                  · intro w hSw; (try dsimp only at hSw); go_simp; try with_reducible rfl
                  simp only [Act.put, List.setIfInBounds_toArray, List.set_cons_zero, List.set_cons_succ]
                  refine wpAnyH_take (i := 6) (oi := { dst := some 85, op := Go.Op.move (Go.Operand.tmp 10), type := 3, pos := "l08_query.go:272", after := #[], guard := none }) (v := ?_) rfl (by kernel_rfl) (by kernel_rfl) (by kernel_rfl) (fun _ _ _ h => h) (Or.inl ⟨by kernel_rfl, ?_⟩) (by assumption) ?_
                  rotate_left
                  · intro w hSw; (try dsimp only at hSw); go_simp; try with_reducible rfl
                  simp only [Act.put, List.setIfInBounds_toArray, List.set_cons_zero, List.set_cons_succ]
                  refine wpAnyH_take (i := 7) (oi := { dst := some 86, op := Go.Op.binOp Go.BinOp.eql 3 (Go.Operand.tmp 85) (Go.Operand.const (Go.Value.int Go.IntKind.i64 3)) 3, type := 4, pos := "l08_query.go:272", after := #[{ on := 6, ground := Go.Ground.data }], guard := none }) (v := ?_) rfl (by kernel_rfl) (by kernel_rfl) (by kernel_rfl) (fun _ _ _ h => h) (Or.inl ⟨by kernel_rfl, ?_⟩) (by assumption) ?_
                  rotate_left
                  · intro w hSw; (try dsimp only at hSw); go_simp; try with_reducible rfl
                  simp only [Act.put, List.setIfInBounds_toArray, List.set_cons_zero, List.set_cons_succ]
                  refine wpAnyH_take (i := 8) (oi := { dst := some 87, op := Go.Op.move (Go.Operand.tmp 86), type := 4, pos := "l08_query.go:272", after := #[{ on := 7, ground := Go.Ground.data }], guard := none }) (v := ?_) rfl (by kernel_rfl) (by kernel_rfl) (by kernel_rfl) (fun _ _ _ h => h) (Or.inl ⟨by kernel_rfl, ?_⟩) (by assumption) ?_
                  rotate_left
                  · intro w hSw; (try dsimp only at hSw); go_simp; try with_reducible rfl
                  simp only [Act.put, List.setIfInBounds_toArray, List.set_cons_zero, List.set_cons_succ]
                  refine wpAnyH_take (i := 9) (oi := { dst := some 88, op := Go.Op.move (Go.Operand.tmp 10), type := 3, pos := "l08_query.go:272", after := #[{ on := 8, ground := Go.Ground.guard }], guard := some (8, false) }) (v := ?_) rfl (by kernel_rfl) (by kernel_rfl) (by kernel_rfl) (fun _ _ _ h => h) (Or.inl ⟨by kernel_rfl, ?_⟩) (by assumption) ?_
                  rotate_left
                  · intro w hSw; (try dsimp only at hSw); go_simp; try with_reducible rfl
                  simp only [Act.put, List.setIfInBounds_toArray, List.set_cons_zero, List.set_cons_succ]
                  refine wpAnyH_take (i := 10) (oi := { dst := some 89, op := Go.Op.binOp Go.BinOp.eql 3 (Go.Operand.tmp 88) (Go.Operand.const (Go.Value.int Go.IntKind.i64 2)) 3, type := 4, pos := "l08_query.go:272", after := #[{ on := 9, ground := Go.Ground.data }, { on := 8, ground := Go.Ground.guard }], guard := some (8, false) }) (v := ?_) rfl (by kernel_rfl) (by kernel_rfl) (by kernel_rfl) (fun _ _ _ h => h) (Or.inl ⟨by kernel_rfl, ?_⟩) (by assumption) ?_
                  rotate_left
                  · intro w hSw; (try dsimp only at hSw); go_simp; try with_reducible rfl
                  simp only [Act.put, List.setIfInBounds_toArray, List.set_cons_zero, List.set_cons_succ]
                  refine wpAnyH_take (i := 11) (oi := { dst := some 90, op := Go.Op.move (Go.Operand.tmp 89), type := 4, pos := "l08_query.go:272", after := #[{ on := 10, ground := Go.Ground.data }, { on := 8, ground := Go.Ground.chain }, { on := 8, ground := Go.Ground.guard }], guard := some (8, false) }) (v := ?_) rfl (by kernel_rfl) (by kernel_rfl) (by kernel_rfl) (fun _ _ _ h => h) (Or.inl ⟨by kernel_rfl, ?_⟩) (by assumption) ?_
                  rotate_left
                  · intro w hSw; (try dsimp only at hSw); go_simp; try with_reducible rfl
                  simp only [Act.put, List.setIfInBounds_toArray, List.set_cons_zero, List.set_cons_succ]
                  refine wpAnyH_take (i := 12) (oi := { dst := some 91, op := Go.Op.fieldAddr 120 (Go.Operand.tmp 7) 0, type := 0, pos := "l08_query.go:272", after := #[{ on := 11, ground := Go.Ground.guard }], guard := some (11, true) }) (v := ?_) rfl (by kernel_rfl) (by kernel_rfl) (by kernel_rfl) (fun _ _ _ h => h) (Or.inl ⟨by kernel_rfl, ?_⟩) (by assumption) ?_
                  rotate_left
                  · intro w hSw; (try dsimp only at hSw); go_simp; try with_reducible rfl
                  simp only [Act.put, List.setIfInBounds_toArray, List.set_cons_zero, List.set_cons_succ]
                  refine wpAnyH_take (i := 13) (oi := { dst := some 92, op := Go.Op.load 3 (Go.Operand.tmp 91), type := 3, pos := "l08_query.go:272", after := #[{ on := 12, ground := Go.Ground.data }, { on := 11, ground := Go.Ground.guard }], guard := some (11, true) }) (v := ?_) rfl (by kernel_rfl) (by kernel_rfl) (by kernel_rfl) (fun _ _ _ h => h) (Or.inl ⟨by kernel_rfl, ?_⟩) (by assumption) ?_
                  rotate_left
                  · intro w hSw; (try dsimp only at hSw); go_simp; try with_reducible rfl
                  simp only [Act.put, List.setIfInBounds_toArray, List.set_cons_zero, List.set_cons_succ]
                  refine wpAnyH_take (i := 14) (oi := { dst := some 93, op := Go.Op.binOp Go.BinOp.eql 3 (Go.Operand.tmp 92) (Go.Operand.const (Go.Value.int Go.IntKind.i64 2)) 3, type := 4, pos := "l08_query.go:272", after := #[{ on := 13, ground := Go.Ground.data }, { on := 11, ground := Go.Ground.guard }], guard := some (11, true) }) (v := ?_) rfl (by kernel_rfl) (by kernel_rfl) (by kernel_rfl) (fun _ _ _ h => h) (Or.inl ⟨by kernel_rfl, ?_⟩) (by assumption) ?_
                  rotate_left
                  · intro w hSw; (try dsimp only at hSw); go_simp; try with_reducible rfl
                  simp only [Act.put, List.setIfInBounds_toArray, List.set_cons_zero, List.set_cons_succ]
                  refine wpAnyH_take (i := 15) (oi := { dst := some 94, op := Go.Op.pick (Go.Operand.tmp 90) (Go.Operand.tmp 93) (Go.Operand.const (Go.Value.bool false)), type := 4, pos := "l08_query.go:272", after := #[{ on := 11, ground := Go.Ground.data }, { on := 14, ground := Go.Ground.data }, { on := 8, ground := Go.Ground.guard }], guard := some (8, false) }) (v := ?_) rfl (by kernel_rfl) (by kernel_rfl) (by kernel_rfl) (fun _ _ _ h => h) (Or.inl ⟨by kernel_rfl, ?_⟩) (by assumption) ?_
                  rotate_left
                  · intro w hSw; (try dsimp only at hSw); go_simp; try with_reducible rfl
                  simp only [Act.put, List.setIfInBounds_toArray, List.set_cons_zero, List.set_cons_succ]
                  refine wpAnyH_take (i := 16) (oi := { dst := some 95, op := Go.Op.pick (Go.Operand.tmp 87) (Go.Operand.const (Go.Value.bool true)) (Go.Operand.tmp 94), type := 4, pos := "l08_query.go:272", after := #[{ on := 8, ground := Go.Ground.data }, { on := 15, ground := Go.Ground.data }], guard := none }) (v := ?_) rfl (by kernel_rfl) (by kernel_rfl) (by kernel_rfl) (fun _ _ _ h => h) (Or.inl ⟨by kernel_rfl, ?_⟩) (by assumption) ?_
                  rotate_left
                  · intro w hSw; (try dsimp only at hSw); go_simp; try with_reducible rfl
                  simp only [Act.put, List.setIfInBounds_toArray, List.set_cons_zero, List.set_cons_succ]
                  refine wpAnyH_ready (rs := [17]) (by kernel_rfl) (by simp) ?_
                  refine AllReadyH.cons (o := { dst := some 96, op := Go.Op.call { callee := Go.Callee.value (Go.Operand.func 70), args := #[Go.Operand.tmp 79, Go.Operand.tmp 84, Go.Operand.tmp 95], argTypes := #[34, 3, 4] }, type := 9, pos := "l08_query.go:272", after := #[{ on := 0, ground := Go.Ground.data }, { on := 5, ground := Go.Ground.data }, { on := 16, ground := Go.Ground.data }, { on := 11, ground := Go.Ground.chain }], guard := none }) rfl (fun K hK => ?_) ?_
                  · go_wp2_with (go_at_call 70; refine (HCC.out _ (HBVW.out.trans (HBD.out.mono HBVW.out.size))).mono ?_; rintro e w4 ⟨rfl, HB4⟩)
                    have HB4V : Hid (Below V.heap.size V w4) := HBD.out.trans (HB4.out.mono HBD.out.size)
                    refine hK.out _ _ (HKS.out _ HB4V.out) (fun hHeld => ?_)
                    clear hK K
                    try simp only [Act.put, List.setIfInBounds_toArray, List.set_cons_zero, List.set_cons_succ]
                    refine wpAnyH_take (i := 18) (oi := { dst := some 11, op := Go.Op.assign (Go.Operand.tmp 96), type := 9, pos := "l08_query.go:272", after := #[{ on := 17, ground := Go.Ground.data }, { on := 17, ground := Go.Ground.chain }, { on := 0, ground := Go.Ground.phase }, { on := 1, ground := Go.Ground.phase }, { on := 2, ground := Go.Ground.phase }, { on := 3, ground := Go.Ground.phase }, { on := 4, ground := Go.Ground.phase }, { on := 5, ground := Go.Ground.phase }, { on := 6, ground := Go.Ground.phase }, { on := 7, ground := Go.Ground.phase }, { on := 8, ground := Go.Ground.phase }, { on := 9, ground := Go.Ground.phase }, { on := 10, ground := Go.Ground.phase }, { on := 11, ground := Go.Ground.phase }, { on := 12, ground := Go.Ground.phase }, { on := 13, ground := Go.Ground.phase }, { on := 14, ground := Go.Ground.phase }, { on := 15, ground := Go.Ground.phase }, { on := 16, ground := Go.Ground.phase }, { on := 17, ground := Go.Ground.phase }], guard := none }) (v := ?_) rfl (by kernel_rfl) (by kernel_rfl) (by kernel_rfl) (fun _ _ _ h => h) (Or.inl ⟨by kernel_rfl, ?_⟩) (by assumption) ?_
                    rotate_left
                    · intro w hSw; (try dsimp only at hSw); go_simp; try with_reducible rfl
                    simp only [Act.put, List.setIfInBounds_toArray, List.set_cons_zero, List.set_cons_succ]
                    refine wpAnyH_done (by kernel_rfl) ?_ _
                    clear hHeld
                    first | (go_meet; case rel => exact ⟨rfl, HB4V⟩) | (go_wp2_with fail; go_meet; case rel => exact ⟨rfl, HB4V⟩)
                  exact AllReadyH.nil
                · have hd2 : decide (y = 2) = false := decide_eq_false hy2
                  have hb2 : (y == 2) = false := by simpa using hy2
                  obtain rfl : wz = false := by rw [HWZ2.out]; unfold inPar; rw [hd3, hd2]; rfl
                  refine wp_region_held_drew (S := fun wz => (wz.cell? ⟨B, 0, none⟩ = some (.slice (some ⟨bb, oo, none⟩) m mc)) ∧ (wz.cell? ⟨B + 1, 0, none⟩ = some (.int .i64 3) ∧ wz.cell? ⟨B + 1, 2, none⟩ = some (.slice (some ⟨rb, ro, none⟩) q rc)) ∧ wz.cell? ⟨rb, ro + j, none⟩ = some (.int .i64 (z : Int))) (by kernel_rfl) (HKS.out _ HBD.out) (fun hHeld => ?_)
                  refine wpAnyH_take (i := 0) (oi := { dst := some 79, op := Go.Op.load 34 (Go.Operand.tmp 3), type := 34, pos := "l08_query.go:272", after := #[], guard := none }) (v := ?_) rfl (by kernel_rfl) (by kernel_rfl) (by kernel_rfl) (fun _ _ _ h => h) (Or.inl ⟨by kernel_rfl, ?_⟩) (by assumption) ?_
                  rotate_left
                  · intro w hSw; (try dsimp only at hSw); go_simp; try with_reducible rfl
                  simp only [Act.put, List.setIfInBounds_toArray, List.set_cons_zero, List.set_cons_succ]
                  refine wpAnyH_take (i := 1) (oi := { dst := some 80, op := Go.Op.fieldAddr 120 (Go.Operand.tmp 7) 2, type := 0, pos := "l08_query.go:272", after := #[], guard := none }) (v := ?_) rfl (by kernel_rfl) (by kernel_rfl) (by kernel_rfl) (fun _ _ _ h => h) (Or.inl ⟨by kernel_rfl, ?_⟩) (by assumption) ?_
                  rotate_left
                  · intro w hSw; (try dsimp only at hSw); go_simp; try with_reducible rfl
                  simp only [Act.put, List.setIfInBounds_toArray, List.set_cons_zero, List.set_cons_succ]
                  refine wpAnyH_take (i := 2) (oi := { dst := some 81, op := Go.Op.load 68 (Go.Operand.tmp 80), type := 68, pos := "l08_query.go:272", after := #[{ on := 1, ground := Go.Ground.data }], guard := none }) (v := ?_) rfl (by kernel_rfl) (by kernel_rfl) (by kernel_rfl) (fun _ _ _ h => h) (Or.inl ⟨by kernel_rfl, ?_⟩) (by assumption) ?_
                  rotate_left
                  · intro w hSw; (try dsimp only at hSw); go_simp; try with_reducible rfl
                  simp only [Act.put, List.setIfInBounds_toArray, List.set_cons_zero, List.set_cons_succ]
                  refine wpAnyH_take (i := 3) (oi := { dst := some 82, op := Go.Op.move (Go.Operand.tmp 9), type := 3, pos := "l08_query.go:272", after := #[], guard := none }) (v := ?_) rfl (by kernel_rfl) (by kernel_rfl) (by kernel_rfl) (fun _ _ _ h => h) (Or.inl ⟨by kernel_rfl, ?_⟩) (by assumption) ?_
                  rotate_left
                  · intro w hSw; (try dsimp only at hSw); go_simp; try with_reducible rfl
                  simp only [Act.put, List.setIfInBounds_toArray, List.set_cons_zero, List.set_cons_succ]
                  refine wpAnyH_take (i := 4) (oi := { dst := some 83, op := Go.Op.indexAddr 68 (Go.Operand.tmp 81) (Go.Operand.tmp 82), type := 0, pos := "l08_query.go:272", after := #[{ on := 2, ground := Go.Ground.data }, { on := 3, ground := Go.Ground.data }], guard := none }) (v := ?_) rfl (by kernel_rfl) (by kernel_rfl) (by kernel_rfl) (fun _ _ _ h => h) (Or.inl ⟨by kernel_rfl, ?_⟩) (by assumption) ?_
                  rotate_left
                  · intro w hSw; (try dsimp only at hSw); go_simp; try with_reducible rfl
                  simp only [Act.put, List.setIfInBounds_toArray, List.set_cons_zero, List.set_cons_succ]
                  refine wpAnyH_take (i := 5) (oi := { dst := some 84, op := Go.Op.load 3 (Go.Operand.tmp 83), type := 3, pos := "l08_query.go:272", after := #[{ on := 4, ground := Go.Ground.data }], guard := none }) (v := ?_) rfl (by kernel_rfl) (by kernel_rfl) (by kernel_rfl) (fun _ _ _ h => h) (Or.inl ⟨by kernel_rfl, ?_⟩) (by assumption) ?_
                  rotate_left
                  · intro w hSw; (try dsimp only at hSw); go_simp; try with_reducible rfl
                  simp only [Act.put, List.setIfInBounds_toArray, List.set_cons_zero, List.set_cons_succ]
                  refine wpAnyH_take (i := 6) (oi := { dst := some 85, op := Go.Op.move (Go.Operand.tmp 10), type := 3, pos := "l08_query.go:272", after := #[], guard := none }) (v := ?_) rfl (by kernel_rfl) (by kernel_rfl) (by kernel_rfl) (fun _ _ _ h => h) (Or.inl ⟨by kernel_rfl, ?_⟩) (by assumption) ?_
                  rotate_left
                  · intro w hSw; (try dsimp only at hSw); go_simp; try with_reducible rfl
                  simp only [Act.put, List.setIfInBounds_toArray, List.set_cons_zero, List.set_cons_succ]
                  refine wpAnyH_take (i := 7) (oi := { dst := some 86, op := Go.Op.binOp Go.BinOp.eql 3 (Go.Operand.tmp 85) (Go.Operand.const (Go.Value.int Go.IntKind.i64 3)) 3, type := 4, pos := "l08_query.go:272", after := #[{ on := 6, ground := Go.Ground.data }], guard := none }) (v := ?_) rfl (by kernel_rfl) (by kernel_rfl) (by kernel_rfl) (fun _ _ _ h => h) (Or.inl ⟨by kernel_rfl, ?_⟩) (by assumption) ?_
                  rotate_left
                  · intro w hSw; (try dsimp only at hSw); go_simp; try with_reducible rfl
                  simp only [Act.put, List.setIfInBounds_toArray, List.set_cons_zero, List.set_cons_succ]
                  refine wpAnyH_take (i := 8) (oi := { dst := some 87, op := Go.Op.move (Go.Operand.tmp 86), type := 4, pos := "l08_query.go:272", after := #[{ on := 7, ground := Go.Ground.data }], guard := none }) (v := ?_) rfl (by kernel_rfl) (by kernel_rfl) (by kernel_rfl) (fun _ _ _ h => h) (Or.inl ⟨by kernel_rfl, ?_⟩) (by assumption) ?_
                  rotate_left
                  · intro w hSw; (try dsimp only at hSw); go_simp; try with_reducible rfl
                  simp only [Act.put, List.setIfInBounds_toArray, List.set_cons_zero, List.set_cons_succ]
                  refine wpAnyH_take (i := 9) (oi := { dst := some 88, op := Go.Op.move (Go.Operand.tmp 10), type := 3, pos := "l08_query.go:272", after := #[{ on := 8, ground := Go.Ground.guard }], guard := some (8, false) }) (v := ?_) rfl (by kernel_rfl) (by kernel_rfl) (by kernel_rfl) (fun _ _ _ h => h) (Or.inl ⟨by kernel_rfl, ?_⟩) (by assumption) ?_
                  rotate_left
                  · intro w hSw; (try dsimp only at hSw); go_simp; try with_reducible rfl
                  simp only [Act.put, List.setIfInBounds_toArray, List.set_cons_zero, List.set_cons_succ]
                  refine wpAnyH_take (i := 10) (oi := { dst := some 89, op := Go.Op.binOp Go.BinOp.eql 3 (Go.Operand.tmp 88) (Go.Operand.const (Go.Value.int Go.IntKind.i64 2)) 3, type := 4, pos := "l08_query.go:272", after := #[{ on := 9, ground := Go.Ground.data }, { on := 8, ground := Go.Ground.guard }], guard := some (8, false) }) (v := ?_) rfl (by kernel_rfl) (by kernel_rfl) (by kernel_rfl) (fun _ _ _ h => h) (Or.inl ⟨by kernel_rfl, ?_⟩) (by assumption) ?_
                  rotate_left
                  · intro w hSw; (try dsimp only at hSw); go_simp; try with_reducible rfl
                  simp only [Act.put, List.setIfInBounds_toArray, List.set_cons_zero, List.set_cons_succ]
                  refine wpAnyH_take (i := 11) (oi := { dst := some 90, op := Go.Op.move (Go.Operand.tmp 89), type := 4, pos := "l08_query.go:272", after := #[{ on := 10, ground := Go.Ground.data }, { on := 8, ground := Go.Ground.chain }, { on := 8, ground := Go.Ground.guard }], guard := some (8, false) }) (v := ?_) rfl (by kernel_rfl) (by kernel_rfl) (by kernel_rfl) (fun _ _ _ h => h) (Or.inl ⟨by kernel_rfl, ?_⟩) (by assumption) ?_
                  rotate_left
                  · intro w hSw; (try dsimp only at hSw); go_simp; try with_reducible rfl
                  simp only [Act.put, List.setIfInBounds_toArray, List.set_cons_zero, List.set_cons_succ]
                  refine wpAnyH_take (i := 12) (oi := { dst := some 91, op := Go.Op.fieldAddr 120 (Go.Operand.tmp 7) 0, type := 0, pos := "l08_query.go:272", after := #[{ on := 11, ground := Go.Ground.guard }], guard := some (11, true) }) (v := undef) rfl (by kernel_rfl) (by kernel_rfl) (by kernel_rfl) (fun _ _ _ h => h) (Or.inr ⟨by kernel_rfl, rfl⟩) (by assumption) ?_
                  simp only [Act.put, List.setIfInBounds_toArray, List.set_cons_zero, List.set_cons_succ]
                  refine wpAnyH_take (i := 13) (oi := { dst := some 92, op := Go.Op.load 3 (Go.Operand.tmp 91), type := 3, pos := "l08_query.go:272", after := #[{ on := 12, ground := Go.Ground.data }, { on := 11, ground := Go.Ground.guard }], guard := some (11, true) }) (v := undef) rfl (by kernel_rfl) (by kernel_rfl) (by kernel_rfl) (fun _ _ _ h => h) (Or.inr ⟨by kernel_rfl, rfl⟩) (by assumption) ?_
                  simp only [Act.put, List.setIfInBounds_toArray, List.set_cons_zero, List.set_cons_succ]
                  refine wpAnyH_take (i := 14) (oi := { dst := some 93, op := Go.Op.binOp Go.BinOp.eql 3 (Go.Operand.tmp 92) (Go.Operand.const (Go.Value.int Go.IntKind.i64 2)) 3, type := 4, pos := "l08_query.go:272", after := #[{ on := 13, ground := Go.Ground.data }, { on := 11, ground := Go.Ground.guard }], guard := some (11, true) }) (v := undef) rfl (by kernel_rfl) (by kernel_rfl) (by kernel_rfl) (fun _ _ _ h => h) (Or.inr ⟨by kernel_rfl, rfl⟩) (by assumption) ?_
                  simp only [Act.put, List.setIfInBounds_toArray, List.set_cons_zero, List.set_cons_succ]
                  refine wpAnyH_take (i := 15) (oi := { dst := some 94, op := Go.Op.pick (Go.Operand.tmp 90) (Go.Operand.tmp 93) (Go.Operand.const (Go.Value.bool false)), type := 4, pos := "l08_query.go:272", after := #[{ on := 11, ground := Go.Ground.data }, { on := 14, ground := Go.Ground.data }, { on := 8, ground := Go.Ground.guard }], guard := some (8, false) }) (v := ?_) rfl (by kernel_rfl) (by kernel_rfl) (by kernel_rfl) (fun _ _ _ h => h) (Or.inl ⟨by kernel_rfl, ?_⟩) (by assumption) ?_
                  rotate_left
                  · intro w hSw; (try dsimp only at hSw); go_simp; try with_reducible rfl
                  simp only [Act.put, List.setIfInBounds_toArray, List.set_cons_zero, List.set_cons_succ]
                  refine wpAnyH_take (i := 16) (oi := { dst := some 95, op := Go.Op.pick (Go.Operand.tmp 87) (Go.Operand.const (Go.Value.bool true)) (Go.Operand.tmp 94), type := 4, pos := "l08_query.go:272", after := #[{ on := 8, ground := Go.Ground.data }, { on := 15, ground := Go.Ground.data }], guard := none }) (v := ?_) rfl (by kernel_rfl) (by kernel_rfl) (by kernel_rfl) (fun _ _ _ h => h) (Or.inl ⟨by kernel_rfl, ?_⟩) (by assumption) ?_
                  rotate_left
                  · intro w hSw; (try dsimp only at hSw); go_simp; try with_reducible rfl
                  simp only [Act.put, List.setIfInBounds_toArray, List.set_cons_zero, List.set_cons_succ]
                  refine wpAnyH_ready (rs := [17]) (by kernel_rfl) (by simp) ?_
                  refine AllReadyH.cons (o := { dst := some 96, op := Go.Op.call { callee := Go.Callee.value (Go.Operand.func 70), args := #[Go.Operand.tmp 79, Go.Operand.tmp 84, Go.Operand.tmp 95], argTypes := #[34, 3, 4] }, type := 9, pos := "l08_query.go:272", after := #[{ on := 0, ground := Go.Ground.data }, { on := 5, ground := Go.Ground.data }, { on := 16, ground := Go.Ground.data }, { on := 11, ground := Go.Ground.chain }], guard := none }) rfl (fun K hK => ?_) ?_
                  · go_wp2_with (go_at_call 70; refine (HCC.out _ (HBVW.out.trans (HBD.out.mono HBVW.out.size))).mono ?_; rintro e w4 ⟨rfl, HB4⟩)
                    have HB4V : Hid (Below V.heap.size V w4) := HBD.out.trans (HB4.out.mono HBD.out.size)
                    refine hK.out _ _ (HKS.out _ HB4V.out) (fun hHeld => ?_)
                    clear hK K
                    try simp only [Act.put, List.setIfInBounds_toArray, List.set_cons_zero, List.set_cons_succ]
                    refine wpAnyH_take (i := 18) (oi := { dst := some 11, op := Go.Op.assign (Go.Operand.tmp 96), type := 9, pos := "l08_query.go:272", after := #[{ on := 17, ground := Go.Ground.data }, { on := 17, ground := Go.Ground.chain }, { on := 0, ground := Go.Ground.phase }, { on := 1, ground := Go.Ground.phase }, { on := 2, ground := Go.Ground.phase }, { on := 3, ground := Go.Ground.phase }, { on := 4, ground := Go.Ground.phase }, { on := 5, ground := Go.Ground.phase }, { on := 6, ground := Go.Ground.phase }, { on := 7, ground := Go.Ground.phase }, { on := 8, ground := Go.Ground.phase }, { on := 9, ground := Go.Ground.phase }, { on := 10, ground := Go.Ground.phase }, { on := 11, ground := Go.Ground.phase }, { on := 12, ground := Go.Ground.phase }, { on := 13, ground := Go.Ground.phase }, { on := 14, ground := Go.Ground.phase }, { on := 15, ground := Go.Ground.phase }, { on := 16, ground := Go.Ground.phase }, { on := 17, ground := Go.Ground.phase }], guard := none }) (v := ?_) rfl (by kernel_rfl) (by kernel_rfl) (by kernel_rfl) (fun _ _ _ h => h) (Or.inl ⟨by kernel_rfl, ?_⟩) (by assumption) ?_
                    rotate_left
                    · intro w hSw; (try dsimp only at hSw); go_simp; try with_reducible rfl
                    simp only [Act.put, List.setIfInBounds_toArray, List.set_cons_zero, List.set_cons_succ]
                    refine wpAnyH_done (by kernel_rfl) ?_ _
                    clear hHeld
                    first | (go_meet; case rel => exact ⟨rfl, HB4V⟩) | (go_wp2_with fail; go_meet; case rel => exact ⟨rfl, HB4V⟩)
                  exact AllReadyH.nil
            case rest =>
              obtain ⟨V2, HV2⟩ : ∃ V, Hid (V = wc) := ⟨_, rfl⟩
              obtain ⟨rfl, HBC⟩ := hcut
              have HBV2 : Hid (Below (B + 2) W wc) := HBV.out.trans (HBC.out.mono (by have := HBV.out.size; have := HSW.out; omega))
              clear HKS HBD HBC HCC HV2
              obtain ⟨c0, c1, c2⟩ := HCX.out wc HBV2.out
              by_cases hj9 : 0 < j
              · have HSU : Hid (kT TS ps 3 ks (j + 1) = if v = emT ∨ 20 < ((t ++ barT) ++ v).size then none else some ((t ++ barT) ++ v)) := HST3.out.1 hj9
                have HRN : Hid (kT TS ps 3 ks (j + 1) = none → RR = emT) := fun h => by rw [HRR.out, HPC.out, kT_none h q (by omega)]; unfold wrapT; rw [if_pos rfl]
                have hj9b : (j : Int) > 0 := by omega
                have hov1 : ¬ (9223372036854775807 < t.size + 1) := by omega
                have hov2 : ¬ (9223372036854775807 < t.size + (⟨#[124]⟩ : ByteArray).size) := by show ¬ (_ < t.size + 1); omega
                have hbs : barT.size = 1 := rfl
                go_upto_region 21 with fail
                rw [show t ++ (⟨#[124]⟩ : ByteArray) = t ++ barT from rfl]
                obtain ⟨u, HUU⟩ : ∃ u, Hid (u = (t ++ barT) ++ v) := ⟨_, rfl⟩
                have hus : u.size ≤ 41 := by rw [HUU.out, size_app]; rw [size_app]; omega
                have hovA : ¬ (9223372036854775807 < ((t ++ barT)).size + v.size) := by rw [size_app]; omega
                go_upto_region 22 with fail
                rw [show (t ++ barT) ++ v = u from HUU.out.symm]
                rw [← HUU.out] at HSU
                by_cases he : v = emT
                · have hemb : (v.toList == ([] : List UInt8)) = true := by rw [he]; exact emb_em
                  have HE : Hid (RR = emT) := HRN.out (by rw [HSU.out, if_pos (.inl he)])
                  clear he
                  go_wp2
                  go_ret
                  exact ⟨by rw [HE.out]; rfl, HWZ.out _ HBV2.out⟩
                · have hemb := emb_no he
                  have HNE : Hid (¬ v = emT) := he
                  clear he
                  by_cases h20 : 20 < u.size
                  · have h20' : (u.size : Int) > 20 := by omega
                    have HE : Hid (RR = emT) := HRN.out (by rw [HSU.out, if_pos (.inr h20)])
                    go_wp2
                    go_ret
                    exact ⟨by rw [HE.out]; rfl, HWZ.out _ HBV2.out⟩
                  · have h20' : ¬ (u.size : Int) > 20 := by omega
                    have HK2 : Hid (kT TS ps 3 ks (j + 1) = some u) := by show _ = _; rw [HSU.out, if_neg (by rintro (h | h); exact HNE.out h; exact h20 h)]
                    go_wp2
                    go_roundw
                    case rel => exact ⟨j + 1, u, by go_num, rfl, by omega, HK2, HBV2⟩
                    case measure => simp [intOf]; omega
              · have HSU : Hid (kT TS ps 3 ks (j + 1) = if v = emT ∨ 20 < (t ++ v).size then none else some (t ++ v)) := HST3.out.2 hj9
                have HRN : Hid (kT TS ps 3 ks (j + 1) = none → RR = emT) := fun h => by rw [HRR.out, HPC.out, kT_none h q (by omega)]; unfold wrapT; rw [if_pos rfl]
                have hj9b : ¬ (j : Int) > 0 := by omega
                obtain ⟨u, HUU⟩ : ∃ u, Hid (u = t ++ v) := ⟨_, rfl⟩
                have hus : u.size ≤ 41 := by rw [HUU.out, size_app]; omega
                have hovA : ¬ (9223372036854775807 < (t).size + v.size) := by omega
                go_upto_region 22 with fail
                rw [show t ++ v = u from HUU.out.symm]
                rw [← HUU.out] at HSU
                by_cases he : v = emT
                · have hemb : (v.toList == ([] : List UInt8)) = true := by rw [he]; exact emb_em
                  have HE : Hid (RR = emT) := HRN.out (by rw [HSU.out, if_pos (.inl he)])
                  clear he
                  go_wp2
                  go_ret
                  exact ⟨by rw [HE.out]; rfl, HWZ.out _ HBV2.out⟩
                · have hemb := emb_no he
                  have HNE : Hid (¬ v = emT) := he
                  clear he
                  by_cases h20 : 20 < u.size
                  · have h20' : (u.size : Int) > 20 := by omega
                    have HE : Hid (RR = emT) := HRN.out (by rw [HSU.out, if_pos (.inr h20)])
                    go_wp2
                    go_ret
                    exact ⟨by rw [HE.out]; rfl, HWZ.out _ HBV2.out⟩
                  · have h20' : ¬ (u.size : Int) > 20 := by omega
                    have HK2 : Hid (kT TS ps 3 ks (j + 1) = some u) := by show _ = _; rw [HSU.out, if_neg (by rintro (h | h); exact HNE.out h; exact h20 h)]
                    go_wp2
                    go_roundw
                    case rel => exact ⟨j + 1, u, by go_num, rfl, by omega, HK2, HBV2⟩
                    case measure => simp [intOf]; omega
          · obtain rfl : j = q := by omega
            have HTT : Hid (oneT ps k = t) := by show _ = _; rw [HPC.out, HKT.out]
            have htn : ¬ t = emT := by
              rcases kT_size HKT.out with ⟨h, _⟩ | h
              · have := HQ2.out; omega
              · intro e; rw [e, size_em] at h; omega
            have HRT : Hid (RR = if wi = true then (if 20 < (parenT t).size then emT else parenT t) else t) := by show _ = _; rw [HRR.out, HTT.out]; unfold wrapT; rw [if_neg htn]
            clear htn
            obtain ⟨P, HP⟩ : ∃ P, Hid (P = parenT t) := ⟨_, rfl⟩
            have hps : P.size = t.size + 2 := by rw [HP.out]; exact paren_size t
            have hov1 : ¬ (9223372036854775807 < 1 + t.size) := by omega
            have hov2 : ¬ (9223372036854775807 < (⟨#[40]⟩ : ByteArray).size + t.size) := by show ¬ (_ < 1 + t.size); omega
            have hov3 : ¬ (9223372036854775807 < 1 + t.size + 1) := by omega
            have hov4 : ¬ (9223372036854775807 < ((⟨#[40]⟩ : ByteArray) ++ t).size + (⟨#[41]⟩ : ByteArray).size) := by rw [size_app]; show ¬ (_ < 1 + t.size + 1); omega
            rcases Bool.eq_false_or_eq_true wi with hw | hw
            · subst hw
              go_upto_region 26 with fail
              rw [show (⟨#[40]⟩ ++ t) ++ ⟨#[41]⟩ = P from HP.out.symm]
              by_cases h20 : 20 < P.size
              · have h20' : (P.size : Int) > 20 := by omega
                have HE : Hid (RR = emT) := by show _ = _; rw [HRT.out, if_pos rfl, ← HP.out, if_pos h20]
                go_wp2
                go_ret
                exact ⟨by rw [HE.out]; rfl, HWZ.out _ HBR.out⟩
              · have h20' : ¬ (P.size : Int) > 20 := by omega
                have HE : Hid (RR = P) := by show _ = _; rw [HRT.out, if_pos rfl, ← HP.out, if_neg h20]
                go_wp2
                go_ret
                exact ⟨by rw [HE.out]; rfl, HWZ.out _ HBR.out⟩
            · subst hw
              have h20' : ¬ (t.size : Int) > 20 := by omega
              have HE : Hid (RR = t) := by show _ = _; rw [HRT.out]; simp
              go_wp2
              go_ret
              exact ⟨by rw [HE.out]; rfl, HWZ.out _ HBR.out⟩
    · -- again, once at least, or nothing
      obtain ⟨hx456, hq1⟩ : (x0 = 4 ∨ x0 = 5 ∨ x0 = 6) ∧ q = 1 := by
        have h9 := HQL.out
        rcases h23 with h | h | h | h | h
        · exact absurd (.inl h.1) hx23
        · exact absurd (.inr h.1) hx23
        all_goals exact ⟨by omega, by have := h.2.2; omega⟩
      subst hq1
      have HX456 : Hid (x0 = 4 ∨ x0 = 5 ∨ x0 = 6) := hx456
      have HX23 : Hid (¬ (x0 = 2 ∨ x0 = 3)) := hx23
      have hne1 : ¬ x0 = 1 := by omega
      have hne2 : ¬ x0 = 2 := by omega
      have hne3 : ¬ x0 = 3 := by omega
      have hd1 : decide (x0 = 1) = false := decide_eq_false hne1
      have hd2 : decide (x0 = 2) = false := decide_eq_false hne2
      have hd3 : decide (x0 = 3) = false := decide_eq_false hne3
      have hb1 : (x0 == 1) = false := by simpa using hne1
      have hb2 : (x0 == 2) = false := by simpa using hne2
      have hb3 : (x0 == 3) = false := by simpa using hne3
      clear h23 hx23
      obtain ⟨z, hz, hzk⟩ := HKO.out 0 (by omega)
      obtain ⟨rb, ro, rfl, hr⟩ := HRW.out.num (i := 0) (by rw [HQL.out]; omega)
      rw [hz, Nat.add_zero] at hr
      obtain ⟨hop, _⟩ := HPW.out.op (i := z) (by rw [HN.out]; omega)
      obtain ⟨y, HY⟩ : ∃ y, Hid (y = (pat ps z).1) := ⟨_, rfl⟩
      rw [← HY.out] at hop
      have hz0 : (0 : Int) ≤ (z : Int) := by omega
      have hz1 : (z : Int) < (m : Int) := by omega
      obtain ⟨wz, HWZ2⟩ : ∃ v, Hid (v = (decide (y = 3) || decide (y = 2))) := ⟨_, rfl⟩
      obtain ⟨v, HV⟩ : ∃ v, Hid (v = wrapT (oneT ps z) wz) := ⟨_, rfl⟩
      have hvs : v.size ≤ 20 := by rw [HV.out]; exact wrapT_le (oneT_le ps z) wz
      have HSTEP : Hid (oneT ps k = if v = emT ∨ 20 < v.size + 1 then emT else v ++ sgnT x0) := by
        show _ = _
        rw [HONE.out]
        unfold pcT
        rw [if_neg hne1]
        refine kidsT_one HX23.out HQL.out ?_
        rw [HV.out, HWZ2.out, HY.out, hz, show ((z : Int)).toNat = z by omega, HTZ.out _ hzk]
        unfold inPar
        rw [hd3]
        simp
      have HWW : Hid (wz = true → (pat ps z).1 = 2 ∨ (pat ps z).1 = 3) := fun h => by
        rw [HWZ2.out, HY.out] at h
        simp at h
        omega
      have HCC : Hid (∀ w0, Below w.heap.size w w0 → Calls Try.prog 70 #[pv (some ⟨bb, oo, none⟩) m mc, .int .i64 (z : Int), .bool wz] w0 fun e w' => e = .returned (.string v) ∧ Hid (Below w0.heap.size w0 w')) := fun w0 h => by rw [HV.out]; exact HIH.out z hzk wz w0 h HWW.out
      obtain rfl : wi = false := by
        rcases Bool.eq_false_or_eq_true wi with h | h
        · exact absurd (HWI.out h) HX23.out
        · exact h
      have HRE : Hid (RR = oneT ps k) := by
        show _ = _
        rw [HRR.out]
        unfold wrapT
        by_cases h : oneT ps k = emT
        · rw [if_pos h, h]
        · rw [if_neg h, if_neg (by simp)]
      clear hz hzk
      go_wp2_with fail
      go_quiet (fail)
      obtain ⟨V, HVV⟩ : ∃ V, Hid (V = W.drewN nq) := ⟨_, rfl⟩
      have HBV : Hid (Below (B + 2) W V) := by rw [HVV.out]; exact below_drewN (Below.refl _ _) _
      rw [← HVV.out]
      have hrV : V.cell? ⟨rb, ro, none⟩ = some (.int .i64 (z : Int)) := by rw [HVV.out]; exact hr
      clear HVV c0 c1 c2 hop hr
      have HKS : Hid (∀ wz, Below V.heap.size V wz → (wz.cell? ⟨B, 0, none⟩ = some (.slice (some ⟨bb, oo, none⟩) m mc)) ∧ (wz.cell? ⟨B + 1, 0, none⟩ = some (.int .i64 x0) ∧ wz.cell? ⟨B + 1, 2, none⟩ = some (.slice (some ⟨rb, ro, none⟩) 1 rc)) ∧ wz.cell? ⟨rb, ro, none⟩ = some (.int .i64 (z : Int))) := fun wz h => by
        have h1 := HCX.out wz (HBV.out.trans (h.mono (by have := HBV.out.size; have := HSW.out; omega)))
        exact ⟨h1.1, h1.2, cell_below hrV h (lt_of_cell hrV)⟩
      have HBD : Hid (Below V.heap.size V V.drew) := (Below.refl _ _).drew
      have HBVW : Hid (Below w.heap.size w V) := HWZ.out _ HBV.out
      clear hrV
      go_upto_region 5 with fail
      try rw [hb1]
      try rw [hb2]
      try rw [hb3]
      go_cut [8] (fun vv wc => vv = .string v ∧ Hid (Below V.heap.size V wc))
      case first =>
        by_cases hy3 : y = 3
        · subst hy3
          obtain rfl : wz = true := by rw [HWZ2.out]; decide
          refine wp_region_held_drew (S := fun wz => (wz.cell? ⟨B, 0, none⟩ = some (.slice (some ⟨bb, oo, none⟩) m mc)) ∧ (wz.cell? ⟨B + 1, 0, none⟩ = some (.int .i64 x0) ∧ wz.cell? ⟨B + 1, 2, none⟩ = some (.slice (some ⟨rb, ro, none⟩) 1 rc)) ∧ wz.cell? ⟨rb, ro, none⟩ = some (.int .i64 (z : Int))) (by kernel_rfl) (HKS.out _ HBD.out) (fun hHeld => ?_)
          refine wpAnyH_take (i := 0) (oi := { dst := some 30, op := Go.Op.load 34 (Go.Operand.tmp 3), type := 34, pos := "l08_query.go:283", after := #[], guard := none }) (v := ?_) rfl (by kernel_rfl) (by kernel_rfl) (by kernel_rfl) (fun _ _ _ h => h) (Or.inl ⟨by kernel_rfl, ?_⟩) (by assumption) ?_
          rotate_left
          · intro w hSw; (try dsimp only at hSw); go_simp; try with_reducible rfl
          simp only [Act.put, List.setIfInBounds_toArray, List.set_cons_zero, List.set_cons_succ]
          refine wpAnyH_take (i := 1) (oi := { dst := some 31, op := Go.Op.fieldAddr 120 (Go.Operand.tmp 7) 2, type := 0, pos := "l08_query.go:283", after := #[], guard := none }) (v := ?_) rfl (by kernel_rfl) (by kernel_rfl) (by kernel_rfl) (fun _ _ _ h => h) (Or.inl ⟨by kernel_rfl, ?_⟩) (by assumption) ?_
          rotate_left
          · intro w hSw; (try dsimp only at hSw); go_simp; try with_reducible rfl
          simp only [Act.put, List.setIfInBounds_toArray, List.set_cons_zero, List.set_cons_succ]
          refine wpAnyH_take (i := 2) (oi := { dst := some 32, op := Go.Op.load 68 (Go.Operand.tmp 31), type := 68, pos := "l08_query.go:283", after := #[{ on := 1, ground := Go.Ground.data }], guard := none }) (v := ?_) rfl (by kernel_rfl) (by kernel_rfl) (by kernel_rfl) (fun _ _ _ h => h) (Or.inl ⟨by kernel_rfl, ?_⟩) (by assumption) ?_
          rotate_left
          · intro w hSw; (try dsimp only at hSw); go_simp; try with_reducible rfl
          simp only [Act.put, List.setIfInBounds_toArray, List.set_cons_zero, List.set_cons_succ]
          refine wpAnyH_take (i := 3) (oi := { dst := some 33, op := Go.Op.indexAddr 68 (Go.Operand.tmp 32) (Go.Operand.const (Go.Value.int Go.IntKind.i64 0)), type := 0, pos := "l08_query.go:283", after := #[{ on := 2, ground := Go.Ground.data }], guard := none }) (v := ?_) rfl (by kernel_rfl) (by kernel_rfl) (by kernel_rfl) (fun _ _ _ h => h) (Or.inl ⟨by kernel_rfl, ?_⟩) (by assumption) ?_
          rotate_left
          · intro w hSw; (try dsimp only at hSw); go_simp; try with_reducible rfl
          simp only [Act.put, List.setIfInBounds_toArray, List.set_cons_zero, List.set_cons_succ]
          refine wpAnyH_take (i := 4) (oi := { dst := some 34, op := Go.Op.load 3 (Go.Operand.tmp 33), type := 3, pos := "l08_query.go:283", after := #[{ on := 3, ground := Go.Ground.data }], guard := none }) (v := ?_) rfl (by kernel_rfl) (by kernel_rfl) (by kernel_rfl) (fun _ _ _ h => h) (Or.inl ⟨by kernel_rfl, ?_⟩) (by assumption) ?_
          rotate_left
          · intro w hSw; (try dsimp only at hSw); go_simp; try with_reducible rfl
          simp only [Act.put, List.setIfInBounds_toArray, List.set_cons_zero, List.set_cons_succ]
          refine wpAnyH_take (i := 5) (oi := { dst := some 35, op := Go.Op.move (Go.Operand.tmp 12), type := 3, pos := "l08_query.go:283", after := #[], guard := none }) (v := ?_) rfl (by kernel_rfl) (by kernel_rfl) (by kernel_rfl) (fun _ _ _ h => h) (Or.inl ⟨by kernel_rfl, ?_⟩) (by assumption) ?_
          rotate_left
          · intro w hSw; (try dsimp only at hSw); go_simp; try with_reducible rfl
          simp only [Act.put, List.setIfInBounds_toArray, List.set_cons_zero, List.set_cons_succ]
          refine wpAnyH_take (i := 6) (oi := { dst := some 36, op := Go.Op.binOp Go.BinOp.eql 3 (Go.Operand.tmp 35) (Go.Operand.const (Go.Value.int Go.IntKind.i64 3)) 3, type := 4, pos := "l08_query.go:283", after := #[{ on := 5, ground := Go.Ground.data }], guard := none }) (v := ?_) rfl (by kernel_rfl) (by kernel_rfl) (by kernel_rfl) (fun _ _ _ h => h) (Or.inl ⟨by kernel_rfl, ?_⟩) (by assumption) ?_
          rotate_left
          · intro w hSw; (try dsimp only at hSw); go_simp; try with_reducible rfl
          simp only [Act.put, List.setIfInBounds_toArray, List.set_cons_zero, List.set_cons_succ]
          refine wpAnyH_take (i := 7) (oi := { dst := some 37, op := Go.Op.move (Go.Operand.tmp 36), type := 4, pos := "l08_query.go:283", after := #[{ on := 6, ground := Go.Ground.data }], guard := none }) (v := ?_) rfl (by kernel_rfl) (by kernel_rfl) (by kernel_rfl) (fun _ _ _ h => h) (Or.inl ⟨by kernel_rfl, ?_⟩) (by assumption) ?_
          rotate_left
          · intro w hSw; (try dsimp only at hSw); go_simp; try with_reducible rfl
          simp only [Act.put, List.setIfInBounds_toArray, List.set_cons_zero, List.set_cons_succ]
          refine wpAnyH_take (i := 8) (oi := { dst := some 38, op := Go.Op.move (Go.Operand.tmp 12), type := 3, pos := "l08_query.go:283", after := #[{ on := 7, ground := Go.Ground.guard }], guard := some (7, false) }) (v := undef) rfl (by kernel_rfl) (by kernel_rfl) (by kernel_rfl) (fun _ _ _ h => h) (Or.inr ⟨by kernel_rfl, rfl⟩) (by assumption) ?_
          simp only [Act.put, List.setIfInBounds_toArray, List.set_cons_zero, List.set_cons_succ]
          refine wpAnyH_take (i := 9) (oi := { dst := some 39, op := Go.Op.binOp Go.BinOp.eql 3 (Go.Operand.tmp 38) (Go.Operand.const (Go.Value.int Go.IntKind.i64 2)) 3, type := 4, pos := "l08_query.go:283", after := #[{ on := 8, ground := Go.Ground.data }, { on := 7, ground := Go.Ground.guard }], guard := some (7, false) }) (v := undef) rfl (by kernel_rfl) (by kernel_rfl) (by kernel_rfl) (fun _ _ _ h => h) (Or.inr ⟨by kernel_rfl, rfl⟩) (by assumption) ?_
          simp only [Act.put, List.setIfInBounds_toArray, List.set_cons_zero, List.set_cons_succ]
          refine wpAnyH_take (i := 10) (oi := { dst := some 40, op := Go.Op.pick (Go.Operand.tmp 37) (Go.Operand.const (Go.Value.bool true)) (Go.Operand.tmp 39), type := 4, pos := "l08_query.go:283", after := #[{ on := 7, ground := Go.Ground.data }, { on := 9, ground := Go.Ground.data }], guard := none }) (v := ?_) rfl (by kernel_rfl) (by kernel_rfl) (by kernel_rfl) (fun _ _ _ h => h) (Or.inl ⟨by kernel_rfl, ?_⟩) (by assumption) ?_
          rotate_left
          · intro w hSw; (try dsimp only at hSw); go_simp; try with_reducible rfl
          simp only [Act.put, List.setIfInBounds_toArray, List.set_cons_zero, List.set_cons_succ]
          refine wpAnyH_ready (rs := [11]) (by kernel_rfl) (by simp) ?_
          refine AllReadyH.cons (o := { dst := some 41, op := Go.Op.call { callee := Go.Callee.value (Go.Operand.func 70), args := #[Go.Operand.tmp 30, Go.Operand.tmp 34, Go.Operand.tmp 40], argTypes := #[34, 3, 4] }, type := 9, pos := "l08_query.go:283", after := #[{ on := 0, ground := Go.Ground.data }, { on := 4, ground := Go.Ground.data }, { on := 10, ground := Go.Ground.data }, { on := 7, ground := Go.Ground.chain }], guard := none }) rfl (fun K hK => ?_) ?_
          · go_wp2_with (go_at_call 70; refine (HCC.out _ (HBVW.out.trans (HBD.out.mono HBVW.out.size))).mono ?_; rintro e w4 ⟨rfl, HB4⟩)
            have HB4V : Hid (Below V.heap.size V w4) := HBD.out.trans (HB4.out.mono HBD.out.size)
            refine hK.out _ _ (HKS.out _ HB4V.out) (fun hHeld => ?_)
            clear hK K
            try simp only [Act.put, List.setIfInBounds_toArray, List.set_cons_zero, List.set_cons_succ]
            refine wpAnyH_take (i := 12) (oi := { dst := some 8, op := Go.Op.assign (Go.Operand.tmp 41), type := 9, pos := "l08_query.go:283", after := #[{ on := 11, ground := Go.Ground.data }, { on := 11, ground := Go.Ground.chain }, { on := 0, ground := Go.Ground.phase }, { on := 1, ground := Go.Ground.phase }, { on := 2, ground := Go.Ground.phase }, { on := 3, ground := Go.Ground.phase }, { on := 4, ground := Go.Ground.phase }, { on := 5, ground := Go.Ground.phase }, { on := 6, ground := Go.Ground.phase }, { on := 7, ground := Go.Ground.phase }, { on := 8, ground := Go.Ground.phase }, { on := 9, ground := Go.Ground.phase }, { on := 10, ground := Go.Ground.phase }, { on := 11, ground := Go.Ground.phase }], guard := none }) (v := ?_) rfl (by kernel_rfl) (by kernel_rfl) (by kernel_rfl) (fun _ _ _ h => h) (Or.inl ⟨by kernel_rfl, ?_⟩) (by assumption) ?_
            rotate_left
            · intro w hSw; (try dsimp only at hSw); go_simp; try with_reducible rfl
            simp only [Act.put, List.setIfInBounds_toArray, List.set_cons_zero, List.set_cons_succ]
            refine wpAnyH_done (by kernel_rfl) ?_ _
            clear hHeld
            first | (go_meet; case rel => exact ⟨rfl, HB4V⟩) | (go_wp2_with fail; go_meet; case rel => exact ⟨rfl, HB4V⟩)
          exact AllReadyH.nil
        · have hy3d : decide (y = 3) = false := decide_eq_false hy3
          have hy3b : (y == 3) = false := by simpa using hy3
          by_cases hy2 : y = 2
          · subst hy2
            obtain rfl : wz = true := by rw [HWZ2.out]; decide
            refine wp_region_held_drew (S := fun wz => (wz.cell? ⟨B, 0, none⟩ = some (.slice (some ⟨bb, oo, none⟩) m mc)) ∧ (wz.cell? ⟨B + 1, 0, none⟩ = some (.int .i64 x0) ∧ wz.cell? ⟨B + 1, 2, none⟩ = some (.slice (some ⟨rb, ro, none⟩) 1 rc)) ∧ wz.cell? ⟨rb, ro, none⟩ = some (.int .i64 (z : Int))) (by kernel_rfl) (HKS.out _ HBD.out) (fun hHeld => ?_)
            refine wpAnyH_take (i := 0) (oi := { dst := some 30, op := Go.Op.load 34 (Go.Operand.tmp 3), type := 34, pos := "l08_query.go:283", after := #[], guard := none }) (v := ?_) rfl (by kernel_rfl) (by kernel_rfl) (by kernel_rfl) (fun _ _ _ h => h) (Or.inl ⟨by kernel_rfl, ?_⟩) (by assumption) ?_
            rotate_left
            · intro w hSw; (try dsimp only at hSw); go_simp; try with_reducible rfl
            simp only [Act.put, List.setIfInBounds_toArray, List.set_cons_zero, List.set_cons_succ]
            refine wpAnyH_take (i := 1) (oi := { dst := some 31, op := Go.Op.fieldAddr 120 (Go.Operand.tmp 7) 2, type := 0, pos := "l08_query.go:283", after := #[], guard := none }) (v := ?_) rfl (by kernel_rfl) (by kernel_rfl) (by kernel_rfl) (fun _ _ _ h => h) (Or.inl ⟨by kernel_rfl, ?_⟩) (by assumption) ?_
            rotate_left
            · intro w hSw; (try dsimp only at hSw); go_simp; try with_reducible rfl
            simp only [Act.put, List.setIfInBounds_toArray, List.set_cons_zero, List.set_cons_succ]
            refine wpAnyH_take (i := 2) (oi := { dst := some 32, op := Go.Op.load 68 (Go.Operand.tmp 31), type := 68, pos := "l08_query.go:283", after := #[{ on := 1, ground := Go.Ground.data }], guard := none }) (v := ?_) rfl (by kernel_rfl) (by kernel_rfl) (by kernel_rfl) (fun _ _ _ h => h) (Or.inl ⟨by kernel_rfl, ?_⟩) (by assumption) ?_
            rotate_left
            · intro w hSw; (try dsimp only at hSw); go_simp; try with_reducible rfl
            simp only [Act.put, List.setIfInBounds_toArray, List.set_cons_zero, List.set_cons_succ]
            refine wpAnyH_take (i := 3) (oi := { dst := some 33, op := Go.Op.indexAddr 68 (Go.Operand.tmp 32) (Go.Operand.const (Go.Value.int Go.IntKind.i64 0)), type := 0, pos := "l08_query.go:283", after := #[{ on := 2, ground := Go.Ground.data }], guard := none }) (v := ?_) rfl (by kernel_rfl) (by kernel_rfl) (by kernel_rfl) (fun _ _ _ h => h) (Or.inl ⟨by kernel_rfl, ?_⟩) (by assumption) ?_
            rotate_left
            · intro w hSw; (try dsimp only at hSw); go_simp; try with_reducible rfl
            simp only [Act.put, List.setIfInBounds_toArray, List.set_cons_zero, List.set_cons_succ]
            refine wpAnyH_take (i := 4) (oi := { dst := some 34, op := Go.Op.load 3 (Go.Operand.tmp 33), type := 3, pos := "l08_query.go:283", after := #[{ on := 3, ground := Go.Ground.data }], guard := none }) (v := ?_) rfl (by kernel_rfl) (by kernel_rfl) (by kernel_rfl) (fun _ _ _ h => h) (Or.inl ⟨by kernel_rfl, ?_⟩) (by assumption) ?_
            rotate_left
            · intro w hSw; (try dsimp only at hSw); go_simp; try with_reducible rfl
            simp only [Act.put, List.setIfInBounds_toArray, List.set_cons_zero, List.set_cons_succ]
            refine wpAnyH_take (i := 5) (oi := { dst := some 35, op := Go.Op.move (Go.Operand.tmp 12), type := 3, pos := "l08_query.go:283", after := #[], guard := none }) (v := ?_) rfl (by kernel_rfl) (by kernel_rfl) (by kernel_rfl) (fun _ _ _ h => h) (Or.inl ⟨by kernel_rfl, ?_⟩) (by assumption) ?_
            rotate_left
            · intro w hSw; (try dsimp only at hSw); go_simp; try with_reducible rfl
            simp only [Act.put, List.setIfInBounds_toArray, List.set_cons_zero, List.set_cons_succ]
            refine wpAnyH_take (i := 6) (oi := { dst := some 36, op := Go.Op.binOp Go.BinOp.eql 3 (Go.Operand.tmp 35) (Go.Operand.const (Go.Value.int Go.IntKind.i64 3)) 3, type := 4, pos := "l08_query.go:283", after := #[{ on := 5, ground := Go.Ground.data }], guard := none }) (v := ?_) rfl (by kernel_rfl) (by kernel_rfl) (by kernel_rfl) (fun _ _ _ h => h) (Or.inl ⟨by kernel_rfl, ?_⟩) (by assumption) ?_
            rotate_left
            · intro w hSw; (try dsimp only at hSw); go_simp; try with_reducible rfl
            simp only [Act.put, List.setIfInBounds_toArray, List.set_cons_zero, List.set_cons_succ]
            refine wpAnyH_take (i := 7) (oi := { dst := some 37, op := Go.Op.move (Go.Operand.tmp 36), type := 4, pos := "l08_query.go:283", after := #[{ on := 6, ground := Go.Ground.data }], guard := none }) (v := ?_) rfl (by kernel_rfl) (by kernel_rfl) (by kernel_rfl) (fun _ _ _ h => h) (Or.inl ⟨by kernel_rfl, ?_⟩) (by assumption) ?_
            rotate_left
            · intro w hSw; (try dsimp only at hSw); go_simp; try with_reducible rfl
            simp only [Act.put, List.setIfInBounds_toArray, List.set_cons_zero, List.set_cons_succ]
            refine wpAnyH_take (i := 8) (oi := { dst := some 38, op := Go.Op.move (Go.Operand.tmp 12), type := 3, pos := "l08_query.go:283", after := #[{ on := 7, ground := Go.Ground.guard }], guard := some (7, false) }) (v := ?_) rfl (by kernel_rfl) (by kernel_rfl) (by kernel_rfl) (fun _ _ _ h => h) (Or.inl ⟨by kernel_rfl, ?_⟩) (by assumption) ?_
            rotate_left
            · intro w hSw; (try dsimp only at hSw); go_simp; try with_reducible rfl
            simp only [Act.put, List.setIfInBounds_toArray, List.set_cons_zero, List.set_cons_succ]
            refine wpAnyH_take (i := 9) (oi := { dst := some 39, op := Go.Op.binOp Go.BinOp.eql 3 (Go.Operand.tmp 38) (Go.Operand.const (Go.Value.int Go.IntKind.i64 2)) 3, type := 4, pos := "l08_query.go:283", after := #[{ on := 8, ground := Go.Ground.data }, { on := 7, ground := Go.Ground.guard }], guard := some (7, false) }) (v := ?_) rfl (by kernel_rfl) (by kernel_rfl) (by kernel_rfl) (fun _ _ _ h => h) (Or.inl ⟨by kernel_rfl, ?_⟩) (by assumption) ?_
            rotate_left
            · intro w hSw; (try dsimp only at hSw); go_simp; try with_reducible rfl
            simp only [Act.put, List.setIfInBounds_toArray, List.set_cons_zero, List.set_cons_succ]
            refine wpAnyH_take (i := 10) (oi := { dst := some 40, op := Go.Op.pick (Go.Operand.tmp 37) (Go.Operand.const (Go.Value.bool true)) (Go.Operand.tmp 39), type := 4, pos := "l08_query.go:283", after := #[{ on := 7, ground := Go.Ground.data }, { on := 9, ground := Go.Ground.data }], guard := none }) (v := ?_) rfl (by kernel_rfl) (by kernel_rfl) (by kernel_rfl) (fun _ _ _ h => h) (Or.inl ⟨by kernel_rfl, ?_⟩) (by assumption) ?_
            rotate_left
            · intro w hSw; (try dsimp only at hSw); go_simp; try with_reducible rfl
            simp only [Act.put, List.setIfInBounds_toArray, List.set_cons_zero, List.set_cons_succ]
            refine wpAnyH_ready (rs := [11]) (by kernel_rfl) (by simp) ?_
            refine AllReadyH.cons (o := { dst := some 41, op := Go.Op.call { callee := Go.Callee.value (Go.Operand.func 70), args := #[Go.Operand.tmp 30, Go.Operand.tmp 34, Go.Operand.tmp 40], argTypes := #[34, 3, 4] }, type := 9, pos := "l08_query.go:283", after := #[{ on := 0, ground := Go.Ground.data }, { on := 4, ground := Go.Ground.data }, { on := 10, ground := Go.Ground.data }, { on := 7, ground := Go.Ground.chain }], guard := none }) rfl (fun K hK => ?_) ?_
            · go_wp2_with (go_at_call 70; refine (HCC.out _ (HBVW.out.trans (HBD.out.mono HBVW.out.size))).mono ?_; rintro e w4 ⟨rfl, HB4⟩)
              have HB4V : Hid (Below V.heap.size V w4) := HBD.out.trans (HB4.out.mono HBD.out.size)
              refine hK.out _ _ (HKS.out _ HB4V.out) (fun hHeld => ?_)
              clear hK K
              try simp only [Act.put, List.setIfInBounds_toArray, List.set_cons_zero, List.set_cons_succ]
              refine wpAnyH_take (i := 12) (oi := { dst := some 8, op := Go.Op.assign (Go.Operand.tmp 41), type := 9, pos := "l08_query.go:283", after := #[{ on := 11, ground := Go.Ground.data }, { on := 11, ground := Go.Ground.chain }, { on := 0, ground := Go.Ground.phase }, { on := 1, ground := Go.Ground.phase }, { on := 2, ground := Go.Ground.phase }, { on := 3, ground := Go.Ground.phase }, { on := 4, ground := Go.Ground.phase }, { on := 5, ground := Go.Ground.phase }, { on := 6, ground := Go.Ground.phase }, { on := 7, ground := Go.Ground.phase }, { on := 8, ground := Go.Ground.phase }, { on := 9, ground := Go.Ground.phase }, { on := 10, ground := Go.Ground.phase }, { on := 11, ground := Go.Ground.phase }], guard := none }) (v := ?_) rfl (by kernel_rfl) (by kernel_rfl) (by kernel_rfl) (fun _ _ _ h => h) (Or.inl ⟨by kernel_rfl, ?_⟩) (by assumption) ?_
              rotate_left
              · intro w hSw; (try dsimp only at hSw); go_simp; try with_reducible rfl
              simp only [Act.put, List.setIfInBounds_toArray, List.set_cons_zero, List.set_cons_succ]
              refine wpAnyH_done (by kernel_rfl) ?_ _
              clear hHeld
              first | (go_meet; case rel => exact ⟨rfl, HB4V⟩) | (go_wp2_with fail; go_meet; case rel => exact ⟨rfl, HB4V⟩)
            exact AllReadyH.nil
          · have hy2d : decide (y = 2) = false := decide_eq_false hy2
            have hy2b : (y == 2) = false := by simpa using hy2
            obtain rfl : wz = false := by rw [HWZ2.out, hy3d, hy2d]; rfl
            refine wp_region_held_drew (S := fun wz => (wz.cell? ⟨B, 0, none⟩ = some (.slice (some ⟨bb, oo, none⟩) m mc)) ∧ (wz.cell? ⟨B + 1, 0, none⟩ = some (.int .i64 x0) ∧ wz.cell? ⟨B + 1, 2, none⟩ = some (.slice (some ⟨rb, ro, none⟩) 1 rc)) ∧ wz.cell? ⟨rb, ro, none⟩ = some (.int .i64 (z : Int))) (by kernel_rfl) (HKS.out _ HBD.out) (fun hHeld => ?_)
            refine wpAnyH_take (i := 0) (oi := { dst := some 30, op := Go.Op.load 34 (Go.Operand.tmp 3), type := 34, pos := "l08_query.go:283", after := #[], guard := none }) (v := ?_) rfl (by kernel_rfl) (by kernel_rfl) (by kernel_rfl) (fun _ _ _ h => h) (Or.inl ⟨by kernel_rfl, ?_⟩) (by assumption) ?_
            rotate_left
            · intro w hSw; (try dsimp only at hSw); go_simp; try with_reducible rfl
            simp only [Act.put, List.setIfInBounds_toArray, List.set_cons_zero, List.set_cons_succ]
            refine wpAnyH_take (i := 1) (oi := { dst := some 31, op := Go.Op.fieldAddr 120 (Go.Operand.tmp 7) 2, type := 0, pos := "l08_query.go:283", after := #[], guard := none }) (v := ?_) rfl (by kernel_rfl) (by kernel_rfl) (by kernel_rfl) (fun _ _ _ h => h) (Or.inl ⟨by kernel_rfl, ?_⟩) (by assumption) ?_
            rotate_left
            · intro w hSw; (try dsimp only at hSw); go_simp; try with_reducible rfl
            simp only [Act.put, List.setIfInBounds_toArray, List.set_cons_zero, List.set_cons_succ]
            refine wpAnyH_take (i := 2) (oi := { dst := some 32, op := Go.Op.load 68 (Go.Operand.tmp 31), type := 68, pos := "l08_query.go:283", after := #[{ on := 1, ground := Go.Ground.data }], guard := none }) (v := ?_) rfl (by kernel_rfl) (by kernel_rfl) (by kernel_rfl) (fun _ _ _ h => h) (Or.inl ⟨by kernel_rfl, ?_⟩) (by assumption) ?_
            rotate_left
            · intro w hSw; (try dsimp only at hSw); go_simp; try with_reducible rfl
            simp only [Act.put, List.setIfInBounds_toArray, List.set_cons_zero, List.set_cons_succ]
            refine wpAnyH_take (i := 3) (oi := { dst := some 33, op := Go.Op.indexAddr 68 (Go.Operand.tmp 32) (Go.Operand.const (Go.Value.int Go.IntKind.i64 0)), type := 0, pos := "l08_query.go:283", after := #[{ on := 2, ground := Go.Ground.data }], guard := none }) (v := ?_) rfl (by kernel_rfl) (by kernel_rfl) (by kernel_rfl) (fun _ _ _ h => h) (Or.inl ⟨by kernel_rfl, ?_⟩) (by assumption) ?_
            rotate_left
            · intro w hSw; (try dsimp only at hSw); go_simp; try with_reducible rfl
            simp only [Act.put, List.setIfInBounds_toArray, List.set_cons_zero, List.set_cons_succ]
            refine wpAnyH_take (i := 4) (oi := { dst := some 34, op := Go.Op.load 3 (Go.Operand.tmp 33), type := 3, pos := "l08_query.go:283", after := #[{ on := 3, ground := Go.Ground.data }], guard := none }) (v := ?_) rfl (by kernel_rfl) (by kernel_rfl) (by kernel_rfl) (fun _ _ _ h => h) (Or.inl ⟨by kernel_rfl, ?_⟩) (by assumption) ?_
            rotate_left
            · intro w hSw; (try dsimp only at hSw); go_simp; try with_reducible rfl
            simp only [Act.put, List.setIfInBounds_toArray, List.set_cons_zero, List.set_cons_succ]
            refine wpAnyH_take (i := 5) (oi := { dst := some 35, op := Go.Op.move (Go.Operand.tmp 12), type := 3, pos := "l08_query.go:283", after := #[], guard := none }) (v := ?_) rfl (by kernel_rfl) (by kernel_rfl) (by kernel_rfl) (fun _ _ _ h => h) (Or.inl ⟨by kernel_rfl, ?_⟩) (by assumption) ?_
            rotate_left
            · intro w hSw; (try dsimp only at hSw); go_simp; try with_reducible rfl
            simp only [Act.put, List.setIfInBounds_toArray, List.set_cons_zero, List.set_cons_succ]
            refine wpAnyH_take (i := 6) (oi := { dst := some 36, op := Go.Op.binOp Go.BinOp.eql 3 (Go.Operand.tmp 35) (Go.Operand.const (Go.Value.int Go.IntKind.i64 3)) 3, type := 4, pos := "l08_query.go:283", after := #[{ on := 5, ground := Go.Ground.data }], guard := none }) (v := ?_) rfl (by kernel_rfl) (by kernel_rfl) (by kernel_rfl) (fun _ _ _ h => h) (Or.inl ⟨by kernel_rfl, ?_⟩) (by assumption) ?_
            rotate_left
            · intro w hSw; (try dsimp only at hSw); go_simp; try with_reducible rfl
            simp only [Act.put, List.setIfInBounds_toArray, List.set_cons_zero, List.set_cons_succ]
            refine wpAnyH_take (i := 7) (oi := { dst := some 37, op := Go.Op.move (Go.Operand.tmp 36), type := 4, pos := "l08_query.go:283", after := #[{ on := 6, ground := Go.Ground.data }], guard := none }) (v := ?_) rfl (by kernel_rfl) (by kernel_rfl) (by kernel_rfl) (fun _ _ _ h => h) (Or.inl ⟨by kernel_rfl, ?_⟩) (by assumption) ?_
            rotate_left
            · intro w hSw; (try dsimp only at hSw); go_simp; try with_reducible rfl
            simp only [Act.put, List.setIfInBounds_toArray, List.set_cons_zero, List.set_cons_succ]
            refine wpAnyH_take (i := 8) (oi := { dst := some 38, op := Go.Op.move (Go.Operand.tmp 12), type := 3, pos := "l08_query.go:283", after := #[{ on := 7, ground := Go.Ground.guard }], guard := some (7, false) }) (v := ?_) rfl (by kernel_rfl) (by kernel_rfl) (by kernel_rfl) (fun _ _ _ h => h) (Or.inl ⟨by kernel_rfl, ?_⟩) (by assumption) ?_
            rotate_left
            · intro w hSw; (try dsimp only at hSw); go_simp; try with_reducible rfl
            simp only [Act.put, List.setIfInBounds_toArray, List.set_cons_zero, List.set_cons_succ]
            refine wpAnyH_take (i := 9) (oi := { dst := some 39, op := Go.Op.binOp Go.BinOp.eql 3 (Go.Operand.tmp 38) (Go.Operand.const (Go.Value.int Go.IntKind.i64 2)) 3, type := 4, pos := "l08_query.go:283", after := #[{ on := 8, ground := Go.Ground.data }, { on := 7, ground := Go.Ground.guard }], guard := some (7, false) }) (v := ?_) rfl (by kernel_rfl) (by kernel_rfl) (by kernel_rfl) (fun _ _ _ h => h) (Or.inl ⟨by kernel_rfl, ?_⟩) (by assumption) ?_
            rotate_left
            · intro w hSw; (try dsimp only at hSw); go_simp; try with_reducible rfl
            simp only [Act.put, List.setIfInBounds_toArray, List.set_cons_zero, List.set_cons_succ]
            refine wpAnyH_take (i := 10) (oi := { dst := some 40, op := Go.Op.pick (Go.Operand.tmp 37) (Go.Operand.const (Go.Value.bool true)) (Go.Operand.tmp 39), type := 4, pos := "l08_query.go:283", after := #[{ on := 7, ground := Go.Ground.data }, { on := 9, ground := Go.Ground.data }], guard := none }) (v := ?_) rfl (by kernel_rfl) (by kernel_rfl) (by kernel_rfl) (fun _ _ _ h => h) (Or.inl ⟨by kernel_rfl, ?_⟩) (by assumption) ?_
            rotate_left
            · intro w hSw; (try dsimp only at hSw); go_simp; try with_reducible rfl
            simp only [Act.put, List.setIfInBounds_toArray, List.set_cons_zero, List.set_cons_succ]
            refine wpAnyH_ready (rs := [11]) (by kernel_rfl) (by simp) ?_
            refine AllReadyH.cons (o := { dst := some 41, op := Go.Op.call { callee := Go.Callee.value (Go.Operand.func 70), args := #[Go.Operand.tmp 30, Go.Operand.tmp 34, Go.Operand.tmp 40], argTypes := #[34, 3, 4] }, type := 9, pos := "l08_query.go:283", after := #[{ on := 0, ground := Go.Ground.data }, { on := 4, ground := Go.Ground.data }, { on := 10, ground := Go.Ground.data }, { on := 7, ground := Go.Ground.chain }], guard := none }) rfl (fun K hK => ?_) ?_
            · go_wp2_with (go_at_call 70; refine (HCC.out _ (HBVW.out.trans (HBD.out.mono HBVW.out.size))).mono ?_; rintro e w4 ⟨rfl, HB4⟩)
              have HB4V : Hid (Below V.heap.size V w4) := HBD.out.trans (HB4.out.mono HBD.out.size)
              refine hK.out _ _ (HKS.out _ HB4V.out) (fun hHeld => ?_)
              clear hK K
              try simp only [Act.put, List.setIfInBounds_toArray, List.set_cons_zero, List.set_cons_succ]
              refine wpAnyH_take (i := 12) (oi := { dst := some 8, op := Go.Op.assign (Go.Operand.tmp 41), type := 9, pos := "l08_query.go:283", after := #[{ on := 11, ground := Go.Ground.data }, { on := 11, ground := Go.Ground.chain }, { on := 0, ground := Go.Ground.phase }, { on := 1, ground := Go.Ground.phase }, { on := 2, ground := Go.Ground.phase }, { on := 3, ground := Go.Ground.phase }, { on := 4, ground := Go.Ground.phase }, { on := 5, ground := Go.Ground.phase }, { on := 6, ground := Go.Ground.phase }, { on := 7, ground := Go.Ground.phase }, { on := 8, ground := Go.Ground.phase }, { on := 9, ground := Go.Ground.phase }, { on := 10, ground := Go.Ground.phase }, { on := 11, ground := Go.Ground.phase }], guard := none }) (v := ?_) rfl (by kernel_rfl) (by kernel_rfl) (by kernel_rfl) (fun _ _ _ h => h) (Or.inl ⟨by kernel_rfl, ?_⟩) (by assumption) ?_
              rotate_left
              · intro w hSw; (try dsimp only at hSw); go_simp; try with_reducible rfl
              simp only [Act.put, List.setIfInBounds_toArray, List.set_cons_zero, List.set_cons_succ]
              refine wpAnyH_done (by kernel_rfl) ?_ _
              clear hHeld
              first | (go_meet; case rel => exact ⟨rfl, HB4V⟩) | (go_wp2_with fail; go_meet; case rel => exact ⟨rfl, HB4V⟩)
            exact AllReadyH.nil
      case rest =>
        obtain ⟨rfl, HBC⟩ := hcut
        have HBV2 : Hid (Below (B + 2) W wc) := HBV.out.trans (HBC.out.mono (by have := HBV.out.size; have := HSW.out; omega))
        clear HKS HBD HBC HCC
        obtain ⟨c0, c1, c2⟩ := HCX.out wc HBV2.out
        by_cases he : v = emT
        · have hemb : (v.toList == ([] : List UInt8)) = true := by rw [he]; exact emb_em
          have HE : Hid (RR = emT) := by show _ = _; rw [HRE.out, HSTEP.out, if_pos (.inl he)]
          clear he
          go_wp2
          go_ret
          exact ⟨by rw [HE.out]; rfl, HWZ.out _ HBV2.out⟩
        · have hemb := emb_no he
          have HNE : Hid (¬ v = emT) := he
          clear he
          have hov1 : ¬ (9223372036854775807 < v.size + 1) := by omega
          obtain ⟨sg, HSG⟩ : ∃ s, Hid (s = sgnT x0) := ⟨_, rfl⟩
          obtain ⟨u, HUU⟩ : ∃ u, Hid (u = v ++ sg) := ⟨_, rfl⟩
          have hus : u.size = v.size + 1 := by rw [HUU.out, size_app, HSG.out, sgn_size]
          have HST2 : Hid (RR = if 20 < u.size then emT else u) := by
            show _ = _
            rw [HRE.out, HSTEP.out]
            by_cases h : 20 < v.size + 1
            · rw [if_pos (.inr h), if_pos (by rw [hus]; exact h)]
            · rw [if_neg (by rintro (h1 | h1); exact HNE.out h1; exact h h1), if_neg (by rw [hus]; exact h), HUU.out, HSG.out]
          rcases hx456 with hx | hx | hx
          all_goals
            subst hx
            have a1 := (HCX.out (wc.alloc (.cells #[.string ⟨#[42]⟩, .string ⟨#[43]⟩, .string ⟨#[63]⟩] 9)) (HBV2.out.alloc (by have := HBV2.out.size; have := HSW.out; omega) _)).2.1
            go_upto_region 24 with fail
            first | rw [show v ++ (⟨#[42]⟩ : ByteArray) = u by rw [HUU.out, HSG.out]; rfl] | rw [show v ++ (⟨#[43]⟩ : ByteArray) = u by rw [HUU.out, HSG.out]; rfl] | rw [show v ++ (⟨#[63]⟩ : ByteArray) = u by rw [HUU.out, HSG.out]; rfl]
            by_cases h20 : 20 < u.size
            · have h20' : (u.size : Int) > 20 := by omega
              have HE : Hid (RR = emT) := by show _ = _; rw [HST2.out, if_pos h20]
              go_wp2
              go_ret
              exact ⟨by rw [HE.out]; rfl, (HWZ.out _ HBV2.out).alloc (by have := HBV2.out.size; have := HSW.out; have := HB.out; omega) _⟩
            · have h20' : ¬ (u.size : Int) > 20 := by omega
              have HE : Hid (RR = u) := by show _ = _; rw [HST2.out, if_neg h20]
              go_wp2
              go_ret
              exact ⟨by rw [HE.out]; rfl, (HWZ.out _ HBV2.out).alloc (by have := HBV2.out.size; have := HSW.out; have := HB.out; omega) _⟩
end Go.Proofs.Ytkcflhlipdnbnaa
