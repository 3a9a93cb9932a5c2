import Derived.Test.YtbepmeipjdpipaaGreatJo14
import Derived.Test.YtbepmeipjdpipaaGreatJo06
import Derived.Test.YtbepmeipjdpipaaGreatJo11
namespace Go.Proofs.YtbepmeipjdpipaaGreat
open Go.RowKit
section
variable {P : Program}
theorem yieldsIf_build {ops : Array Oper} {S : World → Prop} {op : Oper} {a : Act} (hw : Region.wanted op (yielded ops a.tmps) = true) (ty : TypeId) (parts : Array (Nat × Operand)) (ho : op.op = .build ty parts) (vs : Array (Nat × Value)) (hx : (parts.map fun (i, x) => (i, a.eval x)) = vs) (cells : Array Value) (hb : ∀ w, (Instr.build ty vs).run P w = .ok (.agg cells) w) : YieldsIf P ops S op (.agg cells) a :=
 .inl ⟨hw, fun w _ => by
  have h := hb w
  rw [← hx] at h
  unfold execOp
  simp only [ho, Sem.run_bind, h, Result.andThen_ok, Sem.run_pure]⟩
theorem wpList_build {ops : Array Oper} {rest : List Oper} {op : Oper} {a : Act} {w : World} {Q : Exit → Act → World → Prop} (hgd : op.guard = none) (ty : TypeId) (parts : Array (Nat × Operand)) (ho : op.op = .build ty parts) (vs : Array (Nat × Value)) (hx : (parts.map fun (i, x) => (i, a.eval x)) = vs) (cells : Array Value) (hb : ∀ w, (Instr.build ty vs).run P w = .ok (.agg cells) w)
  (h : wpList P ops Q rest (a.put op.dst (.agg cells)) w) : wpList P ops Q (op :: rest) a w :=
 wpList_plain hgd fun _ hK => by
  have h2 := hb w
  rw [← hx] at h2
  unfold Oper.wp execOp
  simp only [ho, Sem.run_bind, h2, Result.andThen_ok, Sem.run_pure]
  exact hK _ _ h
end
def stF (nl : Bool) (f g : Nat → Bool) : Nat → Bool := fun i => if i = 0 then nl else if i < 25 then f (i - 1) else g (i - 25)
abbrev stv (nl : Bool) (f g : Nat → Bool) : Value := .agg (bcells 49 (stF nl f g)).toArray
theorem stF_first {nl : Bool} {f g : Nat → Bool} {i : Nat} (h : i < 24) : stF nl f g (1 + i) = f i := by
 unfold stF; rw [if_neg (by omega), if_pos (by omega), show 1 + i - 1 = i by omega]
theorem stF_last {nl : Bool} {f g : Nat → Bool} {i : Nat} : stF nl f g (25 + i) = g i := by
 unfold stF; rw [if_neg (by omega), if_neg (by omega), show 25 + i - 25 = i by omega]
theorem st_first {w : World} {b : Nat} {nl : Bool} {f g : Nat → Bool} (h : BBlk w b 49 (stF nl f g)) : w.rangeAt b 1 (bcells 24 f) := by
 have h1 := h.range 1 24 (by omega)
 rwa [bcells_congr (g := f) (fun i hi => stF_first hi)] at h1
theorem st_last {w : World} {b : Nat} {nl : Bool} {f g : Nat → Bool} (h : BBlk w b 49 (stF nl f g)) : w.rangeAt b 25 (bcells 24 g) := by
 have h1 := h.range 25 24 (by omega)
 rwa [bcells_congr (g := g) (fun i hi => stF_last)] at h1
theorem st_null {w : World} {b : Nat} {nl : Bool} {f g : Nat → Bool} (h : BBlk w b 49 (stF nl f g)) : w.cell? ⟨b, 0, none⟩ = some (.bool nl) := h.get (k := 0) (by omega)
theorem BBlk.putAt {w : World} {b n : Nat} {f : Nat → Bool} (h : BBlk w b n f) (o m : Nat) (g : Nat → Bool) (hm : o + m ≤ n) : BBlk (w.setCells b o (bcells m g)) b n (fun i => if o ≤ i ∧ i < o + m then g (i - o) else f i) := by
 refine (Blk.setRange (bcells m g) o h (by rw [bcells_len]; exact hm)).congr fun i hi => ?_
 rw [bcells_len]
 show (if o ≤ i ∧ i < o + m then (bcells m g).getD (i - o) (.int .i64 0) else .bool (f i)) = .bool (if o ≤ i ∧ i < o + m then g (i - o) else f i)
 by_cases e : o ≤ i ∧ i < o + m
 ·rw [if_pos e, if_pos e]
  have : i - o < m := by omega
  simp [bcells, List.getD, this]
 ·rw [if_neg e, if_neg e]
theorem st_putFirst {w : World} {b : Nat} {nl : Bool} {f g : Nat → Bool} (h : BBlk w b 49 (stF nl f g)) (f' : Nat → Bool) : BBlk (w.setCells b 1 (bcells 24 f')) b 49 (stF nl f' g) :=
 (h.putAt 1 24 f' (by omega)).congr fun i hi => by
  unfold stF
  by_cases e : i = 0
  ·rw [if_neg (by omega), if_pos e, if_pos e]
  ·by_cases e2 : i < 25
   ·rw [if_pos (by omega), if_neg e, if_pos e2]
   ·rw [if_neg (by omega), if_neg e, if_neg e2, if_neg e, if_neg e2]
theorem st_putLast {w : World} {b : Nat} {nl : Bool} {f g : Nat → Bool} (h : BBlk w b 49 (stF nl f g)) (g' : Nat → Bool) : BBlk (w.setCells b 25 (bcells 24 g')) b 49 (stF nl f g') :=
 (h.putAt 25 24 g' (by omega)).congr fun i hi => by
  unfold stF
  by_cases e : i = 0
  ·rw [if_neg (by omega), if_pos e, if_pos e]
  ·by_cases e2 : i < 25
   ·rw [if_neg (by omega), if_neg e, if_pos e2, if_neg e, if_pos e2]
   ·rw [if_pos (by omega), if_neg e, if_neg e2]
theorem st_putNull {w : World} {b : Nat} {nl : Bool} {f g : Nat → Bool} (h : BBlk w b 49 (stF nl f g)) (q : Bool) : BBlk (w.setCell ⟨b, 0, none⟩ (.bool q)) b 49 (stF q f g) :=
 (h.set1 (k := 0) (by omega) q).congr fun i hi => by
  unfold stF
  by_cases e : i = 0
  ·rw [if_pos e, if_pos e]
  ·rw [if_neg e, if_neg e, if_neg e]
theorem info_st : (Tryz.prog.info? 121).map (·.size) = some 49 := by kernel_rfl
theorem load_st {w : World} {b : Nat} {F : Nat → Bool} (h : BBlk w b 49 F) : (loadVar 121 ⟨b, 0, none⟩).run Tryz.prog w = .ok (.agg (bcells 49 F).toArray) w :=
 run_loadVar_mid w b 0 121 (bcells 49 F) _ h.all Tryz.underlying121 rfl (by rw [bcells_len]; exact info_st)
theorem BBlk.zero49 (w : World) (b : Nat) (hb : b = w.heap.size) (T : TypeId) : BBlk (w.alloc (.cells #[.bool false, .bool false, .bool false, .bool false, .bool false, .bool false, .bool false, .bool false, .bool false, .bool false, .bool false, .bool false, .bool false, .bool false, .bool false, .bool false, .bool false, .bool false, .bool false, .bool false, .bool false, .bool false, .bool false, .bool false, .bool false, .bool false, .bool false, .bool false, .bool false, .bool false, .bool false, .bool false, .bool false, .bool false, .bool false, .bool false, .bool false, .bool false, .bool false, .bool false, .bool false, .bool false, .bool false, .bool false, .bool false, .bool false, .bool false, .bool false, .bool false] T)) b 49 noB := BBlk.new w b hb 49 noB T
set_option maxRecDepth 100000 in
theorem build_st (nl : Bool) (f g : Nat → Bool) (w : World) : (Instr.build 121 #[(0, .bool nl), (1, sv f), (2, sv g)]).run Tryz.prog w = .ok (stv nl f g) w := run_build w 121 _ _ (by kernel_rfl)
set_option maxRecDepth 100000 in
theorem build_st2 (f g : Nat → Bool) (w : World) : (Instr.build 121 #[(1, sv f), (2, sv g)]).run Tryz.prog w = .ok (stv false f g) w := run_build w 121 _ _ (by kernel_rfl)
set_option maxHeartbeats 2000000 in
set_option maxRecDepth 100000 in
theorem stOr_any (nl nl' : Bool) (f g f' g' : Nat → Bool) (w : World) : Calls Tryz.prog 81 #[stv nl f g, stv nl' f' g'] w fun e w' => e = .returned (stv (nl || nl') (orB f f') (orB g g')) ∧ Hid (Below w.heap.size w w') := by
 obtain ⟨c1, HC1⟩ : ∃ c, Hid (c = (bcells 49 (stF nl f g)).toArray) := ⟨_, rfl⟩
 obtain ⟨c2, HC2⟩ : ∃ c, Hid (c = (bcells 49 (stF nl' f' g')).toArray) := ⟨_, rfl⟩
 obtain ⟨cf, HCF⟩ : ∃ c, Hid (c = (bcells 24 f).toArray) := ⟨_, rfl⟩
 obtain ⟨cg, HCG⟩ : ∃ c, Hid (c = (bcells 24 g).toArray) := ⟨_, rfl⟩
 obtain ⟨cf', HCF'⟩ : ∃ c, Hid (c = (bcells 24 f').toArray) := ⟨_, rfl⟩
 obtain ⟨cg', HCG'⟩ : ∃ c, Hid (c = (bcells 24 g').toArray) := ⟨_, rfl⟩
 obtain ⟨df, HDF⟩ : ∃ c, Hid (c = (bcells 24 (orB f f')).toArray) := ⟨_, rfl⟩
 obtain ⟨dg, HDG⟩ : ∃ c, Hid (c = (bcells 24 (orB g g')).toArray) := ⟨_, rfl⟩
 obtain ⟨cr, HCR⟩ : ∃ c, Hid (c = (bcells 49 (stF (nl || nl') (orB f f') (orB g g'))).toArray) := ⟨_, rfl⟩
 have h1 : c1.size = 49 := by rw [HC1.out]; exact bcells_size _ _
 have h2 : c2.size = 49 := by rw [HC2.out]; exact bcells_size _ _
 have lf : cf.toList.length = 24 := by rw [HCF.out, Array.length_toList]; exact bcells_size _ _
 have lg : cg.toList.length = 24 := by rw [HCG.out, Array.length_toList]; exact bcells_size _ _
 have lf' : cf'.toList.length = 24 := by rw [HCF'.out, Array.length_toList]; exact bcells_size _ _
 have lg' : cg'.toList.length = 24 := by rw [HCG'.out, Array.length_toList]; exact bcells_size _ _
 have hrs : cr.size = 49 := by rw [HCR.out]; exact bcells_size _ _
 have hro : cr.all (·.oneCell') = true := by rw [HCR.out]; exact bcells_one _ _
 have HO1 : Hid (∀ w0, Calls Tryz.prog 91 #[.agg cf, .agg cf'] w0 fun e w' => e = .returned (.agg df) ∧ Hid (Below w0.heap.size w0 w')) := fun w0 => by rw [HCF.out, HCF'.out, HDF.out]; exact orS_any f f' w0
 have HO2 : Hid (∀ w0, Calls Tryz.prog 91 #[.agg cg, .agg cg'] w0 fun e w' => e = .returned (.agg dg) ∧ Hid (Below w0.heap.size w0 w')) := fun w0 => by rw [HCG.out, HCG'.out, HDG.out]; exact orS_any g g' w0
 have hbd : ∀ w, (Instr.build 121 #[(0, .bool (nl || nl')), (1, .agg df), (2, .agg dg)]).run Tryz.prog w = .ok (.agg cr) w := fun w => by rw [HDF.out, HDG.out, HCR.out]; exact build_st _ _ _ w
 unfold stv
 rw [← HC1.out, ← HC2.out, ← HCR.out]
 obtain ⟨B, HB⟩ : ∃ B, Hid (B = w.heap.size) := ⟨_, rfl⟩
 obtain ⟨W, HW⟩ : ∃ W, Hid (W = ((w.alloc (.cells c1 121)).alloc (.cells c2 121)).alloc (.cells #[.bool false, .bool false, .bool false, .bool false, .bool false, .bool false, .bool false, .bool false, .bool false, .bool false, .bool false, .bool false, .bool false, .bool false, .bool false, .bool false, .bool false, .bool false, .bool false, .bool false, .bool false, .bool false, .bool false, .bool false, .bool false, .bool false, .bool false, .bool false, .bool false, .bool false, .bool false, .bool false, .bool false, .bool false, .bool false, .bool false, .bool false, .bool false, .bool false, .bool false, .bool false, .bool false, .bool false, .bool false, .bool false, .bool false, .bool false, .bool false, .bool false] 121)) := ⟨_, rfl⟩
 have HBW : Hid (Below w.heap.size w W) := by rw [HW.out]; exact below3 w _ _ _
 have HSW : Hid (W.heap.size = B + 3) := by rw [HW.out, HB.out]; show _ = _; simp
 have HX : Hid (BBlk W B 49 (stF nl f g)) := by rw [HW.out, HC1.out]; exact Blk.alloc (Blk.alloc (BBlk.new w B HB.out 49 _ _) _) _
 have HY : Hid (BBlk W (B + 1) 49 (stF nl' f' g')) := by rw [HW.out, HC2.out]; exact Blk.alloc (BBlk.new _ (B + 1) (by rw [HB.out]; simp) 49 _ _) _
 have HZ : Hid (BBlk W (B + 2) 49 noB) := by rw [HW.out]; exact BBlk.zero49 _ (B + 2) (by rw [HB.out]; simp) _
 have HS : Hid (∀ wz, Below (B + 2) W wz → wz.cell? ⟨B, 0, none⟩ = some (.bool nl) ∧ wz.cell? ⟨B + 1, 0, none⟩ = some (.bool nl') ∧ Hid (Below (B + 2) W wz)) := fun wz h => ⟨st_null (HX.out.of (h.block _ (by omega))), st_null (HY.out.of (h.block _ (by omega))), h⟩
 have L1 : ∀ wz, Below (B + 2) W wz → wz.rangeAt B 1 cf.toList := fun wz h => by rw [HCF.out, List.toList_toArray]; exact st_first (HX.out.of (h.block _ (by omega)))
 have L2 : ∀ wz, Below (B + 2) W wz → wz.rangeAt B 25 cg.toList := fun wz h => by rw [HCG.out, List.toList_toArray]; exact st_last (HX.out.of (h.block _ (by omega)))
 have L3 : ∀ wz, Below (B + 2) W wz → wz.rangeAt (B + 1) 1 cf'.toList := fun wz h => by rw [HCF'.out, List.toList_toArray]; exact st_first (HY.out.of (h.block _ (by omega)))
 have L4 : ∀ wz, Below (B + 2) W wz → wz.rangeAt (B + 1) 25 cg'.toList := fun wz h => by rw [HCG'.out, List.toList_toArray]; exact st_last (HY.out.of (h.block _ (by omega)))
 go_enter Tryz.func81, Tryz.ntmps81
 obtain ⟨FF, HFF⟩ : ∃ F : Func, Hid (F = Tryz.f81) := ⟨_, rfl⟩
 rw [← HFF.out]
 go_upto_region 1 with fail
 rw [← HB.out]
 first | rw [← HW.out] | (rw [show _ = W from HW.out.symm])
 clear HW
 have HBD : Hid (Below (B + 2) W W.drew) := (Below.refl _ _).drew
 have HBDz : Hid (Below (B + 3) W W.drew) := (Below.refl _ _).drew
 rcases Bool.eq_false_or_eq_true nl with hnl | hnl
 ·subst hnl
  simp only [Bool.true_or] at HCR hbd
  refine wp_region_held_drew (S := fun wz => wz.cell? ⟨B, 0, none⟩ = some (.bool true) ∧ wz.cell? ⟨B + 1, 0, none⟩ = some (.bool nl') ∧ Hid (Below (B + 2) W wz)) (by kernel_rfl) (HS.out _ HBD.out) (fun hHeld => ?_)
  refine wpAnyH_take (i := 0) (oi := { dst := some 5, op := Op.fieldAddr 121 (.tmp 2) 0, type := 0, pos := "l07_nfa.go:194", after := #[], guard := none }) (v := ?_) rfl (by kernel_rfl) (by kernel_rfl) (by kernel_rfl) (fun _ _ _ h => h) (Or.inl ⟨by kernel_rfl, ?_⟩) (by assumption) ?_
  rotate_left
  ·intro w hSw; (try dsimp only at hSw); go_simp; try with_reducible rfl
  simp only [Act.put, List.setIfInBounds_toArray, List.set_cons_zero, List.set_cons_succ]
  refine wpAnyH_take (i := 1) (oi := { dst := some 6, op := Op.load 4 (.tmp 5), type := 4, pos := "l07_nfa.go:194", after := #[{ on := 0, ground := .data }], guard := none }) (v := ?_) rfl (by kernel_rfl) (by kernel_rfl) (by kernel_rfl) (fun _ _ _ h => h) (Or.inl ⟨by kernel_rfl, ?_⟩) (by assumption) ?_
  rotate_left
  ·intro w hSw; (try dsimp only at hSw); go_simp; try with_reducible rfl
  simp only [Act.put, List.setIfInBounds_toArray, List.set_cons_zero, List.set_cons_succ]
  refine wpAnyH_take (i := 2) (oi := { dst := some 7, op := Op.move (.tmp 6), type := 4, pos := "l07_nfa.go:194", after := #[{ on := 1, ground := .data }], guard := none }) (v := ?_) rfl (by kernel_rfl) (by kernel_rfl) (by kernel_rfl) (fun _ _ _ h => h) (Or.inl ⟨by kernel_rfl, ?_⟩) (by assumption) ?_
  rotate_left
  ·intro w hSw; (try dsimp only at hSw); go_simp; try with_reducible rfl
  simp only [Act.put, List.setIfInBounds_toArray, List.set_cons_zero, List.set_cons_succ]
  refine wpAnyH_take (i := 3) (oi := { dst := some 8, op := Op.fieldAddr 121 (.tmp 3) 0, type := 0, pos := "l07_nfa.go:194", after := #[{ on := 2, ground := .guard }], guard := some (2, false) }) (v := undef) rfl (by kernel_rfl) (by kernel_rfl) (by kernel_rfl) (fun _ _ _ h => h) (Or.inr ⟨by kernel_rfl, rfl⟩) (by assumption) ?_
  simp only [Act.put, List.setIfInBounds_toArray, List.set_cons_zero, List.set_cons_succ]
  refine wpAnyH_take (i := 4) (oi := { dst := some 9, op := Op.load 4 (.tmp 8), type := 4, pos := "l07_nfa.go:194", after := #[{ on := 3, ground := .data }, { on := 2, ground := .guard }], guard := some (2, false) }) (v := undef) rfl (by kernel_rfl) (by kernel_rfl) (by kernel_rfl) (fun _ _ _ h => h) (Or.inr ⟨by kernel_rfl, rfl⟩) (by assumption) ?_
  simp only [Act.put, List.setIfInBounds_toArray, List.set_cons_zero, List.set_cons_succ]
  refine wpAnyH_take (i := 5) (oi := { dst := some 10, op := Op.pick (.tmp 7) (.const (Value.bool true)) (.tmp 9), type := 4, pos := "l07_nfa.go:194", after := #[{ on := 2, ground := .data }, { on := 4, ground := .data }], guard := none }) (v := ?_) rfl (by kernel_rfl) (by kernel_rfl) (by kernel_rfl) (fun _ _ _ h => h) (Or.inl ⟨by kernel_rfl, ?_⟩) (by assumption) ?_
  rotate_left
  ·intro w hSw; (try dsimp only at hSw); go_simp; try with_reducible rfl
  simp only [Act.put, List.setIfInBounds_toArray, List.set_cons_zero, List.set_cons_succ]
  refine wpAnyH_take (i := 6) (oi := { dst := some 11, op := Op.fieldAddr 121 (.tmp 2) 1, type := 0, pos := "l07_nfa.go:194", after := #[], guard := none }) (v := ?_) rfl (by kernel_rfl) (by kernel_rfl) (by kernel_rfl) (fun _ _ _ h => h) (Or.inl ⟨by kernel_rfl, ?_⟩) (by assumption) ?_
  rotate_left
  ·intro w hSw; (try dsimp only at hSw); go_simp; try with_reducible rfl
  simp only [Act.put, List.setIfInBounds_toArray, List.set_cons_zero, List.set_cons_succ]
  refine wpAnyH_take (i := 7) (oi := { dst := some 12, op := Op.load 116 (.tmp 11), type := 116, pos := "l07_nfa.go:194", after := #[{ on := 6, ground := .data }], guard := none }) (v := .agg cf) rfl (by kernel_rfl) (by kernel_rfl) (by kernel_rfl) (fun _ _ _ h => h) (yieldsIf_load_mid (by kernel_rfl) 116 _ rfl B 1 rfl cf.toList _ ((fun wz h => L1 wz h.2.2.out)) Tryz.underlying116 rfl (by rw [lf]; exact info_set)) (by assumption) ?_
  simp only [Act.put, List.setIfInBounds_toArray, List.set_cons_zero, List.set_cons_succ]
  refine wpAnyH_take (i := 8) (oi := { dst := some 13, op := Op.fieldAddr 121 (.tmp 3) 1, type := 0, pos := "l07_nfa.go:194", after := #[], guard := none }) (v := ?_) rfl (by kernel_rfl) (by kernel_rfl) (by kernel_rfl) (fun _ _ _ h => h) (Or.inl ⟨by kernel_rfl, ?_⟩) (by assumption) ?_
  rotate_left
  ·intro w hSw; (try dsimp only at hSw); go_simp; try with_reducible rfl
  simp only [Act.put, List.setIfInBounds_toArray, List.set_cons_zero, List.set_cons_succ]
  refine wpAnyH_take (i := 9) (oi := { dst := some 14, op := Op.load 116 (.tmp 13), type := 116, pos := "l07_nfa.go:194", after := #[{ on := 8, ground := .data }], guard := none }) (v := .agg cf') rfl (by kernel_rfl) (by kernel_rfl) (by kernel_rfl) (fun _ _ _ h => h) (yieldsIf_load_mid (by kernel_rfl) 116 _ rfl (B + 1) 1 rfl cf'.toList _ ((fun wz h => L3 wz h.2.2.out)) Tryz.underlying116 rfl (by rw [lf']; exact info_set)) (by assumption) ?_
  simp only [Act.put, List.setIfInBounds_toArray, List.set_cons_zero, List.set_cons_succ]
  refine wpAnyH_take (i := 11) (oi := { dst := some 16, op := Op.fieldAddr 121 (.tmp 2) 2, type := 0, pos := "l07_nfa.go:194", after := #[], guard := none }) (v := ?_) rfl (by kernel_rfl) (by kernel_rfl) (by kernel_rfl) (fun _ _ _ h => h) (Or.inl ⟨by kernel_rfl, ?_⟩) (by assumption) ?_
  rotate_left
  ·intro w hSw; (try dsimp only at hSw); go_simp; try with_reducible rfl
  simp only [Act.put, List.setIfInBounds_toArray, List.set_cons_zero, List.set_cons_succ]
  refine wpAnyH_take (i := 12) (oi := { dst := some 17, op := Op.load 116 (.tmp 16), type := 116, pos := "l07_nfa.go:194", after := #[{ on := 11, ground := .data }], guard := none }) (v := .agg cg) rfl (by kernel_rfl) (by kernel_rfl) (by kernel_rfl) (fun _ _ _ h => h) (yieldsIf_load_mid (by kernel_rfl) 116 _ rfl B 25 rfl cg.toList _ ((fun wz h => L2 wz h.2.2.out)) Tryz.underlying116 rfl (by rw [lg]; exact info_set)) (by assumption) ?_
  simp only [Act.put, List.setIfInBounds_toArray, List.set_cons_zero, List.set_cons_succ]
  refine wpAnyH_take (i := 13) (oi := { dst := some 18, op := Op.fieldAddr 121 (.tmp 3) 2, type := 0, pos := "l07_nfa.go:194", after := #[], guard := none }) (v := ?_) rfl (by kernel_rfl) (by kernel_rfl) (by kernel_rfl) (fun _ _ _ h => h) (Or.inl ⟨by kernel_rfl, ?_⟩) (by assumption) ?_
  rotate_left
  ·intro w hSw; (try dsimp only at hSw); go_simp; try with_reducible rfl
  simp only [Act.put, List.setIfInBounds_toArray, List.set_cons_zero, List.set_cons_succ]
  refine wpAnyH_take (i := 14) (oi := { dst := some 19, op := Op.load 116 (.tmp 18), type := 116, pos := "l07_nfa.go:194", after := #[{ on := 13, ground := .data }], guard := none }) (v := .agg cg') rfl (by kernel_rfl) (by kernel_rfl) (by kernel_rfl) (fun _ _ _ h => h) (yieldsIf_load_mid (by kernel_rfl) 116 _ rfl (B + 1) 25 rfl cg'.toList _ ((fun wz h => L4 wz h.2.2.out)) Tryz.underlying116 rfl (by rw [lg']; exact info_set)) (by assumption) ?_
  simp only [Act.put, List.setIfInBounds_toArray, List.set_cons_zero, List.set_cons_succ]
  refine wpAnyH_ready (rs := [10]) (by kernel_rfl) (by simp) ?_
  refine AllReadyH.cons (o := { dst := some 15, op := Op.call { callee := Callee.value (.func 91), args := #[.tmp 12, .tmp 14], argTypes := #[116, 116] }, type := 116, pos := "l07_nfa.go:194", after := #[{ on := 7, ground := .data }, { on := 9, ground := .data }, { on := 2, ground := .chain }], guard := none }) rfl (fun K hK => ?_) ?_
  ·go_simp
   go_wp2_with (go_at_call 91; refine (HO1.out _).mono ?_; rintro e w2 ⟨rfl, HB20⟩)
   have HB2z : Hid (Below (B + 3) W w2) := HBDz.out.trans (HB20.out.mono (by have := HBDz.out.size; have := HSW.out; omega))
   have HB2 : Hid (Below (B + 2) W w2) := HB2z.out.mono (by omega)
   refine hK.out _ _ (HS.out _ HB2.out) (fun hHeld => ?_)
   clear hK K
   try simp only [Act.put, List.setIfInBounds_toArray, List.set_cons_zero, List.set_cons_succ]
   refine wpAnyH_ready (rs := [15]) (by kernel_rfl) (by simp) ?_
   refine AllReadyH.cons (o := { dst := some 20, op := Op.call { callee := Callee.value (.func 91), args := #[.tmp 17, .tmp 19], argTypes := #[116, 116] }, type := 116, pos := "l07_nfa.go:194", after := #[{ on := 12, ground := .data }, { on := 14, ground := .data }, { on := 10, ground := .chain }], guard := none }) rfl (fun K hK => ?_) ?_
   ·go_simp
    go_wp2_with (go_at_call 91; refine (HO2.out _).mono ?_; rintro e w3 ⟨rfl, HB30⟩)
    have HB3z : Hid (Below (B + 3) W w3) := HB2z.out.trans (HB30.out.mono (by have := HB2z.out.size; have := HSW.out; omega))
    have HB3 : Hid (Below (B + 2) W w3) := HB3z.out.mono (by omega)
    refine hK.out _ _ (HS.out _ HB3.out) (fun hHeld => ?_)
    clear hK K
    try simp only [Act.put, List.setIfInBounds_toArray, List.set_cons_zero, List.set_cons_succ]
    refine wpAnyH_take (i := 16) (oi := { dst := some 21, op := Op.build 121 #[(0, .tmp 10), (1, .tmp 15), (2, .tmp 20)], type := 121, pos := "l07_nfa.go:194", after := #[{ on := 5, ground := .data }, { on := 10, ground := .data }, { on := 15, ground := .data }], guard := none }) (v := .agg cr) rfl (by kernel_rfl) (by kernel_rfl) (by kernel_rfl) (fun _ _ _ h => h) (yieldsIf_build (by kernel_rfl) 121 _ rfl #[(0, .bool true), (1, .agg df), (2, .agg dg)] (by kernel_rfl) cr hbd) (by assumption) ?_
    simp only [Act.put, List.setIfInBounds_toArray, List.set_cons_zero, List.set_cons_succ]
    refine wpAnyH_ready (rs := [17]) (by kernel_rfl) (by simp) ?_
    refine AllReadyH.cons (o := { dst := none, op := Op.store 121 (.tmp 4) (.tmp 21), type := 0, pos := "l07_nfa.go:194", after := #[{ on := 16, ground := .data }, { on := 15, ground := .chain }, { on := 0, ground := .phase }, { on := 1, ground := .phase }, { on := 2, ground := .phase }, { on := 3, ground := .phase }, { on := 4, ground := .phase }, { on := 5, ground := .phase }, { on := 6, ground := .phase }, { on := 7, ground := .phase }, { on := 8, ground := .phase }, { on := 9, ground := .phase }, { on := 10, ground := .phase }, { on := 11, ground := .phase }, { on := 12, ground := .phase }, { on := 13, ground := .phase }, { on := 14, ground := .phase }, { on := 15, ground := .phase }, { on := 16, ground := .phase }], guard := none }) rfl (fun K hK => ?_) ?_
    ·rw [if_pos (by kernel_rfl)]
     have HZ3 : Hid (BBlk w3 (B + 2) 49 noB) := HZ.out.of (HB3z.out.block _ (by omega))
     refine wp_store_mid 121 _ _ rfl (B + 2) 0 cr rfl rfl (by rw [hrs]; exact HZ3.out.there 0 49 (by omega)) (by rw [hrs]; exact info_st) hro ?_
     have HB4 : Hid (Below (B + 2) W (w3.setCells (B + 2) 0 cr.toList)) := Below.setCells (Nat.le_refl _) _ _ HB3.out
     refine hK.out _ _ (HS.out _ HB4.out) (fun hHeld => ?_)
     clear hK K
     try simp only [Act.put]
     refine wpAnyH_done (by kernel_rfl) ?_ _
     clear hHeld
     go_wp2_with fail
     obtain rfl : FF = Tryz.f81 := HFF.out
     have HRX : Hid (BBlk (w3.setCells (B + 2) 0 cr.toList) (B + 2) 49 (stF true (orB f f') (orB g g'))) := by rw [HCR.out, List.toList_toArray]; exact HZ3.out.put _
     refine bodyPost_ret (results_row (k := 4) (t := 121) (b := B + 2) Tryz.results81 rfl (by have h := load_st HRX.out; rw [← HCR.out] at h; exact h)) rfl ?_
     exact ⟨rfl, HBW.out.trans (HB4.out.mono (by have := HB.out; omega))⟩
    exact AllReadyH.nil
   exact AllReadyH.nil
  exact AllReadyH.nil
 ·subst hnl
  simp only [Bool.false_or] at HCR hbd
  refine wp_region_held_drew (S := fun wz => wz.cell? ⟨B, 0, none⟩ = some (.bool false) ∧ wz.cell? ⟨B + 1, 0, none⟩ = some (.bool nl') ∧ Hid (Below (B + 2) W wz)) (by kernel_rfl) (HS.out _ HBD.out) (fun hHeld => ?_)
  refine wpAnyH_take (i := 0) (oi := { dst := some 5, op := Op.fieldAddr 121 (.tmp 2) 0, type := 0, pos := "l07_nfa.go:194", after := #[], guard := none }) (v := ?_) rfl (by kernel_rfl) (by kernel_rfl) (by kernel_rfl) (fun _ _ _ h => h) (Or.inl ⟨by kernel_rfl, ?_⟩) (by assumption) ?_
  rotate_left
  ·intro w hSw; (try dsimp only at hSw); go_simp; try with_reducible rfl
  simp only [Act.put, List.setIfInBounds_toArray, List.set_cons_zero, List.set_cons_succ]
  refine wpAnyH_take (i := 1) (oi := { dst := some 6, op := Op.load 4 (.tmp 5), type := 4, pos := "l07_nfa.go:194", after := #[{ on := 0, ground := .data }], guard := none }) (v := ?_) rfl (by kernel_rfl) (by kernel_rfl) (by kernel_rfl) (fun _ _ _ h => h) (Or.inl ⟨by kernel_rfl, ?_⟩) (by assumption) ?_
  rotate_left
  ·intro w hSw; (try dsimp only at hSw); go_simp; try with_reducible rfl
  simp only [Act.put, List.setIfInBounds_toArray, List.set_cons_zero, List.set_cons_succ]
  refine wpAnyH_take (i := 2) (oi := { dst := some 7, op := Op.move (.tmp 6), type := 4, pos := "l07_nfa.go:194", after := #[{ on := 1, ground := .data }], guard := none }) (v := ?_) rfl (by kernel_rfl) (by kernel_rfl) (by kernel_rfl) (fun _ _ _ h => h) (Or.inl ⟨by kernel_rfl, ?_⟩) (by assumption) ?_
  rotate_left
  ·intro w hSw; (try dsimp only at hSw); go_simp; try with_reducible rfl
  simp only [Act.put, List.setIfInBounds_toArray, List.set_cons_zero, List.set_cons_succ]
  refine wpAnyH_take (i := 3) (oi := { dst := some 8, op := Op.fieldAddr 121 (.tmp 3) 0, type := 0, pos := "l07_nfa.go:194", after := #[{ on := 2, ground := .guard }], guard := some (2, false) }) (v := ?_) rfl (by kernel_rfl) (by kernel_rfl) (by kernel_rfl) (fun _ _ _ h => h) (Or.inl ⟨by kernel_rfl, ?_⟩) (by assumption) ?_
  rotate_left
  ·intro w hSw; (try dsimp only at hSw); go_simp; try with_reducible rfl
  simp only [Act.put, List.setIfInBounds_toArray, List.set_cons_zero, List.set_cons_succ]
  refine wpAnyH_take (i := 4) (oi := { dst := some 9, op := Op.load 4 (.tmp 8), type := 4, pos := "l07_nfa.go:194", after := #[{ on := 3, ground := .data }, { on := 2, ground := .guard }], guard := some (2, false) }) (v := ?_) rfl (by kernel_rfl) (by kernel_rfl) (by kernel_rfl) (fun _ _ _ h => h) (Or.inl ⟨by kernel_rfl, ?_⟩) (by assumption) ?_
  rotate_left
  ·intro w hSw; (try dsimp only at hSw); go_simp; try with_reducible rfl
  simp only [Act.put, List.setIfInBounds_toArray, List.set_cons_zero, List.set_cons_succ]
  refine wpAnyH_take (i := 5) (oi := { dst := some 10, op := Op.pick (.tmp 7) (.const (Value.bool true)) (.tmp 9), type := 4, pos := "l07_nfa.go:194", after := #[{ on := 2, ground := .data }, { on := 4, ground := .data }], guard := none }) (v := ?_) rfl (by kernel_rfl) (by kernel_rfl) (by kernel_rfl) (fun _ _ _ h => h) (Or.inl ⟨by kernel_rfl, ?_⟩) (by assumption) ?_
  rotate_left
  ·intro w hSw; (try dsimp only at hSw); go_simp; try with_reducible rfl
  simp only [Act.put, List.setIfInBounds_toArray, List.set_cons_zero, List.set_cons_succ]
  refine wpAnyH_take (i := 6) (oi := { dst := some 11, op := Op.fieldAddr 121 (.tmp 2) 1, type := 0, pos := "l07_nfa.go:194", after := #[], guard := none }) (v := ?_) rfl (by kernel_rfl) (by kernel_rfl) (by kernel_rfl) (fun _ _ _ h => h) (Or.inl ⟨by kernel_rfl, ?_⟩) (by assumption) ?_
  rotate_left
  ·intro w hSw; (try dsimp only at hSw); go_simp; try with_reducible rfl
  simp only [Act.put, List.setIfInBounds_toArray, List.set_cons_zero, List.set_cons_succ]
  refine wpAnyH_take (i := 7) (oi := { dst := some 12, op := Op.load 116 (.tmp 11), type := 116, pos := "l07_nfa.go:194", after := #[{ on := 6, ground := .data }], guard := none }) (v := .agg cf) rfl (by kernel_rfl) (by kernel_rfl) (by kernel_rfl) (fun _ _ _ h => h) (yieldsIf_load_mid (by kernel_rfl) 116 _ rfl B 1 rfl cf.toList _ ((fun wz h => L1 wz h.2.2.out)) Tryz.underlying116 rfl (by rw [lf]; exact info_set)) (by assumption) ?_
  simp only [Act.put, List.setIfInBounds_toArray, List.set_cons_zero, List.set_cons_succ]
  refine wpAnyH_take (i := 8) (oi := { dst := some 13, op := Op.fieldAddr 121 (.tmp 3) 1, type := 0, pos := "l07_nfa.go:194", after := #[], guard := none }) (v := ?_) rfl (by kernel_rfl) (by kernel_rfl) (by kernel_rfl) (fun _ _ _ h => h) (Or.inl ⟨by kernel_rfl, ?_⟩) (by assumption) ?_
  rotate_left
  ·intro w hSw; (try dsimp only at hSw); go_simp; try with_reducible rfl
  simp only [Act.put, List.setIfInBounds_toArray, List.set_cons_zero, List.set_cons_succ]
  refine wpAnyH_take (i := 9) (oi := { dst := some 14, op := Op.load 116 (.tmp 13), type := 116, pos := "l07_nfa.go:194", after := #[{ on := 8, ground := .data }], guard := none }) (v := .agg cf') rfl (by kernel_rfl) (by kernel_rfl) (by kernel_rfl) (fun _ _ _ h => h) (yieldsIf_load_mid (by kernel_rfl) 116 _ rfl (B + 1) 1 rfl cf'.toList _ ((fun wz h => L3 wz h.2.2.out)) Tryz.underlying116 rfl (by rw [lf']; exact info_set)) (by assumption) ?_
  simp only [Act.put, List.setIfInBounds_toArray, List.set_cons_zero, List.set_cons_succ]
  refine wpAnyH_take (i := 11) (oi := { dst := some 16, op := Op.fieldAddr 121 (.tmp 2) 2, type := 0, pos := "l07_nfa.go:194", after := #[], guard := none }) (v := ?_) rfl (by kernel_rfl) (by kernel_rfl) (by kernel_rfl) (fun _ _ _ h => h) (Or.inl ⟨by kernel_rfl, ?_⟩) (by assumption) ?_
  rotate_left
  ·intro w hSw; (try dsimp only at hSw); go_simp; try with_reducible rfl
  simp only [Act.put, List.setIfInBounds_toArray, List.set_cons_zero, List.set_cons_succ]
  refine wpAnyH_take (i := 12) (oi := { dst := some 17, op := Op.load 116 (.tmp 16), type := 116, pos := "l07_nfa.go:194", after := #[{ on := 11, ground := .data }], guard := none }) (v := .agg cg) rfl (by kernel_rfl) (by kernel_rfl) (by kernel_rfl) (fun _ _ _ h => h) (yieldsIf_load_mid (by kernel_rfl) 116 _ rfl B 25 rfl cg.toList _ ((fun wz h => L2 wz h.2.2.out)) Tryz.underlying116 rfl (by rw [lg]; exact info_set)) (by assumption) ?_
  simp only [Act.put, List.setIfInBounds_toArray, List.set_cons_zero, List.set_cons_succ]
  refine wpAnyH_take (i := 13) (oi := { dst := some 18, op := Op.fieldAddr 121 (.tmp 3) 2, type := 0, pos := "l07_nfa.go:194", after := #[], guard := none }) (v := ?_) rfl (by kernel_rfl) (by kernel_rfl) (by kernel_rfl) (fun _ _ _ h => h) (Or.inl ⟨by kernel_rfl, ?_⟩) (by assumption) ?_
  rotate_left
  ·intro w hSw; (try dsimp only at hSw); go_simp; try with_reducible rfl
  simp only [Act.put, List.setIfInBounds_toArray, List.set_cons_zero, List.set_cons_succ]
  refine wpAnyH_take (i := 14) (oi := { dst := some 19, op := Op.load 116 (.tmp 18), type := 116, pos := "l07_nfa.go:194", after := #[{ on := 13, ground := .data }], guard := none }) (v := .agg cg') rfl (by kernel_rfl) (by kernel_rfl) (by kernel_rfl) (fun _ _ _ h => h) (yieldsIf_load_mid (by kernel_rfl) 116 _ rfl (B + 1) 25 rfl cg'.toList _ ((fun wz h => L4 wz h.2.2.out)) Tryz.underlying116 rfl (by rw [lg']; exact info_set)) (by assumption) ?_
  simp only [Act.put, List.setIfInBounds_toArray, List.set_cons_zero, List.set_cons_succ]
  refine wpAnyH_ready (rs := [10]) (by kernel_rfl) (by simp) ?_
  refine AllReadyH.cons (o := { dst := some 15, op := Op.call { callee := Callee.value (.func 91), args := #[.tmp 12, .tmp 14], argTypes := #[116, 116] }, type := 116, pos := "l07_nfa.go:194", after := #[{ on := 7, ground := .data }, { on := 9, ground := .data }, { on := 2, ground := .chain }], guard := none }) rfl (fun K hK => ?_) ?_
  ·go_simp
   go_wp2_with (go_at_call 91; refine (HO1.out _).mono ?_; rintro e w2 ⟨rfl, HB20⟩)
   have HB2z : Hid (Below (B + 3) W w2) := HBDz.out.trans (HB20.out.mono (by have := HBDz.out.size; have := HSW.out; omega))
   have HB2 : Hid (Below (B + 2) W w2) := HB2z.out.mono (by omega)
   refine hK.out _ _ (HS.out _ HB2.out) (fun hHeld => ?_)
   clear hK K
   try simp only [Act.put, List.setIfInBounds_toArray, List.set_cons_zero, List.set_cons_succ]
   refine wpAnyH_ready (rs := [15]) (by kernel_rfl) (by simp) ?_
   refine AllReadyH.cons (o := { dst := some 20, op := Op.call { callee := Callee.value (.func 91), args := #[.tmp 17, .tmp 19], argTypes := #[116, 116] }, type := 116, pos := "l07_nfa.go:194", after := #[{ on := 12, ground := .data }, { on := 14, ground := .data }, { on := 10, ground := .chain }], guard := none }) rfl (fun K hK => ?_) ?_
   ·go_simp
    go_wp2_with (go_at_call 91; refine (HO2.out _).mono ?_; rintro e w3 ⟨rfl, HB30⟩)
    have HB3z : Hid (Below (B + 3) W w3) := HB2z.out.trans (HB30.out.mono (by have := HB2z.out.size; have := HSW.out; omega))
    have HB3 : Hid (Below (B + 2) W w3) := HB3z.out.mono (by omega)
    refine hK.out _ _ (HS.out _ HB3.out) (fun hHeld => ?_)
    clear hK K
    try simp only [Act.put, List.setIfInBounds_toArray, List.set_cons_zero, List.set_cons_succ]
    refine wpAnyH_take (i := 16) (oi := { dst := some 21, op := Op.build 121 #[(0, .tmp 10), (1, .tmp 15), (2, .tmp 20)], type := 121, pos := "l07_nfa.go:194", after := #[{ on := 5, ground := .data }, { on := 10, ground := .data }, { on := 15, ground := .data }], guard := none }) (v := .agg cr) rfl (by kernel_rfl) (by kernel_rfl) (by kernel_rfl) (fun _ _ _ h => h) (yieldsIf_build (by kernel_rfl) 121 _ rfl #[(0, .bool nl'), (1, .agg df), (2, .agg dg)] (by kernel_rfl) cr hbd) (by assumption) ?_
    simp only [Act.put, List.setIfInBounds_toArray, List.set_cons_zero, List.set_cons_succ]
    refine wpAnyH_ready (rs := [17]) (by kernel_rfl) (by simp) ?_
    refine AllReadyH.cons (o := { dst := none, op := Op.store 121 (.tmp 4) (.tmp 21), type := 0, pos := "l07_nfa.go:194", after := #[{ on := 16, ground := .data }, { on := 15, ground := .chain }, { on := 0, ground := .phase }, { on := 1, ground := .phase }, { on := 2, ground := .phase }, { on := 3, ground := .phase }, { on := 4, ground := .phase }, { on := 5, ground := .phase }, { on := 6, ground := .phase }, { on := 7, ground := .phase }, { on := 8, ground := .phase }, { on := 9, ground := .phase }, { on := 10, ground := .phase }, { on := 11, ground := .phase }, { on := 12, ground := .phase }, { on := 13, ground := .phase }, { on := 14, ground := .phase }, { on := 15, ground := .phase }, { on := 16, ground := .phase }], guard := none }) rfl (fun K hK => ?_) ?_
    ·rw [if_pos (by kernel_rfl)]
     have HZ3 : Hid (BBlk w3 (B + 2) 49 noB) := HZ.out.of (HB3z.out.block _ (by omega))
     refine wp_store_mid 121 _ _ rfl (B + 2) 0 cr rfl rfl (by rw [hrs]; exact HZ3.out.there 0 49 (by omega)) (by rw [hrs]; exact info_st) hro ?_
     have HB4 : Hid (Below (B + 2) W (w3.setCells (B + 2) 0 cr.toList)) := Below.setCells (Nat.le_refl _) _ _ HB3.out
     refine hK.out _ _ (HS.out _ HB4.out) (fun hHeld => ?_)
     clear hK K
     try simp only [Act.put]
     refine wpAnyH_done (by kernel_rfl) ?_ _
     clear hHeld
     go_wp2_with fail
     obtain rfl : FF = Tryz.f81 := HFF.out
     have HRX : Hid (BBlk (w3.setCells (B + 2) 0 cr.toList) (B + 2) 49 (stF nl' (orB f f') (orB g g'))) := by rw [HCR.out, List.toList_toArray]; exact HZ3.out.put _
     refine bodyPost_ret (results_row (k := 4) (t := 121) (b := B + 2) Tryz.results81 rfl (by have h := load_st HRX.out; rw [← HCR.out] at h; exact h)) rfl ?_
     exact ⟨rfl, HBW.out.trans (HB4.out.mono (by have := HB.out; omega))⟩
    exact AllReadyH.nil
   exact AllReadyH.nil
  exact AllReadyH.nil
end Go.Proofs.YtbepmeipjdpipaaGreat

namespace Go.Proofs.YtbepmeipjdpipaaGreat
open Go.RowKit
def sgF (sh lv : Value) (bh : Nat → Nat → Bool) : Nat → Value := fun i => if i = 0 then sh else if i = 1 then lv else .bool (bh ((i - 2) / 24) ((i - 2) % 24))
theorem sg_row {w : World} {b : Nat} {sh lv : Value} {bh : Nat → Nat → Bool} (h : Blk w b 578 (sgF sh lv bh)) {a : Nat} (ha : a < 24) : w.rangeAt b (2 + a * 24) (bcells 24 (bh a)) := by
 intro j v hv
 have hj : j < 24 := by have := (List.getElem?_eq_some_iff.1 hv).1; rwa [bcells_len] at this
 simp [bcells, hj] at hv
 subst hv
 rw [h.cell (i := 2 + a * 24 + j) (by omega)]
 unfold sgF
 rw [if_neg (by omega), if_neg (by omega), show (2 + a * 24 + j - 2) / 24 = a by omega, show (2 + a * 24 + j - 2) % 24 = j by omega]
theorem sg_there {w : World} {b : Nat} {sh lv : Value} {bh : Nat → Nat → Bool} (h : Blk w b 578 (sgF sh lv bh)) {a : Nat} (ha : a < 24) : w.there b (2 + a * 24) 24 := fun j hj =>
 ⟨by rw [h.cell (i := 2 + a * 24 + j) (by omega)]; rfl, h.frozen _⟩
theorem sg_put {w : World} {b : Nat} {sh lv : Value} {bh : Nat → Nat → Bool} (h : Blk w b 578 (sgF sh lv bh)) {a : Nat} (ha : a < 24) (g : Nat → Bool) : Blk (w.setCells b (2 + a * 24) (bcells 24 g)) b 578 (sgF sh lv fun x => if x = a then g else bh x) := by
 refine (Blk.setRange (bcells 24 g) (2 + a * 24) h (by rw [bcells_len]; omega)).congr fun i hi => ?_
 rw [bcells_len]
 unfold sgF
 dsimp only
 by_cases e : 2 + a * 24 ≤ i ∧ i < 2 + a * 24 + 24
 ·rw [if_pos e, if_neg (by omega), if_neg (by omega), if_pos (show (i - 2) / 24 = a by omega), show (i - 2) % 24 = i - (2 + a * 24) by omega]
  have : i - (2 + a * 24) < 24 := by omega
  simp [bcells, List.getD, this]
 ·rw [if_neg e]
  by_cases e0 : i = 0
  ·rw [if_pos e0, if_pos e0]
  ·by_cases e1 : i = 1
   ·rw [if_neg e0, if_pos e1, if_neg e0, if_pos e1]
   ·rw [if_neg e0, if_neg e1, if_neg e0, if_neg e1, if_neg (show ¬ (i - 2) / 24 = a by omega)]
theorem sg_lab {w : World} {b : Nat} {sh lv : Value} {bh : Nat → Nat → Bool} (h : Blk w b 578 (sgF sh lv bh)) (u : Value) : Blk (w.setCell ⟨b, 1, none⟩ u) b 578 (sgF sh u bh) :=
 (h.set 1 (by omega) u).congr fun i hi => by
  unfold sgF
  by_cases e0 : i = 0
  ·subst e0; rfl
  ·by_cases e1 : i = 1
   ·subst e1; rfl
   ·rw [if_neg e1, if_neg e0, if_neg e1, if_neg e0, if_neg e1]
theorem sg_congr {w : World} {b : Nat} {sh lv : Value} {bh bh' : Nat → Nat → Bool} (h : Blk w b 578 (sgF sh lv bh)) (e : ∀ x y, x < 24 → y < 24 → bh x y = bh' x y) : Blk w b 578 (sgF sh lv bh') :=
 h.congr fun i hi => by
  unfold sgF
  by_cases e0 : i = 0
  ·rw [if_pos e0, if_pos e0]
  ·by_cases e1 : i = 1
   ·rw [if_neg e0, if_neg e0, if_pos e1, if_pos e1]
   ·rw [if_neg e0, if_neg e0, if_neg e1, if_neg e1, e _ _ (by omega) (by omega)]
theorem wp_load_midC {P : Program} {ops : Array Oper} {op : Oper} {a : Act} {w : World} {K : Act → World → Prop} {Q : Exit → Act → World → Prop} {E : Prop} (hw : Region.wanted op (yielded ops a.tmps) = true) (ty : TypeId) (x : Operand) (ho : op.op = .load ty x)
  (b o : Nat) (hx : a.eval x = .pointer (some ⟨b, o, none⟩)) (cs : List Value) (d : TypeDesc) (hc : w.rangeAt b o cs)
  (hu : P.underlying ty = some d) (hd : d.isRow = true) (hi : (P.info? ty).map (·.size) = some cs.length)
  (h : K (a.put op.dst (.agg cs.toArray)) w) : if Region.wanted op (yielded ops a.tmps) = true then Oper.wp P op a w K Q else E := by
 rw [if_pos hw]
 exact wp_load_mid ty x ho b o hx cs d hc hu hd hi h
set_option maxHeartbeats 2000000 in
set_option maxRecDepth 100000 in
theorem follow_any (M : Nat) (sh lv : Value) (bh : Nat → Nat → Bool) (f g : Nat → Bool) (w : World) (hm : Blk w M 578 (sgF sh lv bh)) :
  Calls Tryz.prog 90 #[.pointer (some ⟨M, 0, none⟩), sv f, sv g] w fun e w' => e = .returned (.tuple #[]) ∧ Hid (Blk w' M 578 (sgF sh lv (followB bh f g))) ∧ Hid (KeptP (fun c => c = M) w w') := by
 obtain ⟨cf, HCF⟩ : ∃ cf, Hid (cf = (bcells 24 f).toArray) := ⟨_, rfl⟩
 obtain ⟨cg, HCG⟩ : ∃ cf, Hid (cf = (bcells 24 g).toArray) := ⟨_, rfl⟩
 have hf : cf.size = 24 := by rw [HCF.out]; simp [bcells]
 have hg : cg.size = 24 := by rw [HCG.out]; simp [bcells]
 unfold sv
 rw [← HCF.out, ← HCG.out]
 obtain ⟨B, HB⟩ : ∃ B, Hid (B = w.heap.size) := ⟨_, rfl⟩
 obtain ⟨W, HW⟩ : ∃ W, Hid (W = (w.alloc (.cells cf 116)).alloc (.cells cg 116)) := ⟨_, rfl⟩
 have HBW : Hid (Below w.heap.size w W) := by rw [HW.out]; exact below2 w _ _
 have HSW : Hid (W.heap.size = B + 2) := by rw [HW.out, HB.out]; show _ = _; simp
 have HX : Hid (BBlk W B 24 f) := by rw [HW.out, HCF.out]; exact Blk.alloc (BBlk.new w B HB.out 24 f _) _
 have HY : Hid (BBlk W (B + 1) 24 g) := by rw [HW.out, HCG.out]; exact BBlk.new _ (B + 1) (by rw [HB.out]; simp) 24 g _
 have HMB : Hid (M < B) := by rw [HB.out]; exact hm.lt
 have HMW : Hid (Blk W M 578 (sgF sh lv bh)) := hm.of_block (HBW.out.block _ hm.lt)
 clear hm
 go_enter Tryz.func90, Tryz.ntmps90
 go_upto_region 1 with fail
 rw [← HB.out]
 first | rw [← HW.out] | (rw [show _ = W from HW.out.symm])
 clear HW
 go_wp2_with (with_reducible refine wpList_here' ?_; refine wpList_load_mid rfl 116 _ rfl B 0 rfl (bcells 24 f) _ HX.out.all Tryz.underlying116 rfl (by rw [bcells_len]; exact info_set) ?_)
 rw [← HCF.out]
 go_loopw [9] (fun i wr => ∃ k : Nat, i = .int .i64 k ∧ k ≤ 24 ∧ Hid (Blk wr M 578 (sgF sh lv fun x => if x < k then (fun y => bh x y || (f x && g y)) else bh x)) ∧ Hid (KeptP (fun c => c = M) W wr)) (fun i _ => 24 - (intOf i).toNat)
 case atStart => exact ⟨0, rfl, by omega, sg_congr HMW.out (fun x y _ _ => by simp), KeptP.refl _ _⟩
 case round =>
  obtain ⟨k, rfl, hk, HMR, HL⟩ := hrel
  by_cases hlt : k < 24
  ·have hlt1 : (k : Int) < 24 := by omega
   have hlt0 : (0 : Int) ≤ (k : Int) := by omega
   obtain ⟨y, HYY⟩ : ∃ y, Hid (y = f k) := ⟨_, rfl⟩
   have hix : ∀ w, (Instr.index 116 (.agg cf) (.int .i64 (k : Int))).run Tryz.prog w = .ok (.bool y) w := fun w => by rw [HCF.out, HYY.out]; exact index_set f hlt w
   have HROW : Hid (wr.rangeAt M (2 + k * 24) (bcells 24 (bh k))) := by have h := sg_row HMR.out hlt; rw [if_neg (by omega)] at h; exact h
   rcases Bool.eq_false_or_eq_true y with hy | hy
   ·subst hy
    have HYR : Hid (BBlk wr (B + 1) 24 g) := HL.out.blk HY.out (by have := HMB.out; omega)
    go_upto_region 5 with fail
    clear hix
    obtain ⟨V, HV⟩ : ∃ V, Hid (V = wr.drew) := ⟨_, rfl⟩
    have HBV : Hid (Below wr.heap.size wr V) := by rw [HV.out]; exact (Below.refl _ _).drew
    have HMV : Hid (Blk V M 578 (sgF sh lv fun x => if x < k then (fun y => bh x y || (f x && g y)) else bh x)) := HMR.out.of_block (HBV.out.block _ HMR.out.lt)
    have HRV : Hid (V.rangeAt M (2 + k * 24) (bcells 24 (bh k))) := by have h := sg_row HMV.out hlt; rw [if_neg (by omega)] at h; exact h
    have HYV : Hid (V.rangeAt (B + 1) 0 (bcells 24 g)) := (HYR.out.of (HBV.out.block _ HYR.out.lt)).all
    refine wp_region_held_drew (S := fun _ => True) (by kernel_rfl) trivial (fun hHeld => ?_)
    rw [← HV.out]
    refine wpAnyH_take (i := 0) (oi := { dst := some 14, op := Op.move (.tmp 0), type := 140, pos := "l07_nfa.go:251", after := #[], guard := none }) (v := ?_) rfl (by kernel_rfl) (by kernel_rfl) (by kernel_rfl) (fun _ _ _ h => h) (Or.inl ⟨by kernel_rfl, ?_⟩) (by assumption) ?_
    rotate_left
    ·intro w hSw; (try dsimp only at hSw); go_simp; try with_reducible rfl
    simp only [Act.put, List.setIfInBounds_toArray, List.set_cons_zero, List.set_cons_succ]
    refine wpAnyH_take (i := 1) (oi := { dst := some 15, op := Op.move (.tmp 6), type := 3, pos := "l07_nfa.go:251", after := #[], guard := none }) (v := ?_) rfl (by kernel_rfl) (by kernel_rfl) (by kernel_rfl) (fun _ _ _ h => h) (Or.inl ⟨by kernel_rfl, ?_⟩) (by assumption) ?_
    rotate_left
    ·intro w hSw; (try dsimp only at hSw); go_simp; try with_reducible rfl
    simp only [Act.put, List.setIfInBounds_toArray, List.set_cons_zero, List.set_cons_succ]
    refine wpAnyH_take (i := 2) (oi := { dst := some 16, op := Op.move (.tmp 0), type := 140, pos := "l07_nfa.go:251", after := #[], guard := none }) (v := ?_) rfl (by kernel_rfl) (by kernel_rfl) (by kernel_rfl) (fun _ _ _ h => h) (Or.inl ⟨by kernel_rfl, ?_⟩) (by assumption) ?_
    rotate_left
    ·intro w hSw; (try dsimp only at hSw); go_simp; try with_reducible rfl
    simp only [Act.put, List.setIfInBounds_toArray, List.set_cons_zero, List.set_cons_succ]
    refine wpAnyH_take (i := 3) (oi := { dst := some 17, op := Op.move (.tmp 6), type := 3, pos := "l07_nfa.go:251", after := #[], guard := none }) (v := ?_) rfl (by kernel_rfl) (by kernel_rfl) (by kernel_rfl) (fun _ _ _ h => h) (Or.inl ⟨by kernel_rfl, ?_⟩) (by assumption) ?_
    rotate_left
    ·intro w hSw; (try dsimp only at hSw); go_simp; try with_reducible rfl
    simp only [Act.put, List.setIfInBounds_toArray, List.set_cons_zero, List.set_cons_succ]
    refine wpAnyH_take (i := 4) (oi := { dst := some 18, op := Op.nilCheck (.tmp 16), type := 0, pos := "l07_nfa.go:251", after := #[{ on := 2, ground := .data }], guard := none }) (v := ?_) rfl (by kernel_rfl) (by kernel_rfl) (by kernel_rfl) (fun _ _ _ h => h) (Or.inl ⟨by kernel_rfl, ?_⟩) (by assumption) ?_
    rotate_left
    ·intro w hSw; (try dsimp only at hSw); go_simp; try with_reducible rfl
    simp only [Act.put, List.setIfInBounds_toArray, List.set_cons_zero, List.set_cons_succ]
    refine wpAnyH_take (i := 5) (oi := { dst := some 19, op := Op.fieldAddr 119 (.tmp 18) 2, type := 0, pos := "l07_nfa.go:251", after := #[{ on := 4, ground := .data }], guard := none }) (v := ?_) rfl (by kernel_rfl) (by kernel_rfl) (by kernel_rfl) (fun _ _ _ h => h) (Or.inl ⟨by kernel_rfl, ?_⟩) (by assumption) ?_
    rotate_left
    ·intro w hSw; (try dsimp only at hSw); go_simp; try with_reducible rfl
    simp only [Act.put, List.setIfInBounds_toArray, List.set_cons_zero, List.set_cons_succ]
    refine wpAnyH_take (i := 6) (oi := { dst := some 20, op := Op.indexAddr 117 (.tmp 19) (.tmp 17), type := 0, pos := "l07_nfa.go:251", after := #[{ on := 5, ground := .data }, { on := 3, ground := .data }], guard := none }) (v := ?_) rfl (by kernel_rfl) (by kernel_rfl) (by kernel_rfl) (fun _ _ _ h => h) (Or.inl ⟨by kernel_rfl, ?_⟩) (by assumption) ?_
    rotate_left
    ·intro w hSw; (try dsimp only at hSw); go_simp; try with_reducible rfl
    simp only [Act.put, List.setIfInBounds_toArray, List.set_cons_zero, List.set_cons_succ]
    refine wpAnyH_take (i := 10) (oi := { dst := some 24, op := Op.nilCheck (.tmp 14), type := 0, pos := "l07_nfa.go:251", after := #[{ on := 0, ground := .data }], guard := none }) (v := ?_) rfl (by kernel_rfl) (by kernel_rfl) (by kernel_rfl) (fun _ _ _ h => h) (Or.inl ⟨by kernel_rfl, ?_⟩) (by assumption) ?_
    rotate_left
    ·intro w hSw; (try dsimp only at hSw); go_simp; try with_reducible rfl
    simp only [Act.put, List.setIfInBounds_toArray, List.set_cons_zero, List.set_cons_succ]
    refine wpAnyH_take (i := 11) (oi := { dst := some 25, op := Op.fieldAddr 119 (.tmp 24) 2, type := 0, pos := "l07_nfa.go:251", after := #[{ on := 10, ground := .data }], guard := none }) (v := ?_) rfl (by kernel_rfl) (by kernel_rfl) (by kernel_rfl) (fun _ _ _ h => h) (Or.inl ⟨by kernel_rfl, ?_⟩) (by assumption) ?_
    rotate_left
    ·intro w hSw; (try dsimp only at hSw); go_simp; try with_reducible rfl
    simp only [Act.put, List.setIfInBounds_toArray, List.set_cons_zero, List.set_cons_succ]
    refine wpAnyH_ready (rs := [7, 8]) (by kernel_rfl) (by simp) ?_
    refine AllReadyH.cons (o := { dst := some 21, op := Op.load 116 (.tmp 20), type := 116, pos := "l07_nfa.go:251", after := #[{ on := 6, ground := .data }], guard := none }) rfl (fun K hK => ?_) ?_
    ·refine wp_load_midC (by kernel_rfl) 116 _ rfl M (2 + k * 24) rfl (bcells 24 (bh k)) _ HRV.out Tryz.underlying116 rfl (by rw [bcells_len]; exact info_set) ?_
     refine hK.out _ _ trivial (fun hHeld => ?_)
     clear hK K
     try simp only [Act.put, List.setIfInBounds_toArray, List.set_cons_zero, List.set_cons_succ]
     refine wpAnyH_ready (rs := [8]) (by kernel_rfl) (by simp) ?_
     refine AllReadyH.cons (o := { dst := some 22, op := Op.load 116 (.tmp 5), type := 116, pos := "l07_nfa.go:251", after := #[], guard := none }) rfl (fun K hK => ?_) ?_
     ·refine wp_load_midC (by kernel_rfl) 116 _ rfl (B + 1) 0 rfl (bcells 24 g) _ HYV.out Tryz.underlying116 rfl (by rw [bcells_len]; exact info_set) ?_
      refine hK.out _ _ trivial (fun hHeld => ?_)
      clear hK K
      try simp only [Act.put, List.setIfInBounds_toArray, List.set_cons_zero, List.set_cons_succ]
      refine wpAnyH_ready (rs := [9]) (by kernel_rfl) (by simp) ?_
      refine AllReadyH.cons (o := { dst := some 23, op := Op.call { callee := Callee.value (.func 91), args := #[.tmp 21, .tmp 22], argTypes := #[116, 116] }, type := 116, pos := "l07_nfa.go:251", after := #[{ on := 7, ground := .data }, { on := 8, ground := .data }], guard := none }) rfl (fun K hK => ?_) ?_
      ·go_simp
       go_wp2_with (go_at_call 91; refine (orS_any (bh k) g _).mono ?_; rintro e w2 ⟨rfl, HB2⟩)
       have HM2 : Hid (Blk w2 M 578 (sgF sh lv fun x => if x < k then (fun y => bh x y || (f x && g y)) else bh x)) := HMV.out.of_block (HB2.out.block _ HMV.out.lt)
       have HL2 : Hid (KeptP (fun c => c = M) W w2) := HL.out.trans ((KeptP.of_below HBV.out (fun _ h _ => h)).trans (KeptP.of_below HB2.out (fun _ h _ => h)))
       refine hK.out _ _ trivial (fun hHeld => ?_)
       clear hK K
       try simp only [Act.put, List.setIfInBounds_toArray, List.set_cons_zero, List.set_cons_succ]
       refine wpAnyH_take (i := 12) (oi := { dst := some 26, op := Op.indexAddr 117 (.tmp 25) (.tmp 15), type := 0, pos := "l07_nfa.go:251", after := #[{ on := 11, ground := .data }, { on := 1, ground := .data }, { on := 0, ground := .phase }, { on := 1, ground := .phase }, { on := 2, ground := .phase }, { on := 3, ground := .phase }, { on := 4, ground := .phase }, { on := 5, ground := .phase }, { on := 6, ground := .phase }, { on := 7, ground := .phase }, { on := 8, ground := .phase }, { on := 9, ground := .phase }], guard := none }) (v := ?_) rfl (by kernel_rfl) (by kernel_rfl) (by kernel_rfl) (fun _ _ _ h => h) (Or.inl ⟨by kernel_rfl, ?_⟩) (by assumption) ?_
       rotate_left
       ·intro w hSw; (try dsimp only at hSw); go_simp; try with_reducible rfl
       simp only [Act.put, List.setIfInBounds_toArray, List.set_cons_zero, List.set_cons_succ]
       refine wpAnyH_ready (rs := [13]) (by kernel_rfl) (by simp) ?_
       refine AllReadyH.cons (o := { dst := none, op := Op.store 116 (.tmp 26) (.tmp 23), type := 0, pos := "l07_nfa.go:251", after := #[{ on := 12, ground := .data }, { on := 9, ground := .data }, { on := 9, ground := .chain }, { on := 0, ground := .phase }, { on := 1, ground := .phase }, { on := 2, ground := .phase }, { on := 3, ground := .phase }, { on := 4, ground := .phase }, { on := 5, ground := .phase }, { on := 6, ground := .phase }, { on := 7, ground := .phase }, { on := 8, ground := .phase }, { on := 9, ground := .phase }], guard := none }) rfl (fun K hK => ?_) ?_
       ·rw [if_pos (by kernel_rfl)]
        refine wp_store_mid 116 _ _ rfl M (2 + k * 24) (bcells 24 fun i => bh k i || g i).toArray rfl rfl (by rw [bcells_size]; exact sg_there HM2.out hlt) (by rw [bcells_size]; exact info_set) (bcells_one _ _) ?_
        have HM3 := Hid_mk (sg_put HM2.out hlt (fun i => bh k i || g i))
        have HL3 : Hid (KeptP (fun c => c = M) W (w2.setCells M (2 + k * 24) (bcells 24 fun i => bh k i || g i))) := KeptP.setCells (p := fun c => c = M) (g := M) rfl _ _ HL2.out
        refine hK.out _ _ trivial (fun hHeld => ?_)
        clear hK K
        try simp only [Act.put]
        refine wpAnyH_done (by kernel_rfl) ?_ _
        clear hHeld
        have HM4 : Hid (Blk (w2.setCells M (2 + k * 24) (bcells 24 fun i => bh k i || g i)) M 578 (sgF sh lv fun x => if x < k + 1 then (fun y => bh x y || (f x && g y)) else bh x)) := sg_congr HM3.out (fun x z _ _ => by
         by_cases e : x < k
         ·rw [if_neg (by omega), if_pos e, if_pos (by omega)]
         ·by_cases e2 : x = k
          ·subst e2; rw [if_pos rfl, if_pos (by omega), ← HYY.out]; simp
          ·rw [if_neg e2, if_neg e, if_neg (by omega)])
        clear HM3 HM2 HL2
        go_wp2
        go_roundw
        case rel => exact ⟨k + 1, by go_num, by omega, HM4, HL3⟩
        case measure => simp [intOf]; omega
       exact AllReadyH.nil
      exact AllReadyH.nil
     exact AllReadyH.nil
    refine AllReadyH.cons (o := { dst := some 22, op := Op.load 116 (.tmp 5), type := 116, pos := "l07_nfa.go:251", after := #[], guard := none }) rfl (fun K hK => ?_) ?_
    ·refine wp_load_midC (by kernel_rfl) 116 _ rfl (B + 1) 0 rfl (bcells 24 g) _ HYV.out Tryz.underlying116 rfl (by rw [bcells_len]; exact info_set) ?_
     refine hK.out _ _ trivial (fun hHeld => ?_)
     clear hK K
     try simp only [Act.put, List.setIfInBounds_toArray, List.set_cons_zero, List.set_cons_succ]
     refine wpAnyH_ready (rs := [7]) (by kernel_rfl) (by simp) ?_
     refine AllReadyH.cons (o := { dst := some 21, op := Op.load 116 (.tmp 20), type := 116, pos := "l07_nfa.go:251", after := #[{ on := 6, ground := .data }], guard := none }) rfl (fun K hK => ?_) ?_
     ·refine wp_load_midC (by kernel_rfl) 116 _ rfl M (2 + k * 24) rfl (bcells 24 (bh k)) _ HRV.out Tryz.underlying116 rfl (by rw [bcells_len]; exact info_set) ?_
      refine hK.out _ _ trivial (fun hHeld => ?_)
      clear hK K
      try simp only [Act.put, List.setIfInBounds_toArray, List.set_cons_zero, List.set_cons_succ]
      refine wpAnyH_ready (rs := [9]) (by kernel_rfl) (by simp) ?_
      refine AllReadyH.cons (o := { dst := some 23, op := Op.call { callee := Callee.value (.func 91), args := #[.tmp 21, .tmp 22], argTypes := #[116, 116] }, type := 116, pos := "l07_nfa.go:251", after := #[{ on := 7, ground := .data }, { on := 8, ground := .data }], guard := none }) rfl (fun K hK => ?_) ?_
      ·go_simp
       go_wp2_with (go_at_call 91; refine (orS_any (bh k) g _).mono ?_; rintro e w2 ⟨rfl, HB2⟩)
       have HM2 : Hid (Blk w2 M 578 (sgF sh lv fun x => if x < k then (fun y => bh x y || (f x && g y)) else bh x)) := HMV.out.of_block (HB2.out.block _ HMV.out.lt)
       have HL2 : Hid (KeptP (fun c => c = M) W w2) := HL.out.trans ((KeptP.of_below HBV.out (fun _ h _ => h)).trans (KeptP.of_below HB2.out (fun _ h _ => h)))
       refine hK.out _ _ trivial (fun hHeld => ?_)
       clear hK K
       try simp only [Act.put, List.setIfInBounds_toArray, List.set_cons_zero, List.set_cons_succ]
       refine wpAnyH_take (i := 12) (oi := { dst := some 26, op := Op.indexAddr 117 (.tmp 25) (.tmp 15), type := 0, pos := "l07_nfa.go:251", after := #[{ on := 11, ground := .data }, { on := 1, ground := .data }, { on := 0, ground := .phase }, { on := 1, ground := .phase }, { on := 2, ground := .phase }, { on := 3, ground := .phase }, { on := 4, ground := .phase }, { on := 5, ground := .phase }, { on := 6, ground := .phase }, { on := 7, ground := .phase }, { on := 8, ground := .phase }, { on := 9, ground := .phase }], guard := none }) (v := ?_) rfl (by kernel_rfl) (by kernel_rfl) (by kernel_rfl) (fun _ _ _ h => h) (Or.inl ⟨by kernel_rfl, ?_⟩) (by assumption) ?_
       rotate_left
       ·intro w hSw; (try dsimp only at hSw); go_simp; try with_reducible rfl
       simp only [Act.put, List.setIfInBounds_toArray, List.set_cons_zero, List.set_cons_succ]
       refine wpAnyH_ready (rs := [13]) (by kernel_rfl) (by simp) ?_
       refine AllReadyH.cons (o := { dst := none, op := Op.store 116 (.tmp 26) (.tmp 23), type := 0, pos := "l07_nfa.go:251", after := #[{ on := 12, ground := .data }, { on := 9, ground := .data }, { on := 9, ground := .chain }, { on := 0, ground := .phase }, { on := 1, ground := .phase }, { on := 2, ground := .phase }, { on := 3, ground := .phase }, { on := 4, ground := .phase }, { on := 5, ground := .phase }, { on := 6, ground := .phase }, { on := 7, ground := .phase }, { on := 8, ground := .phase }, { on := 9, ground := .phase }], guard := none }) rfl (fun K hK => ?_) ?_
       ·rw [if_pos (by kernel_rfl)]
        refine wp_store_mid 116 _ _ rfl M (2 + k * 24) (bcells 24 fun i => bh k i || g i).toArray rfl rfl (by rw [bcells_size]; exact sg_there HM2.out hlt) (by rw [bcells_size]; exact info_set) (bcells_one _ _) ?_
        have HM3 := Hid_mk (sg_put HM2.out hlt (fun i => bh k i || g i))
        have HL3 : Hid (KeptP (fun c => c = M) W (w2.setCells M (2 + k * 24) (bcells 24 fun i => bh k i || g i))) := KeptP.setCells (p := fun c => c = M) (g := M) rfl _ _ HL2.out
        refine hK.out _ _ trivial (fun hHeld => ?_)
        clear hK K
        try simp only [Act.put]
        refine wpAnyH_done (by kernel_rfl) ?_ _
        clear hHeld
        have HM4 : Hid (Blk (w2.setCells M (2 + k * 24) (bcells 24 fun i => bh k i || g i)) M 578 (sgF sh lv fun x => if x < k + 1 then (fun y => bh x y || (f x && g y)) else bh x)) := sg_congr HM3.out (fun x z _ _ => by
         by_cases e : x < k
         ·rw [if_neg (by omega), if_pos e, if_pos (by omega)]
         ·by_cases e2 : x = k
          ·subst e2; rw [if_pos rfl, if_pos (by omega), ← HYY.out]; simp
          ·rw [if_neg e2, if_neg e, if_neg (by omega)])
        clear HM3 HM2 HL2
        go_wp2
        go_roundw
        case rel => exact ⟨k + 1, by go_num, by omega, HM4, HL3⟩
        case measure => simp [intOf]; omega
       exact AllReadyH.nil
      exact AllReadyH.nil
     exact AllReadyH.nil
    exact AllReadyH.nil
   ·subst hy
    have HM2 : Hid (Blk wr M 578 (sgF sh lv fun x => if x < k + 1 then (fun y => bh x y || (f x && g y)) else bh x)) := sg_congr HMR.out (fun x z _ _ => by
     by_cases e : x < k
     ·rw [if_pos e, if_pos (by omega)]
     ·by_cases e2 : x = k
      ·subst e2; rw [if_neg e, if_pos (by omega), ← HYY.out]; simp
      ·rw [if_neg e, if_neg (by omega)])
    go_wp2
    go_roundw
    case rel => exact ⟨k + 1, by go_num, by omega, HM2, HL⟩
    case measure => simp [intOf]; omega
  ·obtain rfl : k = 24 := by omega
   have HFIN : Hid (Blk wr M 578 (sgF sh lv (followB bh f g))) := sg_congr HMR.out (fun x z hx _ => by rw [if_pos hx]; rfl)
   go_wp2
   go_end0
   exact ⟨rfl, HFIN, (KeptP.of_below HBW.out (fun _ h _ => h)).trans HL.out⟩
end Go.Proofs.YtbepmeipjdpipaaGreat
