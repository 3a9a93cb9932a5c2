/-
  What is known of a piece, by sets: 49 bools; (impl.stretch).or.
-/
import Derived.Test.YtkcflhlipdnbnaaJn02
import Derived.Test.YtkcflhlipdnbnaaJn05
import Derived.Test.YtkcflhlipdnbnaaJn01
import Derived.Laws.MakeOwn
import Derived.Lib.Strings
import Derived.WideShapes
namespace Go.Proofs.Ytkcflhlipdnbnaa
open Go.RowKit

section
variable {P : Program}
theorem yieldsIf_build {ops : Array Oper} {S : World → Prop} {op : Oper} {a : Act} (hw : Region.wanted op (yielded ops a.tmps) = true) (ty : TypeId) (parts : Array (Nat × Operand)) (ho : op.op = .build ty parts) (vs : Array (Nat × Value)) (hx : (parts.map fun (i, x) => (i, a.eval x)) = vs) (cells : Array Value) (hb : ∀ w, (Instr.build ty vs).run P w = .ok (.agg cells) w) : YieldsIf P ops S op (.agg cells) a :=
  .inl ⟨hw, fun w _ => by
    have h := hb w
    rw [← hx] at h
    unfold execOp
    simp only [ho, Sem.run_bind, h, Result.andThen_ok, Sem.run_pure]⟩
theorem wpList_build {ops : Array Oper} {rest : List Oper} {op : Oper} {a : Act} {w : World} {Q : Exit → Act → World → Prop} (hgd : op.guard = none) (ty : TypeId) (parts : Array (Nat × Operand)) (ho : op.op = .build ty parts) (vs : Array (Nat × Value)) (hx : (parts.map fun (i, x) => (i, a.eval x)) = vs) (cells : Array Value) (hb : ∀ w, (Instr.build ty vs).run P w = .ok (.agg cells) w)
    (h : wpList P ops Q rest (a.put op.dst (.agg cells)) w) : wpList P ops Q (op :: rest) a w :=
  wpList_plain hgd fun _ hK => by
    have h2 := hb w
    rw [← hx] at h2
    unfold Oper.wp execOp
    simp only [ho, Sem.run_bind, h2, Result.andThen_ok, Sem.run_pure]
    exact hK _ _ h
end
/-- nothing?, first, last: as 49 bools -/
def stF (nl : Bool) (f g : Nat → Bool) : Nat → Bool := fun i => if i = 0 then nl else if i < 25 then f (i - 1) else g (i - 25)
abbrev stv (nl : Bool) (f g : Nat → Bool) : Value := .agg (bcells 49 (stF nl f g)).toArray
theorem stF_first {nl : Bool} {f g : Nat → Bool} {i : Nat} (h : i < 24) : stF nl f g (1 + i) = f i := by
  unfold stF; rw [if_neg (by omega), if_pos (by omega), show 1 + i - 1 = i by omega]
theorem stF_last {nl : Bool} {f g : Nat → Bool} {i : Nat} : stF nl f g (25 + i) = g i := by
  unfold stF; rw [if_neg (by omega), if_neg (by omega), show 25 + i - 25 = i by omega]
theorem st_first {w : World} {b : Nat} {nl : Bool} {f g : Nat → Bool} (h : BBlk w b 49 (stF nl f g)) : w.rangeAt b 1 (bcells 24 f) := by
  have h1 := h.range 1 24 (by omega)
  rwa [bcells_congr (g := f) (fun i hi => stF_first hi)] at h1
theorem st_last {w : World} {b : Nat} {nl : Bool} {f g : Nat → Bool} (h : BBlk w b 49 (stF nl f g)) : w.rangeAt b 25 (bcells 24 g) := by
  have h1 := h.range 25 24 (by omega)
  rwa [bcells_congr (g := g) (fun i hi => stF_last)] at h1
theorem st_null {w : World} {b : Nat} {nl : Bool} {f g : Nat → Bool} (h : BBlk w b 49 (stF nl f g)) : w.cell? ⟨b, 0, none⟩ = some (.bool nl) := h.get (k := 0) (by omega)
theorem BBlk.putAt {w : World} {b n : Nat} {f : Nat → Bool} (h : BBlk w b n f) (o m : Nat) (g : Nat → Bool) (hm : o + m ≤ n) : BBlk (w.setCells b o (bcells m g)) b n (fun i => if o ≤ i ∧ i < o + m then g (i - o) else f i) := by
  refine (Blk.setRange (bcells m g) o h (by rw [bcells_len]; exact hm)).congr fun i hi => ?_
  rw [bcells_len]
  show (if o ≤ i ∧ i < o + m then (bcells m g).getD (i - o) (.int .i64 0) else .bool (f i)) = .bool (if o ≤ i ∧ i < o + m then g (i - o) else f i)
  by_cases e : o ≤ i ∧ i < o + m
  · rw [if_pos e, if_pos e]
    have : i - o < m := by omega
    simp [bcells, List.getD, this]
  · rw [if_neg e, if_neg e]
theorem st_putFirst {w : World} {b : Nat} {nl : Bool} {f g : Nat → Bool} (h : BBlk w b 49 (stF nl f g)) (f' : Nat → Bool) : BBlk (w.setCells b 1 (bcells 24 f')) b 49 (stF nl f' g) :=
  (h.putAt 1 24 f' (by omega)).congr fun i hi => by
    unfold stF
    by_cases e : i = 0
    · rw [if_neg (by omega), if_pos e, if_pos e]
    · by_cases e2 : i < 25
      · rw [if_pos (by omega), if_neg e, if_pos e2]
      · rw [if_neg (by omega), if_neg e, if_neg e2, if_neg e, if_neg e2]
theorem st_putLast {w : World} {b : Nat} {nl : Bool} {f g : Nat → Bool} (h : BBlk w b 49 (stF nl f g)) (g' : Nat → Bool) : BBlk (w.setCells b 25 (bcells 24 g')) b 49 (stF nl f g') :=
  (h.putAt 25 24 g' (by omega)).congr fun i hi => by
    unfold stF
    by_cases e : i = 0
    · rw [if_neg (by omega), if_pos e, if_pos e]
    · by_cases e2 : i < 25
      · rw [if_neg (by omega), if_neg e, if_pos e2, if_neg e, if_pos e2]
      · rw [if_pos (by omega), if_neg e, if_neg e2]
theorem st_putNull {w : World} {b : Nat} {nl : Bool} {f g : Nat → Bool} (h : BBlk w b 49 (stF nl f g)) (q : Bool) : BBlk (w.setCell ⟨b, 0, none⟩ (.bool q)) b 49 (stF q f g) :=
  (h.set1 (k := 0) (by omega) q).congr fun i hi => by
    unfold stF
    by_cases e : i = 0
    · rw [if_pos e, if_pos e]
    · rw [if_neg e, if_neg e, if_neg e]
theorem stF_no : stF false noB noB = noB := by
  funext i; unfold stF noB; split <;> (try split) <;> rfl
theorem info_st : (Try.prog.info? 85).map (·.size) = some 49 := by kernel_rfl
theorem load_st {w : World} {b : Nat} {F : Nat → Bool} (h : BBlk w b 49 F) : (loadVar 85 ⟨b, 0, none⟩).run Try.prog w = .ok (.agg (bcells 49 F).toArray) w :=
  run_loadVar_mid w b 0 85 (bcells 49 F) _ h.all Try.underlying85 rfl (by rw [bcells_len]; exact info_st)
theorem BBlk.zero49 (w : World) (b : Nat) (hb : b = w.heap.size) (T : TypeId) : BBlk (w.alloc (.cells #[.bool false, .bool false, .bool false, .bool false, .bool false, .bool false, .bool false, .bool false, .bool false, .bool false, .bool false, .bool false, .bool false, .bool false, .bool false, .bool false, .bool false, .bool false, .bool false, .bool false, .bool false, .bool false, .bool false, .bool false, .bool false, .bool false, .bool false, .bool false, .bool false, .bool false, .bool false, .bool false, .bool false, .bool false, .bool false, .bool false, .bool false, .bool false, .bool false, .bool false, .bool false, .bool false, .bool false, .bool false, .bool false, .bool false, .bool false, .bool false, .bool false] T)) b 49 noB := BBlk.new w b hb 49 noB T
set_option maxRecDepth 100000 in
theorem build_st (nl : Bool) (f g : Nat → Bool) (w : World) : (Instr.build 85 #[(0, .bool nl), (1, sv f), (2, sv g)]).run Try.prog w = .ok (stv nl f g) w := run_build w 85 _ _ (by kernel_rfl)
set_option maxRecDepth 100000 in
theorem build_st2 (f g : Nat → Bool) (w : World) : (Instr.build 85 #[(1, sv f), (2, sv g)]).run Try.prog w = .ok (stv false f g) w := run_build w 85 _ _ (by kernel_rfl)
theorem zero49_cells : #[.bool false, .bool false, .bool false, .bool false, .bool false, .bool false, .bool false, .bool false, .bool false, .bool false, .bool false, .bool false, .bool false, .bool false, .bool false, .bool false, .bool false, .bool false, .bool false, .bool false, .bool false, .bool false, .bool false, .bool false, .bool false, .bool false, .bool false, .bool false, .bool false, .bool false, .bool false, .bool false, .bool false, .bool false, .bool false, .bool false, .bool false, .bool false, .bool false, .bool false, .bool false, .bool false, .bool false, .bool false, .bool false, .bool false, .bool false, .bool false, .bool false] = (bcells 49 noB).toArray := rfl

set_option maxHeartbeats 2000000 in
set_option maxRecDepth 100000 in
theorem stOr_any (nl nl' : Bool) (f g f' g' : Nat → Bool) (w : World) : Calls Try.prog 80 #[stv nl f g, stv nl' f' g'] w fun e w' => e = .returned (stv (nl || nl') (orB f f') (orB g g')) ∧ Hid (Below w.heap.size w w') := by
  obtain ⟨c1, HC1⟩ : ∃ c, Hid (c = (bcells 49 (stF nl f g)).toArray) := ⟨_, rfl⟩
  obtain ⟨c2, HC2⟩ : ∃ c, Hid (c = (bcells 49 (stF nl' f' g')).toArray) := ⟨_, rfl⟩
  obtain ⟨cf, HCF⟩ : ∃ c, Hid (c = (bcells 24 f).toArray) := ⟨_, rfl⟩
  obtain ⟨cg, HCG⟩ : ∃ c, Hid (c = (bcells 24 g).toArray) := ⟨_, rfl⟩
  obtain ⟨cf', HCF'⟩ : ∃ c, Hid (c = (bcells 24 f').toArray) := ⟨_, rfl⟩
  obtain ⟨cg', HCG'⟩ : ∃ c, Hid (c = (bcells 24 g').toArray) := ⟨_, rfl⟩
  obtain ⟨df, HDF⟩ : ∃ c, Hid (c = (bcells 24 (orB f f')).toArray) := ⟨_, rfl⟩
  obtain ⟨dg, HDG⟩ : ∃ c, Hid (c = (bcells 24 (orB g g')).toArray) := ⟨_, rfl⟩
  obtain ⟨cr, HCR⟩ : ∃ c, Hid (c = (bcells 49 (stF (nl || nl') (orB f f') (orB g g'))).toArray) := ⟨_, rfl⟩
  have h1 : c1.size = 49 := by rw [HC1.out]; exact bcells_size _ _
  have h2 : c2.size = 49 := by rw [HC2.out]; exact bcells_size _ _
  have lf : cf.toList.length = 24 := by rw [HCF.out, Array.length_toList]; exact bcells_size _ _
  have lg : cg.toList.length = 24 := by rw [HCG.out, Array.length_toList]; exact bcells_size _ _
  have lf' : cf'.toList.length = 24 := by rw [HCF'.out, Array.length_toList]; exact bcells_size _ _
  have lg' : cg'.toList.length = 24 := by rw [HCG'.out, Array.length_toList]; exact bcells_size _ _
  have hrs : cr.size = 49 := by rw [HCR.out]; exact bcells_size _ _
  have hro : cr.all (·.oneCell') = true := by rw [HCR.out]; exact bcells_one _ _
  have HO1 : Hid (∀ w0, Calls Try.prog 99 #[.agg cf, .agg cf'] w0 fun e w' => e = .returned (.agg df) ∧ Hid (Below w0.heap.size w0 w')) := fun w0 => by rw [HCF.out, HCF'.out, HDF.out]; exact orS_any f f' w0
  have HO2 : Hid (∀ w0, Calls Try.prog 99 #[.agg cg, .agg cg'] w0 fun e w' => e = .returned (.agg dg) ∧ Hid (Below w0.heap.size w0 w')) := fun w0 => by rw [HCG.out, HCG'.out, HDG.out]; exact orS_any g g' w0
  have hbd : ∀ w, (Instr.build 85 #[(0, .bool (nl || nl')), (1, .agg df), (2, .agg dg)]).run Try.prog w = .ok (.agg cr) w := fun w => by rw [HDF.out, HDG.out, HCR.out]; exact build_st _ _ _ w
  unfold stv
  rw [← HC1.out, ← HC2.out, ← HCR.out]
  obtain ⟨B, HB⟩ : ∃ B, Hid (B = w.heap.size) := ⟨_, rfl⟩
  obtain ⟨W, HW⟩ : ∃ W, Hid (W = ((w.alloc (.cells c1 85)).alloc (.cells c2 85)).alloc (.cells #[.bool false, .bool false, .bool false, .bool false, .bool false, .bool false, .bool false, .bool false, .bool false, .bool false, .bool false, .bool false, .bool false, .bool false, .bool false, .bool false, .bool false, .bool false, .bool false, .bool false, .bool false, .bool false, .bool false, .bool false, .bool false, .bool false, .bool false, .bool false, .bool false, .bool false, .bool false, .bool false, .bool false, .bool false, .bool false, .bool false, .bool false, .bool false, .bool false, .bool false, .bool false, .bool false, .bool false, .bool false, .bool false, .bool false, .bool false, .bool false, .bool false] 85)) := ⟨_, rfl⟩
  have HBW : Hid (Below w.heap.size w W) := by rw [HW.out]; exact below3 w _ _ _
  have HSW : Hid (W.heap.size = B + 3) := by rw [HW.out, HB.out]; show _ = _; simp
  have HX : Hid (BBlk W B 49 (stF nl f g)) := by rw [HW.out, HC1.out]; exact Blk.alloc (Blk.alloc (BBlk.new w B HB.out 49 _ _) _) _
  have HY : Hid (BBlk W (B + 1) 49 (stF nl' f' g')) := by rw [HW.out, HC2.out]; exact Blk.alloc (BBlk.new _ (B + 1) (by rw [HB.out]; simp) 49 _ _) _
  have HZ : Hid (BBlk W (B + 2) 49 noB) := by rw [HW.out]; exact BBlk.zero49 _ (B + 2) (by rw [HB.out]; simp) _
  have HS : Hid (∀ wz, Below (B + 2) W wz → wz.cell? ⟨B, 0, none⟩ = some (.bool nl) ∧ wz.cell? ⟨B + 1, 0, none⟩ = some (.bool nl') ∧ Hid (Below (B + 2) W wz)) := fun wz h => ⟨st_null (HX.out.of (h.block _ (by omega))), st_null (HY.out.of (h.block _ (by omega))), h⟩
  have L1 : ∀ wz, Below (B + 2) W wz → wz.rangeAt B 1 cf.toList := fun wz h => by rw [HCF.out, List.toList_toArray]; exact st_first (HX.out.of (h.block _ (by omega)))
  have L2 : ∀ wz, Below (B + 2) W wz → wz.rangeAt B 25 cg.toList := fun wz h => by rw [HCG.out, List.toList_toArray]; exact st_last (HX.out.of (h.block _ (by omega)))
  have L3 : ∀ wz, Below (B + 2) W wz → wz.rangeAt (B + 1) 1 cf'.toList := fun wz h => by rw [HCF'.out, List.toList_toArray]; exact st_first (HY.out.of (h.block _ (by omega)))
  have L4 : ∀ wz, Below (B + 2) W wz → wz.rangeAt (B + 1) 25 cg'.toList := fun wz h => by rw [HCG'.out, List.toList_toArray]; exact st_last (HY.out.of (h.block _ (by omega)))
  go_enter Try.func80, Try.ntmps80
  obtain ⟨FF, HFF⟩ : ∃ F : Func, Hid (F = Try.f80) := ⟨_, rfl⟩
  rw [← HFF.out]
  go_upto_region 1 with fail
  rw [← HB.out]
  first | rw [← HW.out] | (rw [show _ = W from HW.out.symm])
  clear HW
  have HBD : Hid (Below (B + 2) W W.drew) := (Below.refl _ _).drew
  have HBDz : Hid (Below (B + 3) W W.drew) := (Below.refl _ _).drew
  rcases Bool.eq_false_or_eq_true nl with hnl | hnl
  · subst hnl
    simp only [Bool.true_or] at HCR hbd
    refine wp_region_held_drew (S := fun wz => wz.cell? ⟨B, 0, none⟩ = some (.bool true) ∧ wz.cell? ⟨B + 1, 0, none⟩ = some (.bool nl') ∧ Hid (Below (B + 2) W wz)) (by kernel_rfl) (HS.out _ HBD.out) (fun hHeld => ?_)
    refine wpAnyH_take (i := 0) (oi := { dst := some 5, op := Go.Op.fieldAddr 85 (Go.Operand.tmp 2) 0, type := 0, pos := "l07_nfa.go:194", after := #[], guard := none }) (v := ?_) rfl (by kernel_rfl) (by kernel_rfl) (by kernel_rfl) (fun _ _ _ h => h) (Or.inl ⟨by kernel_rfl, ?_⟩) (by assumption) ?_
    rotate_left
    · intro w hSw; (try dsimp only at hSw); go_simp; try with_reducible rfl
    simp only [Act.put, List.setIfInBounds_toArray, List.set_cons_zero, List.set_cons_succ]
    refine wpAnyH_take (i := 1) (oi := { dst := some 6, op := Go.Op.load 4 (Go.Operand.tmp 5), type := 4, pos := "l07_nfa.go:194", after := #[{ on := 0, ground := Go.Ground.data }], guard := none }) (v := ?_) rfl (by kernel_rfl) (by kernel_rfl) (by kernel_rfl) (fun _ _ _ h => h) (Or.inl ⟨by kernel_rfl, ?_⟩) (by assumption) ?_
    rotate_left
    · intro w hSw; (try dsimp only at hSw); go_simp; try with_reducible rfl
    simp only [Act.put, List.setIfInBounds_toArray, List.set_cons_zero, List.set_cons_succ]
    refine wpAnyH_take (i := 2) (oi := { dst := some 7, op := Go.Op.move (Go.Operand.tmp 6), type := 4, pos := "l07_nfa.go:194", after := #[{ on := 1, ground := Go.Ground.data }], guard := none }) (v := ?_) rfl (by kernel_rfl) (by kernel_rfl) (by kernel_rfl) (fun _ _ _ h => h) (Or.inl ⟨by kernel_rfl, ?_⟩) (by assumption) ?_
    rotate_left
    · intro w hSw; (try dsimp only at hSw); go_simp; try with_reducible rfl
    simp only [Act.put, List.setIfInBounds_toArray, List.set_cons_zero, List.set_cons_succ]
    refine wpAnyH_take (i := 3) (oi := { dst := some 8, op := Go.Op.fieldAddr 85 (Go.Operand.tmp 3) 0, type := 0, pos := "l07_nfa.go:194", after := #[{ on := 2, ground := Go.Ground.guard }], guard := some (2, false) }) (v := undef) rfl (by kernel_rfl) (by kernel_rfl) (by kernel_rfl) (fun _ _ _ h => h) (Or.inr ⟨by kernel_rfl, rfl⟩) (by assumption) ?_
    simp only [Act.put, List.setIfInBounds_toArray, List.set_cons_zero, List.set_cons_succ]
    refine wpAnyH_take (i := 4) (oi := { dst := some 9, op := Go.Op.load 4 (Go.Operand.tmp 8), type := 4, pos := "l07_nfa.go:194", after := #[{ on := 3, ground := Go.Ground.data }, { on := 2, ground := Go.Ground.guard }], guard := some (2, false) }) (v := undef) rfl (by kernel_rfl) (by kernel_rfl) (by kernel_rfl) (fun _ _ _ h => h) (Or.inr ⟨by kernel_rfl, rfl⟩) (by assumption) ?_
    simp only [Act.put, List.setIfInBounds_toArray, List.set_cons_zero, List.set_cons_succ]
    refine wpAnyH_take (i := 5) (oi := { dst := some 10, op := Go.Op.pick (Go.Operand.tmp 7) (Go.Operand.const (Go.Value.bool true)) (Go.Operand.tmp 9), type := 4, pos := "l07_nfa.go:194", after := #[{ on := 2, ground := Go.Ground.data }, { on := 4, ground := Go.Ground.data }], guard := none }) (v := ?_) rfl (by kernel_rfl) (by kernel_rfl) (by kernel_rfl) (fun _ _ _ h => h) (Or.inl ⟨by kernel_rfl, ?_⟩) (by assumption) ?_
    rotate_left
    · intro w hSw; (try dsimp only at hSw); go_simp; try with_reducible rfl
    simp only [Act.put, List.setIfInBounds_toArray, List.set_cons_zero, List.set_cons_succ]
    refine wpAnyH_take (i := 6) (oi := { dst := some 11, op := Go.Op.fieldAddr 85 (Go.Operand.tmp 2) 1, type := 0, pos := "l07_nfa.go:194", after := #[], guard := none }) (v := ?_) rfl (by kernel_rfl) (by kernel_rfl) (by kernel_rfl) (fun _ _ _ h => h) (Or.inl ⟨by kernel_rfl, ?_⟩) (by assumption) ?_
    rotate_left
    · intro w hSw; (try dsimp only at hSw); go_simp; try with_reducible rfl
    simp only [Act.put, List.setIfInBounds_toArray, List.set_cons_zero, List.set_cons_succ]
    refine wpAnyH_take (i := 7) (oi := { dst := some 12, op := Go.Op.load 80 (Go.Operand.tmp 11), type := 80, pos := "l07_nfa.go:194", after := #[{ on := 6, ground := Go.Ground.data }], guard := none }) (v := .agg cf) rfl (by kernel_rfl) (by kernel_rfl) (by kernel_rfl) (fun _ _ _ h => h) (yieldsIf_load_mid (by kernel_rfl) 80 _ rfl B 1 rfl cf.toList _ ((fun wz h => L1 wz h.2.2.out)) Try.underlying80 rfl (by rw [lf]; exact info_set)) (by assumption) ?_
    simp only [Act.put, List.setIfInBounds_toArray, List.set_cons_zero, List.set_cons_succ]
    refine wpAnyH_take (i := 8) (oi := { dst := some 13, op := Go.Op.fieldAddr 85 (Go.Operand.tmp 3) 1, type := 0, pos := "l07_nfa.go:194", after := #[], guard := none }) (v := ?_) rfl (by kernel_rfl) (by kernel_rfl) (by kernel_rfl) (fun _ _ _ h => h) (Or.inl ⟨by kernel_rfl, ?_⟩) (by assumption) ?_
    rotate_left
    · intro w hSw; (try dsimp only at hSw); go_simp; try with_reducible rfl
    simp only [Act.put, List.setIfInBounds_toArray, List.set_cons_zero, List.set_cons_succ]
    refine wpAnyH_take (i := 9) (oi := { dst := some 14, op := Go.Op.load 80 (Go.Operand.tmp 13), type := 80, pos := "l07_nfa.go:194", after := #[{ on := 8, ground := Go.Ground.data }], guard := none }) (v := .agg cf') rfl (by kernel_rfl) (by kernel_rfl) (by kernel_rfl) (fun _ _ _ h => h) (yieldsIf_load_mid (by kernel_rfl) 80 _ rfl (B + 1) 1 rfl cf'.toList _ ((fun wz h => L3 wz h.2.2.out)) Try.underlying80 rfl (by rw [lf']; exact info_set)) (by assumption) ?_
    simp only [Act.put, List.setIfInBounds_toArray, List.set_cons_zero, List.set_cons_succ]
    refine wpAnyH_take (i := 11) (oi := { dst := some 16, op := Go.Op.fieldAddr 85 (Go.Operand.tmp 2) 2, type := 0, pos := "l07_nfa.go:194", after := #[], guard := none }) (v := ?_) rfl (by kernel_rfl) (by kernel_rfl) (by kernel_rfl) (fun _ _ _ h => h) (Or.inl ⟨by kernel_rfl, ?_⟩) (by assumption) ?_
    rotate_left
    · intro w hSw; (try dsimp only at hSw); go_simp; try with_reducible rfl
    simp only [Act.put, List.setIfInBounds_toArray, List.set_cons_zero, List.set_cons_succ]
    refine wpAnyH_take (i := 12) (oi := { dst := some 17, op := Go.Op.load 80 (Go.Operand.tmp 16), type := 80, pos := "l07_nfa.go:194", after := #[{ on := 11, ground := Go.Ground.data }], guard := none }) (v := .agg cg) rfl (by kernel_rfl) (by kernel_rfl) (by kernel_rfl) (fun _ _ _ h => h) (yieldsIf_load_mid (by kernel_rfl) 80 _ rfl B 25 rfl cg.toList _ ((fun wz h => L2 wz h.2.2.out)) Try.underlying80 rfl (by rw [lg]; exact info_set)) (by assumption) ?_
    simp only [Act.put, List.setIfInBounds_toArray, List.set_cons_zero, List.set_cons_succ]
    refine wpAnyH_take (i := 13) (oi := { dst := some 18, op := Go.Op.fieldAddr 85 (Go.Operand.tmp 3) 2, type := 0, pos := "l07_nfa.go:194", after := #[], guard := none }) (v := ?_) rfl (by kernel_rfl) (by kernel_rfl) (by kernel_rfl) (fun _ _ _ h => h) (Or.inl ⟨by kernel_rfl, ?_⟩) (by assumption) ?_
    rotate_left
    · intro w hSw; (try dsimp only at hSw); go_simp; try with_reducible rfl
    simp only [Act.put, List.setIfInBounds_toArray, List.set_cons_zero, List.set_cons_succ]
    refine wpAnyH_take (i := 14) (oi := { dst := some 19, op := Go.Op.load 80 (Go.Operand.tmp 18), type := 80, pos := "l07_nfa.go:194", after := #[{ on := 13, ground := Go.Ground.data }], guard := none }) (v := .agg cg') rfl (by kernel_rfl) (by kernel_rfl) (by kernel_rfl) (fun _ _ _ h => h) (yieldsIf_load_mid (by kernel_rfl) 80 _ rfl (B + 1) 25 rfl cg'.toList _ ((fun wz h => L4 wz h.2.2.out)) Try.underlying80 rfl (by rw [lg']; exact info_set)) (by assumption) ?_
    simp only [Act.put, List.setIfInBounds_toArray, List.set_cons_zero, List.set_cons_succ]
    refine wpAnyH_ready (rs := [10]) (by kernel_rfl) (by simp) ?_
    refine AllReadyH.cons (o := { dst := some 15, op := Go.Op.call { callee := Go.Callee.value (Go.Operand.func 99), args := #[Go.Operand.tmp 12, Go.Operand.tmp 14], argTypes := #[80, 80] }, type := 80, pos := "l07_nfa.go:194", after := #[{ on := 7, ground := Go.Ground.data }, { on := 9, ground := Go.Ground.data }, { on := 2, ground := Go.Ground.chain }], guard := none }) rfl (fun K hK => ?_) ?_
    · go_simp
      go_wp2_with (go_at_call 99; refine (HO1.out _).mono ?_; rintro e w2 ⟨rfl, HB20⟩)
      have HB2z : Hid (Below (B + 3) W w2) := HBDz.out.trans (HB20.out.mono (by have := HBDz.out.size; have := HSW.out; omega))
      have HB2 : Hid (Below (B + 2) W w2) := HB2z.out.mono (by omega)
      refine hK.out _ _ (HS.out _ HB2.out) (fun hHeld => ?_)
      clear hK K
      try simp only [Act.put, List.setIfInBounds_toArray, List.set_cons_zero, List.set_cons_succ]
      refine wpAnyH_ready (rs := [15]) (by kernel_rfl) (by simp) ?_
      refine AllReadyH.cons (o := { dst := some 20, op := Go.Op.call { callee := Go.Callee.value (Go.Operand.func 99), args := #[Go.Operand.tmp 17, Go.Operand.tmp 19], argTypes := #[80, 80] }, type := 80, pos := "l07_nfa.go:194", after := #[{ on := 12, ground := Go.Ground.data }, { on := 14, ground := Go.Ground.data }, { on := 10, ground := Go.Ground.chain }], guard := none }) rfl (fun K hK => ?_) ?_
      · go_simp
        go_wp2_with (go_at_call 99; refine (HO2.out _).mono ?_; rintro e w3 ⟨rfl, HB30⟩)
        have HB3z : Hid (Below (B + 3) W w3) := HB2z.out.trans (HB30.out.mono (by have := HB2z.out.size; have := HSW.out; omega))
        have HB3 : Hid (Below (B + 2) W w3) := HB3z.out.mono (by omega)
        refine hK.out _ _ (HS.out _ HB3.out) (fun hHeld => ?_)
        clear hK K
        try simp only [Act.put, List.setIfInBounds_toArray, List.set_cons_zero, List.set_cons_succ]
        refine wpAnyH_take (i := 16) (oi := { dst := some 21, op := Go.Op.build 85 #[(0, Go.Operand.tmp 10), (1, Go.Operand.tmp 15), (2, Go.Operand.tmp 20)], type := 85, pos := "l07_nfa.go:194", after := #[{ on := 5, ground := Go.Ground.data }, { on := 10, ground := Go.Ground.data }, { on := 15, ground := Go.Ground.data }], guard := none }) (v := .agg cr) rfl (by kernel_rfl) (by kernel_rfl) (by kernel_rfl) (fun _ _ _ h => h) (yieldsIf_build (by kernel_rfl) 85 _ rfl #[(0, .bool true), (1, .agg df), (2, .agg dg)] (by kernel_rfl) cr hbd) (by assumption) ?_
        simp only [Act.put, List.setIfInBounds_toArray, List.set_cons_zero, List.set_cons_succ]
        refine wpAnyH_ready (rs := [17]) (by kernel_rfl) (by simp) ?_
        refine AllReadyH.cons (o := { dst := none, op := Go.Op.store 85 (Go.Operand.tmp 4) (Go.Operand.tmp 21), type := 0, pos := "l07_nfa.go:194", after := #[{ on := 16, ground := Go.Ground.data }, { on := 15, ground := Go.Ground.chain }, { on := 0, ground := Go.Ground.phase }, { on := 1, ground := Go.Ground.phase }, { on := 2, ground := Go.Ground.phase }, { on := 3, ground := Go.Ground.phase }, { on := 4, ground := Go.Ground.phase }, { on := 5, ground := Go.Ground.phase }, { on := 6, ground := Go.Ground.phase }, { on := 7, ground := Go.Ground.phase }, { on := 8, ground := Go.Ground.phase }, { on := 9, ground := Go.Ground.phase }, { on := 10, ground := Go.Ground.phase }, { on := 11, ground := Go.Ground.phase }, { on := 12, ground := Go.Ground.phase }, { on := 13, ground := Go.Ground.phase }, { on := 14, ground := Go.Ground.phase }, { on := 15, ground := Go.Ground.phase }, { on := 16, ground := Go.Ground.phase }], guard := none }) rfl (fun K hK => ?_) ?_
        · rw [if_pos (by kernel_rfl)]
          have HZ3 : Hid (BBlk w3 (B + 2) 49 noB) := HZ.out.of (HB3z.out.block _ (by omega))
          refine wp_store_mid 85 _ _ rfl (B + 2) 0 cr rfl rfl (by rw [hrs]; exact HZ3.out.there 0 49 (by omega)) (by rw [hrs]; exact info_st) hro ?_
          have HB4 : Hid (Below (B + 2) W (w3.setCells (B + 2) 0 cr.toList)) := Below.setCells (Nat.le_refl _) _ _ HB3.out
          refine hK.out _ _ (HS.out _ HB4.out) (fun hHeld => ?_)
          clear hK K
          try simp only [Act.put]
          refine wpAnyH_done (by kernel_rfl) ?_ _
          clear hHeld
          go_wp2_with fail
          obtain rfl : FF = Try.f80 := HFF.out
          have HRX : Hid (BBlk (w3.setCells (B + 2) 0 cr.toList) (B + 2) 49 (stF true (orB f f') (orB g g'))) := by rw [HCR.out, List.toList_toArray]; exact HZ3.out.put _
          refine bodyPost_ret (results_row (k := 4) (t := 85) (b := B + 2) Try.results80 rfl (by have h := load_st HRX.out; rw [← HCR.out] at h; exact h)) rfl ?_
          exact ⟨rfl, HBW.out.trans (HB4.out.mono (by have := HB.out; omega))⟩
        exact AllReadyH.nil
      exact AllReadyH.nil
    exact AllReadyH.nil
  · subst hnl
    simp only [Bool.false_or] at HCR hbd
    refine wp_region_held_drew (S := fun wz => wz.cell? ⟨B, 0, none⟩ = some (.bool false) ∧ wz.cell? ⟨B + 1, 0, none⟩ = some (.bool nl') ∧ Hid (Below (B + 2) W wz)) (by kernel_rfl) (HS.out _ HBD.out) (fun hHeld => ?_)
    refine wpAnyH_take (i := 0) (oi := { dst := some 5, op := Go.Op.fieldAddr 85 (Go.Operand.tmp 2) 0, type := 0, pos := "l07_nfa.go:194", after := #[], guard := none }) (v := ?_) rfl (by kernel_rfl) (by kernel_rfl) (by kernel_rfl) (fun _ _ _ h => h) (Or.inl ⟨by kernel_rfl, ?_⟩) (by assumption) ?_
    rotate_left
    · intro w hSw; (try dsimp only at hSw); go_simp; try with_reducible rfl
    simp only [Act.put, List.setIfInBounds_toArray, List.set_cons_zero, List.set_cons_succ]
    refine wpAnyH_take (i := 1) (oi := { dst := some 6, op := Go.Op.load 4 (Go.Operand.tmp 5), type := 4, pos := "l07_nfa.go:194", after := #[{ on := 0, ground := Go.Ground.data }], guard := none }) (v := ?_) rfl (by kernel_rfl) (by kernel_rfl) (by kernel_rfl) (fun _ _ _ h => h) (Or.inl ⟨by kernel_rfl, ?_⟩) (by assumption) ?_
    rotate_left
    · intro w hSw; (try dsimp only at hSw); go_simp; try with_reducible rfl
    simp only [Act.put, List.setIfInBounds_toArray, List.set_cons_zero, List.set_cons_succ]
    refine wpAnyH_take (i := 2) (oi := { dst := some 7, op := Go.Op.move (Go.Operand.tmp 6), type := 4, pos := "l07_nfa.go:194", after := #[{ on := 1, ground := Go.Ground.data }], guard := none }) (v := ?_) rfl (by kernel_rfl) (by kernel_rfl) (by kernel_rfl) (fun _ _ _ h => h) (Or.inl ⟨by kernel_rfl, ?_⟩) (by assumption) ?_
    rotate_left
    · intro w hSw; (try dsimp only at hSw); go_simp; try with_reducible rfl
    simp only [Act.put, List.setIfInBounds_toArray, List.set_cons_zero, List.set_cons_succ]
    refine wpAnyH_take (i := 3) (oi := { dst := some 8, op := Go.Op.fieldAddr 85 (Go.Operand.tmp 3) 0, type := 0, pos := "l07_nfa.go:194", after := #[{ on := 2, ground := Go.Ground.guard }], guard := some (2, false) }) (v := ?_) rfl (by kernel_rfl) (by kernel_rfl) (by kernel_rfl) (fun _ _ _ h => h) (Or.inl ⟨by kernel_rfl, ?_⟩) (by assumption) ?_
    rotate_left
    · intro w hSw; (try dsimp only at hSw); go_simp; try with_reducible rfl
    simp only [Act.put, List.setIfInBounds_toArray, List.set_cons_zero, List.set_cons_succ]
    refine wpAnyH_take (i := 4) (oi := { dst := some 9, op := Go.Op.load 4 (Go.Operand.tmp 8), type := 4, pos := "l07_nfa.go:194", after := #[{ on := 3, ground := Go.Ground.data }, { on := 2, ground := Go.Ground.guard }], guard := some (2, false) }) (v := ?_) rfl (by kernel_rfl) (by kernel_rfl) (by kernel_rfl) (fun _ _ _ h => h) (Or.inl ⟨by kernel_rfl, ?_⟩) (by assumption) ?_
    rotate_left
    · intro w hSw; (try dsimp only at hSw); go_simp; try with_reducible rfl
    simp only [Act.put, List.setIfInBounds_toArray, List.set_cons_zero, List.set_cons_succ]
    refine wpAnyH_take (i := 5) (oi := { dst := some 10, op := Go.Op.pick (Go.Operand.tmp 7) (Go.Operand.const (Go.Value.bool true)) (Go.Operand.tmp 9), type := 4, pos := "l07_nfa.go:194", after := #[{ on := 2, ground := Go.Ground.data }, { on := 4, ground := Go.Ground.data }], guard := none }) (v := ?_) rfl (by kernel_rfl) (by kernel_rfl) (by kernel_rfl) (fun _ _ _ h => h) (Or.inl ⟨by kernel_rfl, ?_⟩) (by assumption) ?_
    rotate_left
    · intro w hSw; (try dsimp only at hSw); go_simp; try with_reducible rfl
    simp only [Act.put, List.setIfInBounds_toArray, List.set_cons_zero, List.set_cons_succ]
    refine wpAnyH_take (i := 6) (oi := { dst := some 11, op := Go.Op.fieldAddr 85 (Go.Operand.tmp 2) 1, type := 0, pos := "l07_nfa.go:194", after := #[], guard := none }) (v := ?_) rfl (by kernel_rfl) (by kernel_rfl) (by kernel_rfl) (fun _ _ _ h => h) (Or.inl ⟨by kernel_rfl, ?_⟩) (by assumption) ?_
    rotate_left
    · intro w hSw; (try dsimp only at hSw); go_simp; try with_reducible rfl
    simp only [Act.put, List.setIfInBounds_toArray, List.set_cons_zero, List.set_cons_succ]
    refine wpAnyH_take (i := 7) (oi := { dst := some 12, op := Go.Op.load 80 (Go.Operand.tmp 11), type := 80, pos := "l07_nfa.go:194", after := #[{ on := 6, ground := Go.Ground.data }], guard := none }) (v := .agg cf) rfl (by kernel_rfl) (by kernel_rfl) (by kernel_rfl) (fun _ _ _ h => h) (yieldsIf_load_mid (by kernel_rfl) 80 _ rfl B 1 rfl cf.toList _ ((fun wz h => L1 wz h.2.2.out)) Try.underlying80 rfl (by rw [lf]; exact info_set)) (by assumption) ?_
    simp only [Act.put, List.setIfInBounds_toArray, List.set_cons_zero, List.set_cons_succ]
    refine wpAnyH_take (i := 8) (oi := { dst := some 13, op := Go.Op.fieldAddr 85 (Go.Operand.tmp 3) 1, type := 0, pos := "l07_nfa.go:194", after := #[], guard := none }) (v := ?_) rfl (by kernel_rfl) (by kernel_rfl) (by kernel_rfl) (fun _ _ _ h => h) (Or.inl ⟨by kernel_rfl, ?_⟩) (by assumption) ?_
    rotate_left
    · intro w hSw; (try dsimp only at hSw); go_simp; try with_reducible rfl
    simp only [Act.put, List.setIfInBounds_toArray, List.set_cons_zero, List.set_cons_succ]
    refine wpAnyH_take (i := 9) (oi := { dst := some 14, op := Go.Op.load 80 (Go.Operand.tmp 13), type := 80, pos := "l07_nfa.go:194", after := #[{ on := 8, ground := Go.Ground.data }], guard := none }) (v := .agg cf') rfl (by kernel_rfl) (by kernel_rfl) (by kernel_rfl) (fun _ _ _ h => h) (yieldsIf_load_mid (by kernel_rfl) 80 _ rfl (B + 1) 1 rfl cf'.toList _ ((fun wz h => L3 wz h.2.2.out)) Try.underlying80 rfl (by rw [lf']; exact info_set)) (by assumption) ?_
    simp only [Act.put, List.setIfInBounds_toArray, List.set_cons_zero, List.set_cons_succ]
    refine wpAnyH_take (i := 11) (oi := { dst := some 16, op := Go.Op.fieldAddr 85 (Go.Operand.tmp 2) 2, type := 0, pos := "l07_nfa.go:194", after := #[], guard := none }) (v := ?_) rfl (by kernel_rfl) (by kernel_rfl) (by kernel_rfl) (fun _ _ _ h => h) (Or.inl ⟨by kernel_rfl, ?_⟩) (by assumption) ?_
    rotate_left
    · intro w hSw; (try dsimp only at hSw); go_simp; try with_reducible rfl
    simp only [Act.put, List.setIfInBounds_toArray, List.set_cons_zero, List.set_cons_succ]
    refine wpAnyH_take (i := 12) (oi := { dst := some 17, op := Go.Op.load 80 (Go.Operand.tmp 16), type := 80, pos := "l07_nfa.go:194", after := #[{ on := 11, ground := Go.Ground.data }], guard := none }) (v := .agg cg) rfl (by kernel_rfl) (by kernel_rfl) (by kernel_rfl) (fun _ _ _ h => h) (yieldsIf_load_mid (by kernel_rfl) 80 _ rfl B 25 rfl cg.toList _ ((fun wz h => L2 wz h.2.2.out)) Try.underlying80 rfl (by rw [lg]; exact info_set)) (by assumption) ?_
    simp only [Act.put, List.setIfInBounds_toArray, List.set_cons_zero, List.set_cons_succ]
    refine wpAnyH_take (i := 13) (oi := { dst := some 18, op := Go.Op.fieldAddr 85 (Go.Operand.tmp 3) 2, type := 0, pos := "l07_nfa.go:194", after := #[], guard := none }) (v := ?_) rfl (by kernel_rfl) (by kernel_rfl) (by kernel_rfl) (fun _ _ _ h => h) (Or.inl ⟨by kernel_rfl, ?_⟩) (by assumption) ?_
    rotate_left
    · intro w hSw; (try dsimp only at hSw); go_simp; try with_reducible rfl
    simp only [Act.put, List.setIfInBounds_toArray, List.set_cons_zero, List.set_cons_succ]
    refine wpAnyH_take (i := 14) (oi := { dst := some 19, op := Go.Op.load 80 (Go.Operand.tmp 18), type := 80, pos := "l07_nfa.go:194", after := #[{ on := 13, ground := Go.Ground.data }], guard := none }) (v := .agg cg') rfl (by kernel_rfl) (by kernel_rfl) (by kernel_rfl) (fun _ _ _ h => h) (yieldsIf_load_mid (by kernel_rfl) 80 _ rfl (B + 1) 25 rfl cg'.toList _ ((fun wz h => L4 wz h.2.2.out)) Try.underlying80 rfl (by rw [lg']; exact info_set)) (by assumption) ?_
    simp only [Act.put, List.setIfInBounds_toArray, List.set_cons_zero, List.set_cons_succ]
    refine wpAnyH_ready (rs := [10]) (by kernel_rfl) (by simp) ?_
    refine AllReadyH.cons (o := { dst := some 15, op := Go.Op.call { callee := Go.Callee.value (Go.Operand.func 99), args := #[Go.Operand.tmp 12, Go.Operand.tmp 14], argTypes := #[80, 80] }, type := 80, pos := "l07_nfa.go:194", after := #[{ on := 7, ground := Go.Ground.data }, { on := 9, ground := Go.Ground.data }, { on := 2, ground := Go.Ground.chain }], guard := none }) rfl (fun K hK => ?_) ?_
    · go_simp
      go_wp2_with (go_at_call 99; refine (HO1.out _).mono ?_; rintro e w2 ⟨rfl, HB20⟩)
      have HB2z : Hid (Below (B + 3) W w2) := HBDz.out.trans (HB20.out.mono (by have := HBDz.out.size; have := HSW.out; omega))
      have HB2 : Hid (Below (B + 2) W w2) := HB2z.out.mono (by omega)
      refine hK.out _ _ (HS.out _ HB2.out) (fun hHeld => ?_)
      clear hK K
      try simp only [Act.put, List.setIfInBounds_toArray, List.set_cons_zero, List.set_cons_succ]
      refine wpAnyH_ready (rs := [15]) (by kernel_rfl) (by simp) ?_
      refine AllReadyH.cons (o := { dst := some 20, op := Go.Op.call { callee := Go.Callee.value (Go.Operand.func 99), args := #[Go.Operand.tmp 17, Go.Operand.tmp 19], argTypes := #[80, 80] }, type := 80, pos := "l07_nfa.go:194", after := #[{ on := 12, ground := Go.Ground.data }, { on := 14, ground := Go.Ground.data }, { on := 10, ground := Go.Ground.chain }], guard := none }) rfl (fun K hK => ?_) ?_
      · go_simp
        go_wp2_with (go_at_call 99; refine (HO2.out _).mono ?_; rintro e w3 ⟨rfl, HB30⟩)
        have HB3z : Hid (Below (B + 3) W w3) := HB2z.out.trans (HB30.out.mono (by have := HB2z.out.size; have := HSW.out; omega))
        have HB3 : Hid (Below (B + 2) W w3) := HB3z.out.mono (by omega)
        refine hK.out _ _ (HS.out _ HB3.out) (fun hHeld => ?_)
        clear hK K
        try simp only [Act.put, List.setIfInBounds_toArray, List.set_cons_zero, List.set_cons_succ]
        refine wpAnyH_take (i := 16) (oi := { dst := some 21, op := Go.Op.build 85 #[(0, Go.Operand.tmp 10), (1, Go.Operand.tmp 15), (2, Go.Operand.tmp 20)], type := 85, pos := "l07_nfa.go:194", after := #[{ on := 5, ground := Go.Ground.data }, { on := 10, ground := Go.Ground.data }, { on := 15, ground := Go.Ground.data }], guard := none }) (v := .agg cr) rfl (by kernel_rfl) (by kernel_rfl) (by kernel_rfl) (fun _ _ _ h => h) (yieldsIf_build (by kernel_rfl) 85 _ rfl #[(0, .bool nl'), (1, .agg df), (2, .agg dg)] (by kernel_rfl) cr hbd) (by assumption) ?_
        simp only [Act.put, List.setIfInBounds_toArray, List.set_cons_zero, List.set_cons_succ]
        refine wpAnyH_ready (rs := [17]) (by kernel_rfl) (by simp) ?_
        refine AllReadyH.cons (o := { dst := none, op := Go.Op.store 85 (Go.Operand.tmp 4) (Go.Operand.tmp 21), type := 0, pos := "l07_nfa.go:194", after := #[{ on := 16, ground := Go.Ground.data }, { on := 15, ground := Go.Ground.chain }, { on := 0, ground := Go.Ground.phase }, { on := 1, ground := Go.Ground.phase }, { on := 2, ground := Go.Ground.phase }, { on := 3, ground := Go.Ground.phase }, { on := 4, ground := Go.Ground.phase }, { on := 5, ground := Go.Ground.phase }, { on := 6, ground := Go.Ground.phase }, { on := 7, ground := Go.Ground.phase }, { on := 8, ground := Go.Ground.phase }, { on := 9, ground := Go.Ground.phase }, { on := 10, ground := Go.Ground.phase }, { on := 11, ground := Go.Ground.phase }, { on := 12, ground := Go.Ground.phase }, { on := 13, ground := Go.Ground.phase }, { on := 14, ground := Go.Ground.phase }, { on := 15, ground := Go.Ground.phase }, { on := 16, ground := Go.Ground.phase }], guard := none }) rfl (fun K hK => ?_) ?_
        · rw [if_pos (by kernel_rfl)]
          have HZ3 : Hid (BBlk w3 (B + 2) 49 noB) := HZ.out.of (HB3z.out.block _ (by omega))
          refine wp_store_mid 85 _ _ rfl (B + 2) 0 cr rfl rfl (by rw [hrs]; exact HZ3.out.there 0 49 (by omega)) (by rw [hrs]; exact info_st) hro ?_
          have HB4 : Hid (Below (B + 2) W (w3.setCells (B + 2) 0 cr.toList)) := Below.setCells (Nat.le_refl _) _ _ HB3.out
          refine hK.out _ _ (HS.out _ HB4.out) (fun hHeld => ?_)
          clear hK K
          try simp only [Act.put]
          refine wpAnyH_done (by kernel_rfl) ?_ _
          clear hHeld
          go_wp2_with fail
          obtain rfl : FF = Try.f80 := HFF.out
          have HRX : Hid (BBlk (w3.setCells (B + 2) 0 cr.toList) (B + 2) 49 (stF nl' (orB f f') (orB g g'))) := by rw [HCR.out, List.toList_toArray]; exact HZ3.out.put _
          refine bodyPost_ret (results_row (k := 4) (t := 85) (b := B + 2) Try.results80 rfl (by have h := load_st HRX.out; rw [← HCR.out] at h; exact h)) rfl ?_
          exact ⟨rfl, HBW.out.trans (HB4.out.mono (by have := HB.out; omega))⟩
        exact AllReadyH.nil
      exact AllReadyH.nil
    exact AllReadyH.nil
end Go.Proofs.Ytkcflhlipdnbnaa

/-
  Lists whose elements are a row of one-cell values (texts; atoms and filters of questions): how one lies in the world, one that is owned.
-/
namespace Go.Proofs.Ytkcflhlipdnbnaa
open Go.RowKit

/-- n elements of s cells that are reached by a slice; their block is one of lo .. hi - 1 -/
def FlIn (s lo hi : Nat) (w : World) (a : Option Addr) (n : Nat) (c : Nat → Value) : Prop :=
  n = 0 ∨ ∃ b o, a = some ⟨b, o, none⟩ ∧ lo ≤ b ∧ b < hi ∧ ∀ j, j < n * s → w.cell? ⟨b, o + j, none⟩ = some (c j)
/-- owned: their block is their own -/
def FlOwn (s lo hi : Nat) (w : World) (a : Option Addr) (n : Nat) (c : Nat → Value) : Prop :=
  n = 0 ∨ ∃ b, a = some ⟨b, 0, none⟩ ∧ lo ≤ b ∧ b < hi ∧ Blk w b (n * s) c
theorem FlIn.below {s lo hi B n : Nat} {w w' : World} {a : Option Addr} {c : Nat → Value} (h : FlIn s lo hi w a n c) (hb : Below B w w') (hB : hi ≤ B) : FlIn s lo hi w' a n c := by
  rcases h with h | ⟨b, o, e, h1, h2, h3⟩
  · exact .inl h
  · exact .inr ⟨b, o, e, h1, h2, fun j hj => cell_below (h3 j hj) hb (by omega)⟩
theorem FlIn.wide {s lo hi lo' hi' n : Nat} {w : World} {a : Option Addr} {c : Nat → Value} (h : FlIn s lo hi w a n c) (h1 : lo' ≤ lo) (h2 : hi ≤ hi') : FlIn s lo' hi' w a n c := by
  rcases h with h | ⟨b, o, e, h3, h4, h5⟩
  · exact .inl h
  · exact .inr ⟨b, o, e, by omega, by omega, h5⟩
theorem FlIn.kept {s lo hi n : Nat} {p : Nat → Prop} {w w' : World} {a : Option Addr} {c : Nat → Value} (h : FlIn s lo hi w a n c) (hk : KeptP p w w') (hh : hi ≤ w.heap.size) (hp : ∀ k, lo ≤ k → k < hi → ¬ p k) : FlIn s lo hi w' a n c := by
  rcases h with h | ⟨b, o, e, h1, h2, h3⟩
  · exact .inl h
  · exact .inr ⟨b, o, e, h1, h2, fun j hj => hk.cell (h3 j hj) (by omega) (hp b h1 h2)⟩
/-- an element's cells -/
theorem FlIn.at {s lo hi n k : Nat} {w : World} {a : Option Addr} {c : Nat → Value} (h : FlIn s lo hi w a n c) (hk : k < n) : ∃ b o, a = some ⟨b, o, none⟩ ∧ lo ≤ b ∧ b < hi ∧ ∀ i, i < s → w.cell? ⟨b, o + (k * s + i), none⟩ = some (c (k * s + i)) := by
  rcases h with h | ⟨b, o, e, h1, h2, h3⟩
  · omega
  · refine ⟨b, o, e, h1, h2, fun i hi => h3 _ ?_⟩
    have : (k + 1) * s ≤ n * s := Nat.mul_le_mul_right s (by omega)
    rw [Nat.add_mul, Nat.one_mul] at this
    omega
theorem FlIn.congr {s lo hi n : Nat} {w : World} {a : Option Addr} {c c' : Nat → Value} (h : FlIn s lo hi w a n c) (e : ∀ j, j < n * s → c j = c' j) : FlIn s lo hi w a n c' := by
  rcases h with h | ⟨b, o, e0, h1, h2, h3⟩
  · exact .inl h
  · exact .inr ⟨b, o, e0, h1, h2, fun j hj => by rw [h3 j hj, e j hj]⟩
theorem FlOwn.toIn {s lo hi n : Nat} {w : World} {a : Option Addr} {c : Nat → Value} (h : FlOwn s lo hi w a n c) : FlIn s lo hi w a n c := by
  rcases h with h | ⟨b, e, h1, h2, h3⟩
  · exact .inl h
  · exact .inr ⟨b, 0, e, h1, h2, fun j hj => by rw [Nat.zero_add]; exact h3.cell hj⟩
theorem FlOwn.below {s lo hi B n : Nat} {w w' : World} {a : Option Addr} {c : Nat → Value} (h : FlOwn s lo hi w a n c) (hb : Below B w w') (hB : hi ≤ B) : FlOwn s lo hi w' a n c := by
  rcases h with h | ⟨b, e, h1, h2, h3⟩
  · exact .inl h
  · exact .inr ⟨b, e, h1, h2, h3.of_block (hb.block b (by omega))⟩
theorem FlOwn.wide {s lo hi lo' hi' n : Nat} {w : World} {a : Option Addr} {c : Nat → Value} (h : FlOwn s lo hi w a n c) (h1 : lo' ≤ lo) (h2 : hi ≤ hi') : FlOwn s lo' hi' w a n c := by
  rcases h with h | ⟨b, e, h3, h4, h5⟩
  · exact .inl h
  · exact .inr ⟨b, e, by omega, by omega, h5⟩
theorem FlOwn.kept {s lo hi n : Nat} {p : Nat → Prop} {w w' : World} {a : Option Addr} {c : Nat → Value} (h : FlOwn s lo hi w a n c) (hk : KeptP p w w') (hp : ∀ k, lo ≤ k → k < hi → ¬ p k) : FlOwn s lo hi w' a n c := by
  rcases h with h | ⟨b, e, h1, h2, h3⟩
  · exact .inl h
  · exact .inr ⟨b, e, h1, h2, hk.blk h3 (hp b h1 h2)⟩
theorem FlOwn.setCell {s lo hi b j n : Nat} {w : World} {a : Option Addr} {c : Nat → Value} (h : FlOwn s lo hi w a n c) (hb : b < lo) (v : Value) : FlOwn s lo hi (w.setCell ⟨b, j, none⟩ v) a n c := by
  rcases h with h | ⟨g, e, h1, h2, h3⟩
  · exact .inl h
  · exact .inr ⟨g, e, h1, h2, h3.of_block (Below.heap_setCell w ⟨b, j, none⟩ v g (by simp; omega))⟩
theorem FlIn.setCell {s lo hi b j n : Nat} {w : World} {a : Option Addr} {c : Nat → Value} (h : FlIn s lo hi w a n c) (hb : b < lo) (v : Value) : FlIn s lo hi (w.setCell ⟨b, j, none⟩ v) a n c := by
  rcases h with h | ⟨g, o, e, h1, h2, h3⟩
  · exact .inl h
  · exact .inr ⟨g, o, e, h1, h2, fun i hi => by rw [← h3 i hi]; exact World.cell?_of_block (a := ⟨g, o + i, none⟩) (Below.heap_setCell w ⟨b, j, none⟩ v g (by simp; omega))⟩

/-- texts, atoms, filters -/
abbrev Tx := ByteArray
abbrev At := ByteArray × ByteArray × ByteArray
abbrev Fl := ByteArray × Int × ByteArray × Int
def tat (l : List Tx) (i : Nat) : Tx := l.getD i ByteArray.empty
def aat (l : List At) (i : Nat) : At := l.getD i (ByteArray.empty, ByteArray.empty, ByteArray.empty)
def fat (l : List Fl) (i : Nat) : Fl := l.getD i (ByteArray.empty, 0, ByteArray.empty, 0)
/-- their cells -/
def tC (l : List Tx) (j : Nat) : Value := .string (tat l j)
def aC (l : List At) (j : Nat) : Value := if j % 3 = 0 then .string (aat l (j / 3)).1 else if j % 3 = 1 then .string (aat l (j / 3)).2.1 else .string (aat l (j / 3)).2.2
def fC (l : List Fl) (j : Nat) : Value := if j % 4 = 0 then .string (fat l (j / 4)).1 else if j % 4 = 1 then .int .i64 (fat l (j / 4)).2.1 else if j % 4 = 2 then .string (fat l (j / 4)).2.2.1 else .int .i64 (fat l (j / 4)).2.2.2
theorem tC0 (l : List Tx) (i : Nat) : tC l (i * 1 + 0) = .string (tat l i) := by unfold tC; rw [show i * 1 + 0 = i by omega]
theorem aC0 (l : List At) (i : Nat) : aC l (i * 3 + 0) = .string (aat l i).1 := by unfold aC; rw [if_pos (by omega), show (i * 3 + 0) / 3 = i by omega]
theorem aC1 (l : List At) (i : Nat) : aC l (i * 3 + 1) = .string (aat l i).2.1 := by unfold aC; rw [if_neg (by omega), if_pos (by omega), show (i * 3 + 1) / 3 = i by omega]
theorem aC2 (l : List At) (i : Nat) : aC l (i * 3 + 2) = .string (aat l i).2.2 := by unfold aC; rw [if_neg (by omega), if_neg (by omega), show (i * 3 + 2) / 3 = i by omega]
theorem fC0 (l : List Fl) (i : Nat) : fC l (i * 4 + 0) = .string (fat l i).1 := by unfold fC; rw [if_pos (by omega), show (i * 4 + 0) / 4 = i by omega]
theorem fC1 (l : List Fl) (i : Nat) : fC l (i * 4 + 1) = .int .i64 (fat l i).2.1 := by unfold fC; rw [if_neg (by omega), if_pos (by omega), show (i * 4 + 1) / 4 = i by omega]
theorem fC2 (l : List Fl) (i : Nat) : fC l (i * 4 + 2) = .string (fat l i).2.2.1 := by unfold fC; rw [if_neg (by omega), if_neg (by omega), if_pos (by omega), show (i * 4 + 2) / 4 = i by omega]
theorem fC3 (l : List Fl) (i : Nat) : fC l (i * 4 + 3) = .int .i64 (fat l i).2.2.2 := by unfold fC; rw [if_neg (by omega), if_neg (by omega), if_neg (by omega), show (i * 4 + 3) / 4 = i by omega]
theorem tat_get {l : List Tx} {i : Nat} (h : i < l.length) : tat l i = l[i] := by simp [tat, List.getD, h]
theorem aat_get {l : List At} {i : Nat} (h : i < l.length) : aat l i = l[i] := by simp [aat, List.getD, h]
theorem fat_get {l : List Fl} {i : Nat} (h : i < l.length) : fat l i = l[i] := by simp [fat, List.getD, h]
theorem drop_t {l l' : List Tx} {n k : Nat} (h : l.length = n) (h' : l'.length = n) (hk : k < n) : (l.drop k = l'.drop k) ↔ (tat l k = tat l' k ∧ l.drop (k + 1) = l'.drop (k + 1)) := by
  rw [List.drop_eq_getElem_cons (by omega), List.drop_eq_getElem_cons (l := l') (by omega), List.cons.injEq, tat_get (by omega), tat_get (by omega)]
theorem drop_a {l l' : List At} {n k : Nat} (h : l.length = n) (h' : l'.length = n) (hk : k < n) : (l.drop k = l'.drop k) ↔ (aat l k = aat l' k ∧ l.drop (k + 1) = l'.drop (k + 1)) := by
  rw [List.drop_eq_getElem_cons (by omega), List.drop_eq_getElem_cons (l := l') (by omega), List.cons.injEq, aat_get (by omega), aat_get (by omega)]
theorem drop_f {l l' : List Fl} {n k : Nat} (h : l.length = n) (h' : l'.length = n) (hk : k < n) : (l.drop k = l'.drop k) ↔ (fat l k = fat l' k ∧ l.drop (k + 1) = l'.drop (k + 1)) := by
  rw [List.drop_eq_getElem_cons (by omega), List.drop_eq_getElem_cons (l := l') (by omega), List.cons.injEq, fat_get (by omega), fat_get (by omega)]
/-- equal texts, as the walk spells it -/
theorem toList_inj {s t : ByteArray} : (s.toList == t.toList) = true ↔ s = t := by
  constructor
  · intro h
    have h1 : s.toList = t.toList := by simpa using h
    rw [Lib.toList_data, Lib.toList_data] at h1
    exact Go.WideShapes.bytes_inj h1
  · rintro rfl; simp
theorem toList_eq {s t : ByteArray} : (s.toList == t.toList) = decide (s = t) := by
  rw [Bool.eq_iff_iff, toList_inj, decide_eq_true_eq]
/-- a block of four cells -/
theorem blk_four (w : World) (b : Nat) (hb : b = w.heap.size) (x y z u : Value) (T : TypeId) : Blk (w.alloc (.cells #[x, y, z, u] T)) b 4 (fun i => if i = 0 then x else if i = 1 then y else if i = 2 then z else u) :=
  hb ▸ blk_new w #[x, y, z, u] T _ (fun i hi => by
    have hi' : i < 4 := hi
    rcases i with _ | _ | _ | _ | i
    · rfl
    · rfl
    · rfl
    · rfl
    · omega)
end Go.Proofs.Ytkcflhlipdnbnaa
