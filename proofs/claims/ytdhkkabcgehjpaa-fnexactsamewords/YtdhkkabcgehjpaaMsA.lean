/-
  Sets of states, 24 bools: firstState, or.
-/
import Derived.Test.YtdhkkabcgehjpaaSetC
import Derived.Deep.MidRow
import Derived.Deep.DeepCutAuto
import Derived.Deep.CutBlock
namespace Go.Proofs.Ytdhkkabcgehjpaa
open Go.RowKit

/-- the cells of n bools -/
def bcells (n : Nat) (f : Nat → Bool) : List Value := (List.range n).map fun i => .bool (f i)
/-- a set of states as a value -/
abbrev sv (f : Nat → Bool) : Value := .agg (bcells 24 f).toArray
/-- a block of n bools -/
def BBlk (w : World) (b n : Nat) (f : Nat → Bool) : Prop := Blk w b n (fun i => .bool (f i))
theorem bcells_len (n : Nat) (f : Nat → Bool) : (bcells n f).length = n := by simp [bcells]
theorem bcells_size (n : Nat) (f : Nat → Bool) : (bcells n f).toArray.size = n := by simp [bcells]
theorem bcells_one (n : Nat) (f : Nat → Bool) : (bcells n f).toArray.all (·.oneCell') = true := by simp [bcells, Value.oneCell']
theorem bcells_congr {n : Nat} {f g : Nat → Bool} (h : ∀ i, i < n → f i = g i) : bcells n f = bcells n g := List.map_congr_left fun i hi => by rw [h i (List.mem_range.1 hi)]
theorem sv_congr {f g : Nat → Bool} (h : ∀ i, i < 24 → f i = g i) : sv f = sv g := by unfold sv; rw [bcells_congr h]
theorem BBlk.range {w : World} {b n : Nat} {f : Nat → Bool} (h : BBlk w b n f) (o m : Nat) (hm : o + m ≤ n) : w.rangeAt b o (bcells m fun i => f (o + i)) := by
  intro j v hv
  have hj : j < m := by have := (List.getElem?_eq_some_iff.1 hv).1; rwa [bcells_len] at this
  simp [bcells, hj] at hv
  subst hv
  exact Blk.cell h (by omega)
theorem BBlk.all {w : World} {b n : Nat} {f : Nat → Bool} (h : BBlk w b n f) : w.rangeAt b 0 (bcells n f) := by
  have := h.range 0 n (by omega)
  simpa using this
theorem BBlk.there {w : World} {b n : Nat} {f : Nat → Bool} (h : BBlk w b n f) (o m : Nat) (hm : o + m ≤ n) : w.there b o m := by
  intro j hj
  exact ⟨by rw [Blk.cell h (by omega)]; rfl, Blk.frozen h _⟩
theorem BBlk.new (w : World) (b : Nat) (hb : b = w.heap.size) (n : Nat) (f : Nat → Bool) (T : TypeId) : BBlk (w.alloc (.cells (bcells n f).toArray T)) b n f := by
  have := blk_new w (bcells n f).toArray T (fun i => .bool (f i)) (fun i hi => by rw [bcells_size] at hi; simp [bcells, hi])
  rw [bcells_size] at this
  rw [hb]; exact this
theorem BBlk.of {w w' : World} {b n : Nat} {f : Nat → Bool} (h : BBlk w b n f) (e : w'.heap[b]? = w.heap[b]?) : BBlk w' b n f := Blk.of_block h e
theorem BBlk.lt {w : World} {b n : Nat} {f : Nat → Bool} (h : BBlk w b n f) : b < w.heap.size := Blk.lt h
theorem BBlk.congr {w : World} {b n : Nat} {f g : Nat → Bool} (h : BBlk w b n f) (e : ∀ i, i < n → f i = g i) : BBlk w b n g := Blk.congr h fun i hi => by rw [e i hi]
theorem BBlk.get {w : World} {b n k : Nat} {f : Nat → Bool} (h : BBlk w b n f) (hk : k < n) : w.cell? ⟨b, k, none⟩ = some (.bool (f k)) := Blk.cell h hk
theorem BBlk.put {w : World} {b n : Nat} {f : Nat → Bool} (h : BBlk w b n f) (g : Nat → Bool) : BBlk (w.setCells b 0 (bcells n g)) b n g := by
  refine (Blk.setRange (bcells n g) 0 h (by rw [bcells_len]; omega)).congr fun i hi => ?_
  rw [if_pos ⟨Nat.zero_le _, by rw [bcells_len]; omega⟩]
  simp [bcells, List.getD, hi]
theorem BBlk.set1 {w : World} {b n k : Nat} {f : Nat → Bool} (h : BBlk w b n f) (hk : k < n) (x : Bool) : BBlk (w.setCell ⟨b, k, none⟩ (.bool x)) b n (fun i => if i = k then x else f i) :=
  (Blk.set h k hk _).congr fun i hi => by by_cases e : i = k <;> simp [e]
theorem wpList_here' {P : Program} {ops : Array Oper} {rest : List Oper} {op : Oper} {a : Act} {w : World} {Q : Exit → Act → World → Prop} (h : wpList P ops Q (op :: rest) a w) : wpList P ops Q (op :: rest) a w := h
def noB : Nat → Bool := fun _ => false
theorem info_set : (Try.prog.info? 64).map (·.size) = some 24 := by kernel_rfl
theorem load_set {w : World} {b : Nat} {f : Nat → Bool} (h : BBlk w b 24 f) : (loadVar 64 ⟨b, 0, none⟩).run Try.prog w = .ok (sv f) w :=
  run_loadVar_mid w b 0 64 (bcells 24 f) _ h.all Try.underlying64 rfl (by rw [bcells_len]; exact info_set)
theorem BBlk.zero (w : World) (b : Nat) (hb : b = w.heap.size) (T : TypeId) : BBlk (w.alloc (.cells #[.bool false, .bool false, .bool false, .bool false, .bool false, .bool false, .bool false, .bool false, .bool false, .bool false, .bool false, .bool false, .bool false, .bool false, .bool false, .bool false, .bool false, .bool false, .bool false, .bool false, .bool false, .bool false, .bool false, .bool false] T)) b 24 noB := BBlk.new w b hb 24 noB T
theorem index_set (f : Nat → Bool) {k : Nat} (hk : k < 24) (w : World) : (Instr.index 64 (.agg (bcells 24 f).toArray) (.int .i64 (k : Int))).run Try.prog w = .ok (.bool (f k)) w := by
  have e : (bcells 24 f)[k]'(by rw [bcells_len]; exact hk) = .bool (f k) := by simp [bcells]
  simp [Instr.index, go_sem, hk, bcells_len, e]

/-- state 0 alone -/
def oneS : Nat → Bool := fun i => decide (i = 0)
set_option maxHeartbeats 1000000 in
theorem firstState_any (w : World) : Calls Try.prog 33 #[] w fun e w' => e = .returned (sv oneS) ∧ Hid (Below w.heap.size w w') := by
  obtain ⟨B, HB⟩ : ∃ B, Hid (B = w.heap.size) := ⟨_, rfl⟩
  obtain ⟨W, HW⟩ : ∃ W, Hid (W = w.alloc (.cells #[.bool false, .bool false, .bool false, .bool false, .bool false, .bool false, .bool false, .bool false, .bool false, .bool false, .bool false, .bool false, .bool false, .bool false, .bool false, .bool false, .bool false, .bool false, .bool false, .bool false, .bool false, .bool false, .bool false, .bool false] 64)) := ⟨_, rfl⟩
  have HZ : Hid (BBlk W B 24 noB) := by rw [HW.out]; exact BBlk.zero w B HB.out _
  have HBW : Hid (Below w.heap.size w W) := by rw [HW.out]; exact below1 w _
  have e : (bcells 24 oneS).toArray = #[.bool true, .bool false, .bool false, .bool false, .bool false, .bool false, .bool false, .bool false, .bool false, .bool false, .bool false, .bool false, .bool false, .bool false, .bool false, .bool false, .bool false, .bool false, .bool false, .bool false, .bool false, .bool false, .bool false, .bool false] := rfl
  go_enter Try.func33, Try.ntmps33
  obtain ⟨FF, HFF⟩ : ∃ F : Func, Hid (F = Try.f33) := ⟨_, rfl⟩
  rw [← HFF.out]
  go_wp2_with (with_reducible refine wpList_here' ?_; refine wpList_store_mid rfl 64 _ _ rfl w.heap.size 0 (bcells 24 oneS).toArray rfl rfl (by rw [bcells_size]; exact (BBlk.zero w _ rfl _).there 0 24 (by omega)) (by rw [bcells_size]; exact info_set) (bcells_one _ _) ?_; dsimp only [Act.put])
  obtain rfl : FF = Try.f33 := HFF.out
  rw [← HB.out]
  rw [← HW.out]
  refine bodyPost_ret (results_row (k := 0) (t := 64) (b := B) Try.results33 rfl (load_set (HZ.out.put oneS))) rfl ?_
  rw [HB.out]
  exact ⟨rfl, Below.setCells (Nat.le_refl _) _ _ HBW.out⟩

set_option maxHeartbeats 2000000 in
set_option maxRecDepth 100000 in
theorem orS_any (f g : Nat → Bool) (w : World) : Calls Try.prog 68 #[sv f, sv g] w fun e w' => e = .returned (sv fun i => f i || g i) ∧ Hid (Below w.heap.size w w') := by
  obtain ⟨cf, HCF⟩ : ∃ cf, Hid (cf = (bcells 24 f).toArray) := ⟨_, rfl⟩
  obtain ⟨cg, HCG⟩ : ∃ cf, Hid (cf = (bcells 24 g).toArray) := ⟨_, rfl⟩
  have hf : cf.size = 24 := by rw [HCF.out]; simp [bcells]
  have hg : cg.size = 24 := by rw [HCG.out]; simp [bcells]
  unfold sv
  rw [← HCF.out, ← HCG.out]
  obtain ⟨B, HB⟩ : ∃ B, Hid (B = w.heap.size) := ⟨_, rfl⟩
  obtain ⟨W, HW⟩ : ∃ W, Hid (W = ((w.alloc (.cells cf 64)).alloc (.cells cg 64)).alloc (.cells #[.bool false, .bool false, .bool false, .bool false, .bool false, .bool false, .bool false, .bool false, .bool false, .bool false, .bool false, .bool false, .bool false, .bool false, .bool false, .bool false, .bool false, .bool false, .bool false, .bool false, .bool false, .bool false, .bool false, .bool false] 64)) := ⟨_, rfl⟩
  have HBW : Hid (Below w.heap.size w W) := by rw [HW.out]; exact below3 w _ _ _
  have HX : Hid (BBlk W B 24 f) := by rw [HW.out, HCF.out]; exact Blk.alloc (Blk.alloc (BBlk.new w B HB.out 24 f _) _) _
  have HY : Hid (BBlk W (B + 1) 24 g) := by rw [HW.out, HCG.out]; exact Blk.alloc (BBlk.new _ (B + 1) (by rw [HB.out]; simp) 24 g _) _
  have HZ : Hid (BBlk W (B + 1 + 1) 24 noB) := by rw [HW.out]; exact BBlk.zero _ (B + 1 + 1) (by rw [HB.out]; simp) _
  go_enter Try.func68, Try.ntmps68
  obtain ⟨FF, HFF⟩ : ∃ F : Func, Hid (F = Try.f68) := ⟨_, rfl⟩
  rw [← HFF.out]
  go_upto_region 1 with fail
  rw [← HB.out, ← HW.out]
  clear HW
  go_wp2_with (with_reducible refine wpList_here' ?_; refine wpList_load_mid rfl 64 _ rfl (B + 1) 0 rfl (bcells 24 g) _ HY.out.all Try.underlying64 rfl (by rw [bcells_len]; exact info_set) ?_)
  rw [← HCG.out]
  go_loopw [8] (fun i wr => ∃ k : Nat, i = .int .i64 k ∧ k ≤ 24 ∧ Hid (BBlk wr B 24 (fun j => if j < k then f j || g j else f j)) ∧ Hid (KeptP (fun c => c = B) W wr)) (fun i _ => 24 - (intOf i).toNat)
  case atStart => exact ⟨0, rfl, by omega, HX.out.congr (fun i _ => by simp), KeptP.refl _ _⟩
  case round =>
    obtain ⟨k, rfl, hk, HXR, HL⟩ := hrel
    by_cases hlt : k < 24
    · have hlt1 : (k : Int) < 24 := by omega
      have hlt0 : (0 : Int) ≤ (k : Int) := by omega
      obtain ⟨y, HYY⟩ : ∃ y, Hid (y = g k) := ⟨_, rfl⟩
      have hix : ∀ w, (Instr.index 64 (.agg cg) (.int .i64 (k : Int))).run Try.prog w = .ok (.bool y) w := fun w => by rw [HCG.out, HYY.out]; exact index_set g hlt w
      obtain ⟨x, HXX⟩ : ∃ x, Hid (x = f k) := ⟨_, rfl⟩
      have c0 := HXR.out.get hlt
      rw [if_neg (by omega), ← HXX.out] at c0
      have fz := Blk.frozen HXR.out k
      have HST : Hid (∀ i, i < 24 → (if i < k + 1 then f i || g i else f i) = if i = k then (x || y) else if i < k then f i || g i else f i) := by
        intro i _
        by_cases e : i = k
        · subst e; simp [HXX.out, HYY.out]
        · by_cases h2 : i < k
          · simp [e, h2, show i < k + 1 by omega]
          · simp [e, h2, show ¬ i < k + 1 by omega]
      have HNEXT : Hid (∀ u, u = (x || y) → ∃ k' : Nat, Value.int .i64 ((k : Int) + 1) = .int .i64 k' ∧ k' ≤ 24 ∧ Hid (BBlk (wr.setCell ⟨B, k, none⟩ (.bool u)) B 24 (fun j => if j < k' then f j || g j else f j)) ∧ Hid (KeptP (fun c => c = B) W (wr.setCell ⟨B, k, none⟩ (.bool u)))) := by
        rintro u rfl
        exact ⟨k + 1, by go_num, by omega, (HXR.out.set1 hlt _).congr (fun i hi => (HST.out i hi).symm), HL.out.setCell rfl _⟩
      rcases Bool.eq_false_or_eq_true x with hx | hx
      all_goals
        subst hx
        go_wp2
        go_roundw
        case rel => exact HNEXT.out _ (by simp)
        case measure => simp [intOf]; omega
    · obtain rfl : k = 24 := by omega
      obtain ⟨R, HRR⟩ : ∃ R : Nat → Bool, Hid (R = fun i => f i || g i) := ⟨_, rfl⟩
      have HXE : Hid (BBlk wr B 24 R) := HXR.out.congr fun i hi => by rw [HRR.out]; simp [hi]
      have HZR : Hid (BBlk wr (B + 1 + 1) 24 noB) := HL.out.blk HZ.out (by omega)
      have HBE : Hid (Below w.heap.size w wr) := HBW.out.trans (HL.out.to_below HBW.out.size (fun b hb => by have := HB.out; omega))
      go_wp2_with (with_reducible refine wpList_here' ?_; first | (refine wpList_load_mid rfl 64 _ rfl B 0 rfl (bcells 24 R) _ HXE.out.all Try.underlying64 rfl (by rw [bcells_len]; exact info_set) ?_) | (refine wpList_store_mid rfl 64 _ _ rfl (B + 1 + 1) 0 (bcells 24 R).toArray rfl rfl (by rw [bcells_size]; exact HZR.out.there 0 24 (by omega)) (by rw [bcells_size]; exact info_set) (bcells_one _ _) ?_; dsimp only [Act.put]))
      obtain rfl : FF = Try.f68 := HFF.out
      refine bodyPost_ret (results_row (k := 4) (t := 64) (b := B + 1 + 1) Try.results68 rfl (load_set (HZR.out.put R))) rfl ?_
      exact ⟨by rw [HRR.out], Below.setCells (by have := HB.out; omega) _ _ HBE.out⟩
end Go.Proofs.Ytdhkkabcgehjpaa
