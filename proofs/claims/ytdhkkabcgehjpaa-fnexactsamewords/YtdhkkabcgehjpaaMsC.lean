/-
  A machine as a value: (machine).mayEnd, (machine).moveBy.
-/
import Derived.Test.YtdhkkabcgehjpaaMsB
namespace Go.Proofs.Ytdhkkabcgehjpaa
open Go.RowKit

/-- the move of one label -/
abbrev mvF (A : Nat → Bool) : Value := .func (.func 62) #[.agg (bcells 576 A).toArray] #[]
/-- a machine's cells: four moves, 24 ends -/
def mcells (A : Nat → Nat → Bool) (q : Nat → Bool) : List Value := ((List.range 4).map fun i => mvF (A i)) ++ bcells 24 q
abbrev mval (A : Nat → Nat → Bool) (q : Nat → Bool) : Value := .agg (mcells A q).toArray
theorem mcells_len (A : Nat → Nat → Bool) (q : Nat → Bool) : (mcells A q).length = 28 := by simp [mcells, bcells]
theorem mcells_size (A : Nat → Nat → Bool) (q : Nat → Bool) : (mcells A q).toArray.size = 28 := by simp [mcells_len]
theorem mcells_move {A : Nat → Nat → Bool} {q : Nat → Bool} {i : Nat} (h : i < 4) : (mcells A q)[i]? = some (mvF (A i)) := by
  unfold mcells
  rw [List.getElem?_append_left (by simp; omega)]
  simp [h]
theorem mcells_end {A : Nat → Nat → Bool} {q : Nat → Bool} {i : Nat} (h : i < 24) : (mcells A q)[4 + i]? = some (.bool (q i)) := by
  unfold mcells
  rw [List.getElem?_append_right (by simp)]
  simp [bcells, h]
theorem mcells_one (A : Nat → Nat → Bool) (q : Nat → Bool) : (mcells A q).toArray.all (·.oneCell') = true := by
  simp [mcells, bcells, Value.oneCell']
/-- a block that holds a machine -/
def MBlk (w : World) (b : Nat) (A : Nat → Nat → Bool) (q : Nat → Bool) : Prop := Blk w b 28 (fun i => (mcells A q).getD i (.bool false))
theorem MBlk.new (w : World) (b : Nat) (hb : b = w.heap.size) (A : Nat → Nat → Bool) (q : Nat → Bool) (T : TypeId) : MBlk (w.alloc (.cells (mcells A q).toArray T)) b A q := by
  have := blk_new w (mcells A q).toArray T (fun i => (mcells A q).getD i (.bool false)) (fun i hi => by
    rw [mcells_size] at hi
    have hi' : i < (mcells A q).length := by rw [mcells_len]; exact hi
    simp [List.getD, hi'])
  rw [mcells_size] at this
  rw [hb]; exact this
theorem MBlk.of {w w' : World} {b : Nat} {A : Nat → Nat → Bool} {q : Nat → Bool} (h : MBlk w b A q) (e : w'.heap[b]? = w.heap[b]?) : MBlk w' b A q := Blk.of_block h e
theorem MBlk.lt {w : World} {b : Nat} {A : Nat → Nat → Bool} {q : Nat → Bool} (h : MBlk w b A q) : b < w.heap.size := Blk.lt h
theorem MBlk.move {w : World} {b i : Nat} {A : Nat → Nat → Bool} {q : Nat → Bool} (h : MBlk w b A q) (hi : i < 4) : w.cell? ⟨b, i, none⟩ = some (mvF (A i)) := by
  have := Blk.cell h (i := i) (by omega)
  rw [this, List.getD, mcells_move hi]; rfl
theorem MBlk.end {w : World} {b i : Nat} {A : Nat → Nat → Bool} {q : Nat → Bool} (h : MBlk w b A q) (hi : i < 24) : w.cell? ⟨b, 4 + i, none⟩ = some (.bool (q i)) := by
  have := Blk.cell h (i := 4 + i) (by omega)
  rw [this, List.getD, mcells_end hi]; rfl
theorem MBlk.range {w : World} {b : Nat} {A : Nat → Nat → Bool} {q : Nat → Bool} (h : MBlk w b A q) : w.rangeAt b 0 (mcells A q) := by
  intro j v hv
  have hj : j < 28 := by have := (List.getElem?_eq_some_iff.1 hv).1; rwa [mcells_len] at this
  rw [Nat.zero_add]
  have := Blk.cell h hj
  rw [this]; simp [List.getD, hv]
theorem MBlk.there {w : World} {b : Nat} {A : Nat → Nat → Bool} {q : Nat → Bool} (h : MBlk w b A q) : w.there b 0 28 := by
  intro j hj
  exact ⟨by rw [Nat.zero_add, Blk.cell h hj]; rfl, Blk.frozen h _⟩
theorem info_mac : (Try.prog.info? 66).map (·.size) = some 28 := by kernel_rfl
theorem load_mac {w : World} {b : Nat} {A : Nat → Nat → Bool} {q : Nat → Bool} (h : MBlk w b A q) : (loadVar 66 ⟨b, 0, none⟩).run Try.prog w = .ok (mval A q) w :=
  run_loadVar_mid w b 0 66 (mcells A q) _ h.range Try.underlying66 rfl (by rw [mcells_len]; exact info_mac)

/-- whether one of the first k states of a set is an end -/
def endTo (q f : Nat → Bool) (k : Nat) : Bool := (List.range k).any fun i => f i && q i
theorem endTo_succ (q f : Nat → Bool) (k : Nat) : endTo q f (k + 1) = (endTo q f k || (f k && q k)) := by simp [endTo, List.range_succ]
theorem endTo_yes {q f : Nat → Bool} {k n : Nat} (hk : k < n) (h : (f k && q k) = true) : endTo q f n = true := List.any_eq_true.2 ⟨k, List.mem_range.2 hk, h⟩

set_option maxHeartbeats 2000000 in
set_option maxRecDepth 100000 in
theorem mayEnd_any (A : Nat → Nat → Bool) (q f : Nat → Bool) (r : Bool) (w : World) (hr : r = endTo q f 24) : Calls Try.prog 36 #[mval A q, sv f] w fun e w' => e = .returned (.bool r) ∧ Hid (Below w.heap.size w w') := by
  have HR : Hid (r = endTo q f 24) := hr
  clear hr
  obtain ⟨cm, HCM⟩ : ∃ cf, Hid (cf = (mcells A q).toArray) := ⟨_, rfl⟩
  obtain ⟨cf, HCF⟩ : ∃ cf, Hid (cf = (bcells 24 f).toArray) := ⟨_, rfl⟩
  have hm : cm.size = 28 := by rw [HCM.out]; exact mcells_size A q
  have hf : cf.size = 24 := by rw [HCF.out]; simp [bcells]
  unfold sv mval
  rw [← HCM.out, ← HCF.out]
  obtain ⟨B, HB⟩ : ∃ B, Hid (B = w.heap.size) := ⟨_, rfl⟩
  obtain ⟨W, HW⟩ : ∃ W, Hid (W = (w.alloc (.cells cm 66)).alloc (.cells cf 64)) := ⟨_, rfl⟩
  have HBW : Hid (Below w.heap.size w W) := by rw [HW.out]; exact below2 w _ _
  have HX : Hid (MBlk W B A q) := by rw [HW.out, HCM.out]; exact Blk.alloc (MBlk.new w B HB.out A q _) _
  have HY : Hid (BBlk W (B + 1) 24 f) := by rw [HW.out, HCF.out]; exact BBlk.new _ (B + 1) (by rw [HB.out]; simp) 24 f _
  go_enter Try.func36, Try.ntmps36
  go_upto_region 1 with fail
  rw [← HB.out, ← HW.out]
  clear HW
  go_wp2_with (with_reducible refine wpList_here' ?_; refine wpList_load_mid rfl 64 _ rfl (B + 1) 0 rfl (bcells 24 f) _ HY.out.all Try.underlying64 rfl (by rw [bcells_len]; exact info_set) ?_)
  rw [← HCF.out]
  go_loop [8] (fun i => ∃ k : Nat, i = .int .i64 k ∧ k ≤ 24 ∧ Hid (endTo q f k = false)) (fun i => 24 - (intOf i).toNat)
  case atStart => exact ⟨0, rfl, by omega, rfl⟩
  case round =>
    obtain ⟨k, rfl, hk, HE⟩ := hrel
    by_cases hlt : k < 24
    · have hlt1 : (k : Int) < 24 := by omega
      have hlt0 : (0 : Int) ≤ (k : Int) := by omega
      obtain ⟨y, HYY⟩ : ∃ y, Hid (y = f k) := ⟨_, rfl⟩
      obtain ⟨x, HXX⟩ : ∃ y, Hid (y = q k) := ⟨_, rfl⟩
      have hix : ∀ w, (Instr.index 64 (.agg cf) (.int .i64 (k : Int))).run Try.prog w = .ok (.bool y) w := fun w => by rw [HCF.out, HYY.out]; exact index_set f hlt w
      have c0 := HX.out.end hlt
      rw [← HXX.out] at c0
      have HST : Hid (endTo q f (k + 1) = (y && x)) := by show _ = _; rw [endTo_succ, HE.out, HYY.out, HXX.out, Bool.false_or]
      have HYES : Hid ((y && x) = true → r = true) := fun h => by rw [HR.out]; exact endTo_yes hlt (by rw [← HYY.out, ← HXX.out]; exact h)
      rcases Bool.eq_false_or_eq_true y with hy | hy
      · subst hy
        rcases Bool.eq_false_or_eq_true x with hx | hx
        · subst hx
          go_wp2
          go_ret
          exact ⟨by rw [HYES.out rfl]; rfl, HBW⟩
        · subst hx
          go_wp2
          go_roundw
          case rel => exact ⟨k + 1, by go_num, by omega, HST⟩
          case measure => simp [intOf]; omega
      · subst hy
        go_wp2
        go_roundw
        case rel => exact ⟨k + 1, by go_num, by omega, HST⟩
        case measure => simp [intOf]; omega
    · obtain rfl : k = 24 := by omega
      go_wp2
      go_ret
      exact ⟨by rw [HR.out, HE.out]; rfl, HBW⟩

set_option maxHeartbeats 1000000 in
set_option maxRecDepth 100000 in
theorem moveBy_any (A : Nat → Nat → Bool) (q : Nat → Bool) (i : Nat) (w : World) (hi : i < 4) : Calls Try.prog 35 #[mval A q, .int .u8 ((97 + i : Nat) : Int)] w fun e w' => e = .returned (mvF (A i)) ∧ Hid (Below w.heap.size w w') := by
  obtain ⟨cm, HCM⟩ : ∃ cf, Hid (cf = (mcells A q).toArray) := ⟨_, rfl⟩
  have hm : cm.size = 28 := by rw [HCM.out]; exact mcells_size A q
  obtain ⟨x, HXX⟩ : ∃ x, Hid (x = mvF (A i)) := ⟨_, rfl⟩
  obtain ⟨c, HC⟩ : ∃ c : Int, Hid (c = ((97 + i : Nat) : Int)) := ⟨_, rfl⟩
  have hw : IntKind.u8.wrap (c - 97) = (i : Int) := by rw [HC.out, IntKind.wrap_u8]; omega
  have hi0 : (0 : Int) ≤ (i : Int) := by omega
  have hi1 : (i : Int) < 4 := by omega
  unfold mval
  rw [← HCM.out, ← HXX.out, ← HC.out]
  obtain ⟨B, HB⟩ : ∃ B, Hid (B = w.heap.size) := ⟨_, rfl⟩
  obtain ⟨W, HW⟩ : ∃ W, Hid (W = w.alloc (.cells cm 66)) := ⟨_, rfl⟩
  have HBW : Hid (Below w.heap.size w W) := by rw [HW.out]; exact below1 w _
  have HX : Hid (MBlk W B A q) := by rw [HW.out, HCM.out]; exact MBlk.new w B HB.out A q _
  have c0 := HX.out.move hi
  rw [← HXX.out] at c0
  go_enter Try.func35, Try.ntmps35
  go_upto_region 1 with fail
  rw [← HB.out, ← HW.out]
  clear HW
  go_wp2
  go_ret
  exact ⟨rfl, HBW⟩
end Go.Proofs.Ytdhkkabcgehjpaa
