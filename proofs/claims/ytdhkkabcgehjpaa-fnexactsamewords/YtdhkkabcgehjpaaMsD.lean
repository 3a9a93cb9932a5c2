/-
  A machine of an automaton: impl.machineOf.
-/
import Derived.Test.YtdhkkabcgehjpaaMsC
import Derived.Test.YtdhkkabcgehjpaaNOk
import Derived.Test.YtdhkkabcgehjpaaSetC
import Derived.Laws.IdiomCopy
import Derived.Deep.RegionHeld3
namespace Go.Proofs.Ytdhkkabcgehjpaa
open Go.RowKit

theorem bcells_extract (M : Nat → Bool) {k : Nat} (hk : k < 4) : (bcells 2304 M).toArray.extract (k * 576) (k * 576 + 576) = (bcells 576 (fun x => M (k * 576 + x))).toArray := by
  apply Array.ext
  · simp [bcells]; omega
  · intro i h1 h2
    simp [bcells]
theorem index_m4 (M : Nat → Bool) {k : Nat} (hk : k < 4) (w : World) : (Instr.index 102 (.agg (bcells 2304 M).toArray) (.int .i64 (k : Int))).run Try.prog w = .ok (.agg (bcells 576 (fun x => M (k * 576 + x))).toArray) w := by
  rw [← bcells_extract M hk]
  generalize (bcells 2304 M).toArray = c
  have h0 : (0 : Int) ≤ (k : Int) := by omega
  simp [Instr.index, go_sem, hk]
set_option maxRecDepth 100000 in
theorem zero_m4 : Try.zeroCells102 = (bcells 2304 noB).toArray := by kernel_rfl
set_option maxRecDepth 100000 in
theorem zero_m1 : Try.zeroCells101 = (bcells 576 noB).toArray := by kernel_rfl
theorem info_m4 : (Try.prog.info? 102).map (·.size) = some 2304 := by kernel_rfl
theorem info_m1 : (Try.prog.info? 101).map (·.size) = some 576 := by kernel_rfl
/-- where an arc stands among all -/
def idxE (e : Ed) : Nat := (e.2.1 - 97).toNat * 576 + e.1.toNat * 24 + e.2.2.toNat
/-- the first k arcs, as a matrix for each label -/
def matTo (l : List Ed) (k : Nat) : Nat → Bool := fun x => (l.take k).any fun e => decide (idxE e = x)
theorem matTo_succ {l : List Ed} {k : Nat} (h : k < l.length) (x : Nat) : matTo l (k + 1) x = (matTo l k x || decide (idxE (eat l k) = x)) := by
  unfold matTo
  rw [take_snocE l h, List.any_append]
  simp
/-- the zero machine's cells -/
def mzero : List Value := [.nilFunc, .nilFunc, .nilFunc, .nilFunc, .bool false, .bool false, .bool false, .bool false, .bool false, .bool false, .bool false, .bool false, .bool false, .bool false, .bool false, .bool false, .bool false, .bool false, .bool false, .bool false, .bool false, .bool false, .bool false, .bool false, .bool false, .bool false, .bool false, .bool false]
theorem mzero_len : mzero.length = 28 := rfl
theorem mzero_size : mzero.toArray.size = 28 := rfl
/-- a block that holds 28 cells -/
def CBlk (w : World) (b : Nat) (c : List Value) : Prop := c.length = 28 ∧ Blk w b 28 (fun i => c.getD i (.bool false))
theorem CBlk.new (w : World) (b : Nat) (hb : b = w.heap.size) (c : List Value) (hc : c.length = 28) (T : TypeId) : CBlk (w.alloc (.cells c.toArray T)) b c := by
  refine ⟨hc, ?_⟩
  have := blk_new w c.toArray T (fun i => c.getD i (.bool false)) (fun i hi => by simp at hi; simp [List.getD, hi])
  have e : c.toArray.size = 28 := by simpa using hc
  rw [e] at this
  rw [hb]; exact this
theorem CBlk.of {w w' : World} {b : Nat} {c : List Value} (h : CBlk w b c) (e : w'.heap[b]? = w.heap[b]?) : CBlk w' b c := ⟨h.1, Blk.of_block h.2 e⟩
theorem CBlk.lt {w : World} {b : Nat} {c : List Value} (h : CBlk w b c) : b < w.heap.size := Blk.lt h.2
theorem CBlk.range {w : World} {b : Nat} {c : List Value} (h : CBlk w b c) : w.rangeAt b 0 c := by
  intro j v hv
  have hj : j < 28 := by have := (List.getElem?_eq_some_iff.1 hv).1; rwa [h.1] at this
  rw [Nat.zero_add]
  have := Blk.cell h.2 hj
  rw [this]; simp [List.getD, hv]
theorem CBlk.there {w : World} {b : Nat} {c : List Value} (h : CBlk w b c) : w.there b 0 28 := by
  intro j hj
  exact ⟨by rw [Nat.zero_add, Blk.cell h.2 hj]; rfl, Blk.frozen h.2 _⟩
theorem CBlk.put {w : World} {b : Nat} {c : List Value} (h : CBlk w b c) (d : List Value) (hd : d.length = 28) : CBlk (w.setCells b 0 d) b d := by
  refine ⟨hd, (Blk.setRange d 0 h.2 (by omega)).congr fun i hi => ?_⟩
  rw [if_pos ⟨Nat.zero_le _, by omega⟩]
  have hi' : i < d.length := by omega
  simp [List.getD, hi']
theorem load_c {w : World} {b : Nat} {c : List Value} (h : CBlk w b c) : (loadVar 66 ⟨b, 0, none⟩).run Try.prog w = .ok (.agg c.toArray) w :=
  run_loadVar_mid w b 0 66 c _ h.range Try.underlying66 rfl (by rw [h.1]; exact info_mac)
theorem mzero_one : mzero.toArray.all (·.oneCell') = true := by kernel_rfl

set_option maxHeartbeats 2000000 in
set_option maxRecDepth 100000 in
theorem machineOf_no (lo hi : Nat) (s : Int) (a : Option Addr) (n cap : Nat) (l : List Ed) (eb : Option Addr) (em ec : Nat) (w : World) (ha : EdgesIn lo hi w a l) (hh : hi ≤ w.heap.size) (hn : l.length = n) (hm : n ≤ 1048576) (hok : okN s l em = false) :
    Calls Try.prog 32 #[nv s a n cap eb em ec] w fun e w' => (∃ v, e = .returned (.tuple #[.agg v, .bool false]) ∧ Hid (v = mzero.toArray)) ∧ Hid (Below w.heap.size w w') := by
  have HC : Hid (∀ w0, Below w.heap.size w w0 → Calls Try.prog 61 #[nv s a n cap eb em ec] w0 fun e w' => e = .returned (.bool false) ∧ Hid (Below w0.heap.size w0 w')) := fun w0 h => nfaOk_any lo hi s a n cap l eb em ec false w0 (ha.below h hh) (Nat.le_trans hh h.size) hn hm hok.symm
  clear ha hh hn hm hok
  obtain ⟨B, HB⟩ : ∃ B, Hid (B = w.heap.size) := ⟨_, rfl⟩
  obtain ⟨V, HV⟩ : ∃ V, Hid (V = ((w.alloc (.cells #[.int .i64 s, .slice a n cap, .slice eb em ec] 30)).alloc (.cells #[.nilFunc, .nilFunc, .nilFunc, .nilFunc, .bool false, .bool false, .bool false, .bool false, .bool false, .bool false, .bool false, .bool false, .bool false, .bool false, .bool false, .bool false, .bool false, .bool false, .bool false, .bool false, .bool false, .bool false, .bool false, .bool false, .bool false, .bool false, .bool false, .bool false] 66)).alloc (.cells #[.nilFunc, .nilFunc, .nilFunc, .nilFunc, .bool false, .bool false, .bool false, .bool false, .bool false, .bool false, .bool false, .bool false, .bool false, .bool false, .bool false, .bool false, .bool false, .bool false, .bool false, .bool false, .bool false, .bool false, .bool false, .bool false, .bool false, .bool false, .bool false, .bool false] 66)) := ⟨_, rfl⟩
  have HBV : Hid (Below w.heap.size w V) := by rw [HV.out]; exact below3 w _ _ _
  have HNV : Hid (Blk V B 3 (nf s a n cap eb em ec)) := by rw [HV.out]; exact ((blk_nf w B HB.out _ _ _ _ _ _ _ _).alloc _).alloc _
  have HRV : Hid (CBlk V (B + 1) mzero) := by rw [HV.out]; exact ⟨rfl, Blk.alloc (CBlk.new _ (B + 1) (by rw [HB.out]; simp) mzero rfl _).2 _⟩
  have HMV : Hid (CBlk V (B + 1 + 1) mzero) := by rw [HV.out]; exact CBlk.new _ (B + 1 + 1) (by rw [HB.out]; simp) mzero rfl _
  have HT : Hid ((((w.alloc (.cells #[.int .i64 s, .slice a n cap, .slice eb em ec] 30)).alloc (.cells #[.nilFunc, .nilFunc, .nilFunc, .nilFunc, .bool false, .bool false, .bool false, .bool false, .bool false, .bool false, .bool false, .bool false, .bool false, .bool false, .bool false, .bool false, .bool false, .bool false, .bool false, .bool false, .bool false, .bool false, .bool false, .bool false, .bool false, .bool false, .bool false, .bool false] 66)).alloc (.cells #[.nilFunc, .nilFunc, .nilFunc, .nilFunc, .bool false, .bool false, .bool false, .bool false, .bool false, .bool false, .bool false, .bool false, .bool false, .bool false, .bool false, .bool false, .bool false, .bool false, .bool false, .bool false, .bool false, .bool false, .bool false, .bool false, .bool false, .bool false, .bool false, .bool false] 66)).there (w.heap.size + 1 + 1) 0 28) := by
    have := HMV.out.there
    rw [HV.out, HB.out] at this; exact this
  obtain ⟨W, HW⟩ : ∃ W, Hid (W = V.setCells (B + 1 + 1) 0 mzero) := ⟨_, rfl⟩
  have HBW : Hid (Below w.heap.size w W) := by rw [HW.out]; exact Below.setCells (by have := HB.out; omega) _ _ HBV.out
  have HN0 : Hid (Blk W B 3 (nf s a n cap eb em ec)) := by rw [HW.out]; exact HNV.out.of_block (block_setCells (by omega) _ _ _)
  have HR : Hid (CBlk W (B + 1) mzero) := by rw [HW.out]; exact HRV.out.of (block_setCells (by omega) _ _ _)
  have HM : Hid (CBlk W (B + 1 + 1) mzero) := by rw [HW.out]; exact HMV.out.put mzero rfl
  go_enter Try.func32, Try.ntmps32
  obtain ⟨FF, HFF⟩ : ∃ F : Func, Hid (F = Try.f32) := ⟨_, rfl⟩
  rw [← HFF.out]
  go_upto_region 2 with (with_reducible refine wpList_here' ?_; refine wpList_store_mid rfl 66 _ _ rfl (w.heap.size + 1 + 1) 0 mzero.toArray rfl rfl (by rw [mzero_size]; exact HT.out) (by rw [mzero_size]; exact info_mac) mzero_one ?_; dsimp only [Act.put])
  rw [← HV.out, ← HB.out]
  first | rw [← HW.out] | (rw [show _ = W from HW.out.symm])
  clear HW HV HT HNV HRV HMV HBV
  obtain ⟨c0, c1, c2⟩ := nf_cells HN0.out
  go_wp2_with fail
  refine (HC.out _ HBW.out).mono ?_
  rintro e w1 ⟨rfl, HB1⟩
  have HR1 : Hid (CBlk w1 (B + 1) mzero) := HR.out.of (HB1.out.block _ HR.out.lt)
  have HM1 : Hid (CBlk w1 (B + 1 + 1) mzero) := HM.out.of (HB1.out.block _ HM.out.lt)
  have HBE1 : Hid (Below w.heap.size w w1) := HBW.out.trans (HB1.out.mono HBW.out.size)
  clear c0 c1 c2
  go_wp2_with (with_reducible refine wpList_here' ?_; first | (refine wpList_load_mid rfl 66 _ rfl (B + 1 + 1) 0 rfl mzero _ HM1.out.range Try.underlying66 rfl (by rw [mzero_len]; exact info_mac) ?_) | (refine wpList_store_mid rfl 66 _ _ rfl (B + 1) 0 mzero.toArray rfl rfl (by rw [mzero_size]; exact HR1.out.there) (by rw [mzero_size]; exact info_mac) mzero_one ?_; dsimp only [Act.put]))
  obtain rfl : FF = Try.f32 := HFF.out
  refine bodyPost_ret (results_row2 (k := 2) (m := 3) (t := 66) (b := B + 1) Try.results32 rfl rfl (load_c (HR1.out.put mzero rfl))) rfl ?_
  exact ⟨⟨_, rfl, rfl⟩, Below.setCells (by have := HB.out; omega) _ _ HBE1.out⟩
end Go.Proofs.Ytdhkkabcgehjpaa
