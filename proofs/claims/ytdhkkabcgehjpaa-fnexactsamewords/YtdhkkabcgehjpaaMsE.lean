/-
  A machine of a right automaton: impl.machineOf.
-/
import Derived.Test.YtdhkkabcgehjpaaMsD
import Derived.Laws.EntriesVeiled
namespace Go.Proofs.Ytdhkkabcgehjpaa
open Go.RowKit

/-- the arcs of each label, as a matrix -/
def arcM (l : List Ed) (i : Nat) : Nat → Bool := fun x => matTo l l.length (i * 576 + x)
/-- which states are ends -/
def endM (es : List Bool) : Nat → Bool := fun i => es.getD i false
theorem okE_nums {s : Int} {e : Ed} (hs : s ≤ 24) (h : okE s e = true) : ∃ f i t : Nat, e = ((f : Int), ((97 + i : Nat) : Int), (t : Int)) ∧ f < 24 ∧ i < 4 ∧ t < 24 := by
  obtain ⟨x, y, z⟩ := e
  unfold okE inV at h
  simp only [Bool.and_eq_true, decide_eq_true_eq] at h
  exact ⟨x.toNat, (y - 97).toNat, z.toNat, by refine Prod.ext ?_ (Prod.ext ?_ ?_) <;> simp <;> omega, by omega, by omega, by omega⟩
theorem idxE_num {f i t : Nat} : idxE ((f : Int), ((97 + i : Nat) : Int), (t : Int)) = i * 576 + f * 24 + t := by
  unfold idxE
  simp
  omega
theorem zero_put {w : World} {b : Nat} {T : TypeId} (hb : b = w.heap.size) : BBlk ((w.alloc (.cells Try.zeroCells102 T)).setCells b 0 Try.zeroCells102.toList) b 2304 noB := by
  have h := (BBlk.new w b hb 2304 noB T).put noB
  rw [zero_m4, List.toList_toArray]
  exact h
theorem zero_there {w : World} {T : TypeId} : (w.alloc (.cells Try.zeroCells102 T)).there w.heap.size 0 2304 := by
  rw [zero_m4]
  exact (BBlk.new w _ rfl 2304 noB T).there 0 2304 (by omega)
theorem zero_size4 : Try.zeroCells102.size = 2304 := by rw [zero_m4]; exact bcells_size _ _
theorem zero_one4 : Try.zeroCells102.all (·.oneCell') = true := by rw [zero_m4]; exact bcells_one _ _
theorem zero_there1 {w : World} {T : TypeId} : (w.alloc (.cells Try.zeroCells101 T)).there w.heap.size 0 576 := by
  rw [zero_m1]
  exact (BBlk.new w _ rfl 576 noB T).there 0 576 (by omega)
theorem zero_put1 {w : World} {b : Nat} {T : TypeId} (hb : b = w.heap.size) (f : Nat → Bool) : BBlk ((w.alloc (.cells Try.zeroCells101 T)).setCells b 0 (bcells 576 f)) b 576 f := by
  rw [zero_m1]
  exact (BBlk.new w b hb 576 noB T).put f
/-- the machine's cells while the first k moves are laid -/
def mpart (A : Nat → Nat → Bool) (k : Nat) : Nat → Value := fun x => if x < k then mvF (A x) else mzero.getD x (.bool false)
theorem mpart_low {A : Nat → Nat → Bool} {x : Nat} (h : x < 4) : mpart A 4 x = mvF (A x) := by unfold mpart; rw [if_pos h]
theorem mpart_high {A : Nat → Nat → Bool} {x : Nat} (h : x < 24) : mpart A 4 (4 + x) = .bool false := by
  unfold mpart
  rw [if_neg (by omega)]
  have e : mzero = List.replicate 4 .nilFunc ++ List.replicate 24 (.bool false) := rfl
  have e2 : (List.replicate 24 (Value.bool false))[4 + x - (List.replicate 4 Value.nilFunc).length]? = some (.bool false) := by rw [List.length_replicate, show 4 + x - 4 = x by omega, List.getElem?_replicate, if_pos h]
  rw [e, List.getD, List.getElem?_append_right (by simp), e2]
  rfl

set_option maxHeartbeats 4000000 in
set_option maxRecDepth 100000 in
theorem machineOf_yes (lo hi : Nat) (s : Int) (a : Option Addr) (n cap : Nat) (l : List Ed) (eb : Option Addr) (em ec : Nat) (es : List Bool) (w : World) (ha : EdgesIn lo hi w a l) (hbi : BlsIn lo hi w eb es) (hh : hi ≤ w.heap.size) (hn : l.length = n) (hje : es.length = em) (hm : n ≤ 1048576) (hok : okN s l em = true) :
    Calls Try.prog 32 #[nv s a n cap eb em ec] w fun e w' => (∃ v, e = .returned (.tuple #[.agg v, .bool true]) ∧ Hid (v = (mcells (arcM l) (endM es)).toArray)) ∧ Hid (Below w.heap.size w w') := by
  have HC : Hid (∀ w0, Below w.heap.size w w0 → Calls Try.prog 61 #[nv s a n cap eb em ec] w0 fun e w' => e = .returned (.bool true) ∧ Hid (Below w0.heap.size w0 w')) := fun w0 h => nfaOk_any lo hi s a n cap l eb em ec true w0 (ha.below h hh) (Nat.le_trans hh h.size) hn hm hok.symm
  have HA : Hid (EdgesIn lo hi w a l) := ha
  have HBI : Hid (BlsIn lo hi w eb es) := hbi
  have HH : Hid (hi ≤ w.heap.size) := hh
  have HN : Hid (l.length = n) := hn
  have HJE : Hid (es.length = em) := hje
  have HOK : Hid (okN s l em = true) := hok
  have hs24 := okN_size hok
  have hmf : ∀ (fn : Fn) (first cap : Array Value) (w : World), (Instr.makeFunc fn first cap).run Try.prog w = .ok (.func fn first cap) w := fun _ _ _ _ => rfl
  clear ha hbi hh hn hje hok
  obtain ⟨B, HB⟩ : ∃ B, Hid (B = w.heap.size) := ⟨_, rfl⟩
  obtain ⟨V, HV⟩ : ∃ V, Hid (V = ((w.alloc (.cells #[.int .i64 s, .slice a n cap, .slice eb em ec] 30)).alloc (.cells #[.nilFunc, .nilFunc, .nilFunc, .nilFunc, .bool false, .bool false, .bool false, .bool false, .bool false, .bool false, .bool false, .bool false, .bool false, .bool false, .bool false, .bool false, .bool false, .bool false, .bool false, .bool false, .bool false, .bool false, .bool false, .bool false, .bool false, .bool false, .bool false, .bool false] 66)).alloc (.cells #[.nilFunc, .nilFunc, .nilFunc, .nilFunc, .bool false, .bool false, .bool false, .bool false, .bool false, .bool false, .bool false, .bool false, .bool false, .bool false, .bool false, .bool false, .bool false, .bool false, .bool false, .bool false, .bool false, .bool false, .bool false, .bool false, .bool false, .bool false, .bool false, .bool false] 66)) := ⟨_, rfl⟩
  have HBV : Hid (Below w.heap.size w V) := by rw [HV.out]; exact below3 w _ _ _
  have HNV : Hid (Blk V B 3 (nf s a n cap eb em ec)) := by rw [HV.out]; exact ((blk_nf w B HB.out _ _ _ _ _ _ _ _).alloc _).alloc _
  have HRV : Hid (CBlk V (B + 1) mzero) := by rw [HV.out]; exact ⟨rfl, Blk.alloc (CBlk.new _ (B + 1) (by rw [HB.out]; simp) mzero rfl _).2 _⟩
  have HMV : Hid (CBlk V (B + 1 + 1) mzero) := by rw [HV.out]; exact CBlk.new _ (B + 1 + 1) (by rw [HB.out]; simp) mzero rfl _
  have HSV : Hid (V.heap.size = B + 3) := by rw [HV.out, HB.out]; show _ = _; simp
  have HT : Hid ((((w.alloc (.cells #[.int .i64 s, .slice a n cap, .slice eb em ec] 30)).alloc (.cells #[.nilFunc, .nilFunc, .nilFunc, .nilFunc, .bool false, .bool false, .bool false, .bool false, .bool false, .bool false, .bool false, .bool false, .bool false, .bool false, .bool false, .bool false, .bool false, .bool false, .bool false, .bool false, .bool false, .bool false, .bool false, .bool false, .bool false, .bool false, .bool false, .bool false] 66)).alloc (.cells #[.nilFunc, .nilFunc, .nilFunc, .nilFunc, .bool false, .bool false, .bool false, .bool false, .bool false, .bool false, .bool false, .bool false, .bool false, .bool false, .bool false, .bool false, .bool false, .bool false, .bool false, .bool false, .bool false, .bool false, .bool false, .bool false, .bool false, .bool false, .bool false, .bool false] 66)).there (w.heap.size + 1 + 1) 0 28) := by
    have := HMV.out.there
    rw [HV.out, HB.out] at this; exact this
  obtain ⟨W, HW⟩ : ∃ W, Hid (W = V.setCells (B + 1 + 1) 0 mzero) := ⟨_, rfl⟩
  have HBW : Hid (Below w.heap.size w W) := by rw [HW.out]; exact Below.setCells (by have := HB.out; omega) _ _ HBV.out
  have HN0 : Hid (Blk W B 3 (nf s a n cap eb em ec)) := by rw [HW.out]; exact HNV.out.of_block (block_setCells (by omega) _ _ _)
  have HR : Hid (CBlk W (B + 1) mzero) := by rw [HW.out]; exact HRV.out.of (block_setCells (by omega) _ _ _)
  have HM : Hid (CBlk W (B + 1 + 1) mzero) := by rw [HW.out]; exact HMV.out.put mzero rfl
  have HSW : Hid (W.heap.size = B + 3) := by rw [HW.out]; show _ = _; rw [size_setCells, HSV.out]
  go_enter Try.func32, Try.ntmps32
  obtain ⟨FF, HFF⟩ : ∃ F : Func, Hid (F = Try.f32) := ⟨_, rfl⟩
  rw [← HFF.out]
  go_upto_region 2 with (with_reducible refine wpList_here' ?_; refine wpList_store_mid rfl 66 _ _ rfl (w.heap.size + 1 + 1) 0 mzero.toArray rfl rfl (by rw [mzero_size]; exact HT.out) (by rw [mzero_size]; exact info_mac) mzero_one ?_; dsimp only [Act.put])
  rw [← HV.out, ← HB.out]
  first | rw [← HW.out] | (rw [show _ = W from HW.out.symm])
  clear HW HV HT HNV HRV HMV HBV HSV
  obtain ⟨c0, c1, c2⟩ := nf_cells HN0.out
  go_wp2_with fail
  refine (HC.out _ HBW.out).mono ?_
  rintro e w1 ⟨rfl, HB1⟩
  obtain ⟨P, HPP⟩ : ∃ P, Hid (P = w1.heap.size) := ⟨_, rfl⟩
  have HPB : Hid (B + 3 ≤ P) := by have := HB1.out.size; have := HSW.out; have := HPP.out; show _ ≤ _; omega
  obtain ⟨U, HUU⟩ : ∃ U, Hid (U = (w1.alloc (.cells Try.zeroCells102 102)).setCells P 0 Try.zeroCells102.toList) := ⟨_, rfl⟩
  have HBU1 : Hid (Below W.heap.size W U) := by rw [HUU.out]; exact Below.setCells (by have := HPP.out; have := HB1.out.size; omega) _ _ (HB1.out.trans ((below1 w1 _).mono HB1.out.size))
  have HBU : Hid (Below w.heap.size w U) := HBW.out.trans (HBU1.out.mono HBW.out.size)
  have HNU : Hid (Blk U B 3 (nf s a n cap eb em ec)) := HN0.out.of_block (HBU1.out.block _ HN0.out.lt)
  have HRU : Hid (CBlk U (B + 1) mzero) := HR.out.of (HBU1.out.block _ HR.out.lt)
  have HMU : Hid (CBlk U (B + 1 + 1) mzero) := HM.out.of (HBU1.out.block _ HM.out.lt)
  have HXU : Hid (BBlk U P 2304 noB) := by rw [HUU.out]; exact zero_put HPP.out
  have HSU : Hid (U.heap.size = P + 1) := by rw [HUU.out]; show _ = _; rw [size_setCells, HPP.out]; simp
  clear c0 c1 c2
  go_upto_region 4 with fail
  go_upto_region 5 with (with_reducible refine wpList_here' ?_; refine wpList_store_mid rfl 102 _ _ rfl w1.heap.size 0 Try.zeroCells102 rfl rfl (by rw [zero_size4]; exact zero_there) (by rw [zero_size4]; exact info_m4) zero_one4 ?_; dsimp only [Act.put])
  rw [← HPP.out]
  first | rw [← HUU.out] | (rw [show _ = U from HUU.out.symm])
  clear HUU HN0 HR HM HPP HB1
  obtain ⟨c0, c1, c2⟩ := nf_cells HNU.out
  go_wp2
  clear c0 c1 c2
  go_loopw [19] (fun i wr => ∃ k : Nat, i = .int .i64 k ∧ k ≤ n ∧ Hid (BBlk wr P 2304 (matTo l k)) ∧ Hid (KeptP (fun c => P ≤ c) U wr)) (fun i _ => n - (intOf i).toNat)
  case atStart => exact ⟨0, rfl, by omega, HXU.out.congr (fun i _ => by simp [matTo, noB]), KeptP.refl _ _⟩
  case round =>
    obtain ⟨k, rfl, hk, HX, HL⟩ := hrel
    have HBR : Hid (Below w.heap.size w wr) := HBU.out.trans (HL.out.to_below HBU.out.size (fun c hc => by have := HB.out; have := HPB.out; omega))
    have HSR : Hid (P + 1 ≤ wr.heap.size) := by have := HL.out.size; have := HSU.out; show _ ≤ _; omega
    by_cases hlt : k < n
    · have hlt1 : (k : Int) < (n : Int) := by omega
      have hlt0 : (0 : Int) ≤ (k : Int) := by omega
      have hkl : k < l.length := by rw [HN.out]; exact hlt
      obtain ⟨b, o, rfl, _, _, hx⟩ := (HA.out.below HBR.out HH.out).edge (k := k) hkl
      obtain ⟨f, i, t, hxe, hf, hi4, ht⟩ := okE_nums hs24.2.1 (okN_arc HOK.out hkl)
      obtain ⟨Z, HZ⟩ : ∃ Z, Hid (Z = i * 576 + f * 24 + t) := ⟨_, rfl⟩
      have HST : Hid (∀ x, x < 2304 → (if x = Z then true else matTo l k x) = matTo l (k + 1) x) := by
        intro x _
        rw [matTo_succ hkl, hxe, idxE_num, ← HZ.out]
        by_cases e : x = Z
        · subst e; simp
        · simp [e, Ne.symm e]
      rw [hxe] at hx
      obtain ⟨p0, p1, p2⟩ := hx
      obtain ⟨c, HCC⟩ : ∃ c : Int, Hid (c = ((97 + i : Nat) : Int)) := ⟨_, rfl⟩
      dsimp only at p0 p1 p2
      rw [← HCC.out] at p1
      have hw : IntKind.u8.wrap (c - 97) = (i : Int) := by rw [HCC.out, IntKind.wrap_u8]; omega
      clear hxe
      obtain ⟨D, HD⟩ : ∃ D, Hid (D = wr.heap.size) := ⟨_, rfl⟩
      obtain ⟨Y, HY⟩ : ∃ V, Hid (V = wr.alloc (.cells #[.int .i64 (f : Int), .int .u8 c, .int .i64 (t : Int)] 58)) := ⟨_, rfl⟩
      have HBY : Hid (Below wr.heap.size wr Y) := by rw [HY.out]; exact below1 _ _
      obtain ⟨e0, e1, e2⟩ := box_cells wr (.int .i64 (f : Int)) (.int .u8 c) (.int .i64 (t : Int)) 58 D HD.out
      rw [← HY.out] at e0 e1 e2
      have HXY : Hid (BBlk Y P 2304 (matTo l k)) := HX.out.of (HBY.out.block _ HX.out.lt)
      have HLY : Hid (KeptP (fun c => P ≤ c) U Y) := HL.out.trans (KeptP.of_below HBY.out (fun k hk _ => hk))
      have hZ : i * 576 + f * 24 + t < 2304 := by omega
      have ct := HXY.out.get hZ
      have ft := Blk.frozen HXY.out (i * 576 + f * 24 + t)
      have hi0 : (0 : Int) ≤ (i : Int) := by omega
      have hi1 : (i : Int) < 4 := by omega
      have hf0 : (0 : Int) ≤ (f : Int) := by omega
      have hf1 : (f : Int) < 24 := by omega
      have ht0 : (0 : Int) ≤ (t : Int) := by omega
      have ht1 : (t : Int) < 24 := by omega
      go_upto_region 8 with fail
      rw [← HD.out, ← HY.out]
      clear p0 p1 p2
      go_region
      go_wp2
      go_roundw
      case rel =>
        refine ⟨k + 1, by go_num, by omega, ?_, ?_⟩
        · have h1 := HXY.out.set1 (k := i * 576 + f * 24 + t) hZ true
          exact h1.congr (fun x hx => by rw [← HST.out x hx, HZ.out])
        · exact (HLY.out.trans (KeptP.of_below ((Below.refl _ _).drew) (fun k hk _ => hk))).setCell (by show P ≤ P; omega) _
      case measure => simp [intOf]; omega
    · obtain rfl : k = n := by omega
      obtain ⟨M, HMM⟩ : ∃ M : Nat → Bool, Hid (M = matTo l k) := ⟨_, rfl⟩
      rw [← HMM.out] at HX
      obtain ⟨A, HAA⟩ : ∃ A : Nat → Nat → Bool, Hid (A = arcM l) := ⟨_, rfl⟩
      have HAM : Hid (∀ i, (fun x => M (i * 576 + x)) = A i) := fun i => by rw [HAA.out, HMM.out]; unfold arcM; rw [HN.out]
      obtain ⟨cM, HCM⟩ : ∃ c, Hid (c = (bcells 2304 M).toArray) := ⟨_, rfl⟩
      have hcM : cM.size = 2304 := by rw [HCM.out]; exact bcells_size _ _
      have HML : Hid (CBlk wr (B + 1 + 1) mzero) := HMU.out.of (HL.out.block _ (by have := HSU.out; have := HPB.out; omega) (by have := HPB.out; omega))
      have HRL : Hid (CBlk wr (B + 1) mzero) := HRU.out.of (HL.out.block _ (by have := HSU.out; have := HPB.out; omega) (by have := HPB.out; omega))
      have HNL : Hid (Blk wr B 3 (nf s a k cap eb em ec)) := HL.out.blk HNU.out (by have := HPB.out; omega)
      go_wp2_with (with_reducible refine wpList_here' ?_; refine wpList_load_mid rfl 102 _ rfl P 0 rfl (bcells 2304 M) _ HX.out.all Try.underlying102 rfl (by rw [bcells_len]; exact info_m4) ?_)
      rw [← HCM.out]
      obtain ⟨WL, HWL⟩ : ∃ WL, Hid (WL = wr) := ⟨_, rfl⟩
      have HBL : Hid (Below w.heap.size w WL) := by rw [HWL.out]; exact HBR.out
      have HSL : Hid (P + 1 ≤ WL.heap.size) := by rw [HWL.out]; exact HSR.out
      have HRW : Hid (CBlk WL (B + 1) mzero) := by rw [HWL.out]; exact HRL.out
      have HNW : Hid (Blk WL B 3 (nf s a k cap eb em ec)) := by rw [HWL.out]; exact HNL.out
      go_loopw [35] (fun i wr => ∃ j : Nat, i = .int .i64 j ∧ j ≤ 4 ∧ Hid (Blk wr (B + 1 + 1) 28 (mpart A j)) ∧ Hid (KeptP (fun c => c = B + 1 + 1 ∨ P < c) WL wr)) (fun i _ => 4 - (intOf i).toNat)
      case atStart =>
        exact ⟨0, rfl, by omega, HML.out.2.congr (fun i _ => by simp [mpart]), by rw [HWL.out]; exact KeptP.refl _ _⟩
      case round =>
        obtain ⟨j, rfl, hj, HMJ, HLJ⟩ := hrel
        have HBJ : Hid (Below w.heap.size w wr) := HBL.out.trans (HLJ.out.to_below HBL.out.size (fun c hc => by have := HB.out; have := HPB.out; omega))
        have HSJ : Hid (P + 1 ≤ wr.heap.size) := by have := HLJ.out.size; have := HSL.out; show _ ≤ _; omega
        by_cases hj4 : j < 4
        · have hj1 : (j : Int) < 4 := by omega
          have hj0 : (0 : Int) ≤ (j : Int) := by omega
          obtain ⟨cJ, HCJ⟩ : ∃ c, Hid (c = (bcells 576 (A j)).toArray) := ⟨_, rfl⟩
          have hcJ : cJ.size = 576 := by rw [HCJ.out]; exact bcells_size _ _
          have hix : ∀ w, (Instr.index 102 (.agg cM) (.int .i64 (j : Int))).run Try.prog w = .ok (.agg cJ) w := fun w => by
            rw [HCM.out, HCJ.out, ← HAM.out j]; exact index_m4 M hj4 w
          obtain ⟨E, HE⟩ : ∃ E, Hid (E = wr.heap.size) := ⟨_, rfl⟩
          obtain ⟨Y, HY⟩ : ∃ V, Hid (V = (wr.alloc (.cells Try.zeroCells101 101)).setCells E 0 cJ.toList) := ⟨_, rfl⟩
          have HBY : Hid (Below wr.heap.size wr Y) := by rw [HY.out]; exact Below.setCells (by have := HE.out; omega) _ _ (below1 wr _)
          have HXE : Hid (BBlk Y E 576 (A j)) := by rw [HY.out, HCJ.out, List.toList_toArray]; exact zero_put1 HE.out (A j)
          have HMY : Hid (Blk Y (B + 1 + 1) 28 (mpart A j)) := HMJ.out.of_block (HBY.out.block _ HMJ.out.lt)
          have HLY : Hid (KeptP (fun c => c = B + 1 + 1 ∨ P < c) WL Y) := HLJ.out.trans (KeptP.of_below HBY.out (fun k hk _ => hk))
          have h1J : cJ.all (·.oneCell') = true := by rw [HCJ.out]; exact bcells_one _ _
          go_upto_region 12 with fail
          go_upto_region 13 with (with_reducible refine wpList_here' ?_; refine wpList_store_mid rfl 101 _ _ rfl wr.heap.size 0 cJ rfl rfl (by rw [hcJ]; exact zero_there1) (by rw [hcJ]; exact info_m1) h1J ?_; dsimp only [Act.put])
          rw [← HE.out]
          first | rw [← HY.out] | (rw [show _ = Y from HY.out.symm])
          clear hix
          have cj := Blk.cell HMY.out (i := j) (by omega)
          have fj := Blk.frozen HMY.out j
          have HRJ : Hid (Y.rangeAt E 0 (bcells 576 (A j))) := HXE.out.all
          go_wp2_with (with_reducible refine wpList_here' ?_; refine wpList_load_mid rfl 101 _ rfl E 0 rfl (bcells 576 (A j)) _ HRJ.out Try.underlying101 rfl (by rw [bcells_len]; exact info_m1) ?_)
          go_roundw
          case rel =>
            refine ⟨j + 1, by go_num, by omega, ?_, HLY.out.setCell (.inl rfl) _⟩
            refine (Blk.set HMY.out j (by omega) _).congr fun i hi => ?_
            unfold mpart
            by_cases e : i = j
            · subst e; simp
            · by_cases h2 : i < j
              · simp [e, h2, show i < j + 1 by omega]
              · simp [e, h2, show ¬ i < j + 1 by omega]
          case measure => simp [intOf]; omega
        · obtain rfl : j = 4 := by omega
          have HNJ : Hid (Blk wr B 3 (nf s a k cap eb em ec)) := HLJ.out.blk HNW.out (by have := HPB.out; omega)
          have HRJ : Hid (CBlk wr (B + 1) mzero) := HRW.out.of (HLJ.out.block _ HRW.out.lt (by have := HPB.out; omega))
          have hem : 1 ≤ em ∧ em ≤ 24 := by omega
          obtain ⟨be, oe, rfl, hce⟩ : ∃ be oe, eb = some ⟨be, oe, none⟩ ∧ ∀ i, i < em → wr.cell? ⟨be, oe + i, none⟩ = some (.bool (es.getD i false)) := by
            rcases (HBI.out.below HBJ.out HH.out) with h | ⟨be, oe, h1, _, _, h2⟩
            · have := HJE.out; rw [h] at this; simp at this; omega
            · exact ⟨be, oe, h1, fun i hi => h2 i (by rw [HJE.out]; exact hi)⟩
          obtain ⟨cs, HCS⟩ : ∃ cs : List Value, Hid (cs = bcells em (endM es)) := ⟨_, rfl⟩
          have hcl : cs.length = em := by rw [HCS.out]; exact bcells_len _ _
          have hcopy : ∀ ty, (Builtin.copy_ #[23, 23] ty #[.slice (some ⟨B + 1 + 1, 4, none⟩) 24 24, .slice (some ⟨be, oe, none⟩) em ec]).run Try.prog wr.drew = .ok (goInt cs.length) (wr.drew.setCells (B + 1 + 1) 4 cs) := fun ty =>
            run_copy_cells wr.drew 23 23 ty 4 (B + 1 + 1) 4 24 24 ⟨be, oe, none⟩ em ec cs Try.underlying23 (by kernel_rfl) (by rw [hcl]; exact (Nat.min_eq_left hem.2).symm) (fun j v hv => by
              have hj : j < em := by have := (List.getElem?_eq_some_iff.1 hv).1; rwa [hcl] at this
              rw [HCS.out] at hv
              simp [bcells, hj] at hv
              subst hv
              rw [Addr.add_mid]
              exact hce j hj) (fun j hj => by
              rw [show wr.drew.cell? ⟨B + 1 + 1, 4 + j, none⟩ = some (mpart A 4 (4 + j)) from Blk.cell HMJ.out (by omega)]; rfl) (fun j _ => Blk.frozen HMJ.out _) (fun v hv => by
              rw [HCS.out] at hv
              simp only [bcells, List.mem_map] at hv
              obtain ⟨_, _, rfl⟩ := hv
              rfl)
          obtain ⟨X, HXX⟩ : ∃ X, Hid (X = wr.drew.setCells (B + 1 + 1) 4 cs) := ⟨_, rfl⟩
          have HBX : Hid (Below w.heap.size w X) := by rw [HXX.out]; exact Below.setCells (by have := HB.out; omega) _ _ HBJ.out.drew
          have HRX : Hid (CBlk X (B + 1) mzero) := by rw [HXX.out]; exact HRJ.out.of (block_setCells (w := wr.drew) (by omega) _ _)
          have HMX : Hid (CBlk X (B + 1 + 1) (mcells A (endM es))) := by
            rw [HXX.out]
            refine ⟨mcells_len _ _, (Blk.setRange cs 4 (w := wr.drew) HMJ.out (by omega)).congr fun i hi => ?_⟩
            by_cases h4 : i < 4
            · rw [if_neg (by omega), mpart_low h4, List.getD, mcells_move h4]; rfl
            · obtain ⟨z, rfl⟩ : ∃ z, i = 4 + z := ⟨i - 4, by omega⟩
              have hz : z < 24 := by omega
              have hm : (mcells A (endM es)).getD (4 + z) (.bool false) = .bool (endM es z) := by rw [List.getD, mcells_end hz]; rfl
              rw [hm]
              by_cases h5 : z < em
              · rw [if_pos ⟨by omega, by omega⟩, Nat.add_sub_cancel_left, HCS.out]
                simp [bcells, List.getD, h5]
              · rw [if_neg (by omega), mpart_high hz]
                have : endM es z = false := by unfold endM; rw [List.getD, List.getElem?_eq_none (by rw [HJE.out]; omega)]; rfl
                rw [this]
          obtain ⟨c0, c1, c2⟩ := nf_cells HNJ.out
          go_upto_region 15 with fail
          go_region
          rw [← HXX.out]
          go_upto_region 16 with fail
          go_wp2_with (with_reducible refine wpList_here' ?_; first | (refine wpList_load_mid rfl 66 _ rfl (B + 1 + 1) 0 rfl (mcells A (endM es)) _ HMX.out.range Try.underlying66 rfl (by rw [mcells_len]; exact info_mac) ?_) | (refine wpList_store_mid rfl 66 _ _ rfl (B + 1) 0 (mcells A (endM es)).toArray rfl rfl (by rw [mcells_size]; exact HRX.out.there) (by rw [mcells_size]; exact info_mac) (mcells_one _ _) ?_; dsimp only [Act.put]))
          obtain rfl : FF = Try.f32 := HFF.out
          refine bodyPost_ret (results_row2 (k := 2) (m := 3) (t := 66) (b := B + 1) Try.results32 rfl rfl (load_c (HRX.out.put (mcells A (endM es)) (mcells_len _ _)))) rfl ?_
          exact ⟨⟨_, rfl, by show _ = _; rw [HAA.out]⟩, Below.setCells (by have := HB.out; omega) _ _ HBX.out⟩
end Go.Proofs.Ytdhkkabcgehjpaa
