/-
  The words that an automaton takes: impl.NfaTakes.
-/
import Derived.Test.YtdhkkabcgehjpaaNtA
namespace Go.Proofs.Ytdhkkabcgehjpaa
open Go.RowKit

set_option maxHeartbeats 4000000 in
set_option maxRecDepth 100000 in
theorem nfaTakes_any (lo hi : Nat) (s : Int) (a : Option Addr) (n cap : Nat) (l : List Ed) (eb : Option Addr) (em ec : Nat) (es : List Bool) (T : ByteArray) (k : Nat) (r : Bool) (w : World) (ha : EdgesIn lo hi w a l) (hbi : BlsIn lo hi w eb es) (hh : hi ≤ w.heap.size) (hn : l.length = n) (hje : es.length = em) (hm : n ≤ 1048576) (ht : T.size = k) (hr : r = takesN s l em es T k) :
    Calls Try.prog 10 #[nv s a n cap eb em ec, .string T] w fun e w' => e = .returned (.bool r) ∧ Hid (Below w.heap.size w w') := by
  have HR : Hid (r = takesN s l em es T k) := hr
  have HN : Hid (T.size = k) := ht
  have hsz : (T.size : Int) = (k : Int) := by rw [ht]
  obtain ⟨B, HB⟩ : ∃ B, Hid (B = w.heap.size) := ⟨_, rfl⟩
  obtain ⟨W, HW⟩ : ∃ W, Hid (W = w.alloc (.cells #[.int .i64 s, .slice a n cap, .slice eb em ec] 30)) := ⟨_, rfl⟩
  have HBW : Hid (Below w.heap.size w W) := by rw [HW.out]; exact below1 w _
  have HNW : Hid (Blk W B 3 (nf s a n cap eb em ec)) := by rw [HW.out]; exact blk_nf w B HB.out _ _ _ _ _ _ _ _
  have HA : Hid (EdgesIn lo hi W a l) := ha.below HBW.out hh
  have HBI : Hid (BlsIn lo hi W eb es) := hbi.below HBW.out hh
  have HH : Hid (hi ≤ W.heap.size) := Nat.le_trans hh HBW.out.size
  rcases Bool.eq_false_or_eq_true (okN s l em) with hok | hok
  · have HC := machineOf_yes lo hi s a n cap l eb em ec es W HA.out HBI.out HH.out hn hje hm hok
    have HOK : Hid (okN s l em = true) := hok
    have HRR : Hid (r = (decide (k ≤ 12) && endTo (endM es) (runL l T k) 24)) := by show _ = _; rw [HR.out]; unfold takesN; rw [HOK.out, Bool.true_and]
    obtain ⟨A, HAA⟩ : ∃ A : Nat → Nat → Bool, Hid (A = arcM l) := ⟨_, rfl⟩
    obtain ⟨q, HQQ⟩ : ∃ q : Nat → Bool, Hid (q = endM es) := ⟨_, rfl⟩
    rw [← HAA.out, ← HQQ.out] at HC
    have HC1 : Hid (Calls Try.prog 32 #[nv s a n cap eb em ec] W fun e w' => (∃ v, e = .returned (.tuple #[.agg v, .bool true]) ∧ Hid (v = (mcells A q).toArray)) ∧ Hid (Below W.heap.size W w')) := HC
    clear HC ha hbi hh hn hje hm hr ht hok
    obtain ⟨c0, c1, c2⟩ := nf_cells HNW.out
    go_enter Try.func10, Try.ntmps10
    go_upto_region 1 with fail
    rw [← HB.out, ← HW.out]
    clear HW
    go_wp2_with fail
    refine HC1.out.mono ?_
    rintro e w1 ⟨⟨v, rfl, HVV⟩, HB1⟩
    have hvs : v.size = 28 := by rw [HVV.out]; exact mcells_size A q
    have hv1 : v.all (·.oneCell') = true := by rw [HVV.out]; exact mcells_one A q
    have HBE1 : Hid (Below w.heap.size w w1) := HBW.out.trans (HB1.out.mono HBW.out.size)
    obtain ⟨P, HPP⟩ : ∃ P, Hid (P = w1.heap.size) := ⟨_, rfl⟩
    obtain ⟨V, HV⟩ : ∃ V, Hid (V = (w1.alloc (.cells #[.nilFunc, .nilFunc, .nilFunc, .nilFunc, .bool false, .bool false, .bool false, .bool false, .bool false, .bool false, .bool false, .bool false, .bool false, .bool false, .bool false, .bool false, .bool false, .bool false, .bool false, .bool false, .bool false, .bool false, .bool false, .bool false, .bool false, .bool false, .bool false, .bool false] 66)).setCells P 0 v.toList) := ⟨_, rfl⟩
    have HT1 : Hid ((w1.alloc (.cells #[.nilFunc, .nilFunc, .nilFunc, .nilFunc, .bool false, .bool false, .bool false, .bool false, .bool false, .bool false, .bool false, .bool false, .bool false, .bool false, .bool false, .bool false, .bool false, .bool false, .bool false, .bool false, .bool false, .bool false, .bool false, .bool false, .bool false, .bool false, .bool false, .bool false] 66)).there w1.heap.size 0 28) := (CBlk.new w1 _ rfl mzero rfl _).there
    have HXV : Hid (CBlk V P (mcells A q)) := by rw [HV.out, HVV.out]; exact (CBlk.new w1 P HPP.out mzero rfl _).put (mcells A q) (mcells_len _ _)
    have HBV : Hid (Below w.heap.size w V) := by rw [HV.out]; exact Below.setCells (by have := HPP.out; have := HBE1.out.size; omega) _ _ (HBE1.out.trans ((below1 w1 _).mono HBE1.out.size))
    have HSV : Hid (V.heap.size = P + 1) := by rw [HV.out]; show _ = _; rw [size_setCells, HPP.out]; simp
    clear c0 c1 c2
    go_upto_region 2 with (with_reducible refine wpList_here' ?_; refine wpList_store_mid rfl 66 _ _ rfl w1.heap.size 0 v rfl rfl (by rw [hvs]; exact HT1.out) (by rw [hvs]; exact info_mac) hv1 ?_; dsimp only [Act.put])
    rw [← HPP.out]
    first | rw [← HV.out] | (rw [show _ = V from HV.out.symm])
    clear HV HT1 HVV hvs hv1
    by_cases h12 : k ≤ 12
    · have hg : ¬ (12 : Int) < (k : Int) := by omega
      have HRE : Hid (r = endTo q (runL l T k) 24) := by show _ = _; rw [HRR.out, HQQ.out]; simp [h12]
      go_wp2_with fail
      obtain ⟨cO, HCO⟩ : ∃ c, Hid (c = (bcells 24 oneS).toArray) := ⟨_, rfl⟩
      have hcO : cO.size = 24 := by rw [HCO.out]; exact bcells_size _ _
      have hc1 : cO.all (·.oneCell') = true := by rw [HCO.out]; exact bcells_one _ _
      have HF1 : Hid (Calls Try.prog 33 #[] V fun e w' => e = .returned (.agg cO) ∧ Hid (Below V.heap.size V w')) := by rw [HCO.out]; exact firstState_any V
      refine HF1.out.mono ?_
      rintro e w2 ⟨rfl, HB2⟩
      have HX2 : Hid (CBlk w2 P (mcells A q)) := HXV.out.of (HB2.out.block _ HXV.out.lt)
      have HBE2 : Hid (Below w.heap.size w w2) := HBV.out.trans (HB2.out.mono HBV.out.size)
      obtain ⟨D, HD⟩ : ∃ D, Hid (D = w2.heap.size) := ⟨_, rfl⟩
      have HPD : Hid (P + 1 ≤ D) := by have := HB2.out.size; have := HSV.out; have := HD.out; show _ ≤ _; omega
      obtain ⟨U, HU⟩ : ∃ U, Hid (U = (w2.alloc (.cells #[.bool false, .bool false, .bool false, .bool false, .bool false, .bool false, .bool false, .bool false, .bool false, .bool false, .bool false, .bool false, .bool false, .bool false, .bool false, .bool false, .bool false, .bool false, .bool false, .bool false, .bool false, .bool false, .bool false, .bool false] 64)).setCells D 0 cO.toList) := ⟨_, rfl⟩
      have HT2 : Hid ((w2.alloc (.cells #[.bool false, .bool false, .bool false, .bool false, .bool false, .bool false, .bool false, .bool false, .bool false, .bool false, .bool false, .bool false, .bool false, .bool false, .bool false, .bool false, .bool false, .bool false, .bool false, .bool false, .bool false, .bool false, .bool false, .bool false] 64)).there w2.heap.size 0 24) := (BBlk.zero w2 _ rfl _).there 0 24 (by omega)
      have HSU : Hid (BBlk U D 24 oneS) := by rw [HU.out, HCO.out, List.toList_toArray]; exact (BBlk.zero w2 D HD.out _).put oneS
      have HBU : Hid (Below w.heap.size w U) := by rw [HU.out]; exact Below.setCells (by have := HD.out; have := HBE2.out.size; omega) _ _ (HBE2.out.trans ((below1 w2 _).mono HBE2.out.size))
      have HXU : Hid (CBlk U P (mcells A q)) := by rw [HU.out]; exact HX2.out.of (by rw [block_setCells (by have := HPD.out; omega)]; exact Below.heap_alloc w2 _ _ HX2.out.lt)
      have HSZ : Hid (U.heap.size = D + 1) := by rw [HU.out]; show _ = _; rw [size_setCells, HD.out]; simp
      go_upto_region 5 with (with_reducible refine wpList_here' ?_; refine wpList_store_mid rfl 64 _ _ rfl w2.heap.size 0 cO rfl rfl (by rw [hcO]; exact HT2.out) (by rw [hcO]; exact info_set) hc1 ?_; dsimp only [Act.put])
      rw [← HD.out]
      first | rw [← HU.out] | (rw [show _ = U from HU.out.symm])
      clear HU HT2 HCO hcO hc1 HF1
      go_wp2
      go_loopw [24] (fun i wr => ∃ x : Nat, i = .int .i64 x ∧ x ≤ k ∧ Hid (BBlk wr D 24 (runL l T x)) ∧ Hid (KeptP (fun c => D ≤ c) U wr)) (fun i _ => k - (intOf i).toNat)
      case atStart => exact ⟨0, rfl, by omega, HSU, KeptP.refl _ _⟩
      case round =>
        obtain ⟨x, rfl, hx, HS, HL⟩ := hrel
        have HBR : Hid (Below w.heap.size w wr) := HBU.out.trans (HL.out.to_below HBU.out.size (fun c hc => by have := HBE2.out.size; have := HD.out; omega))
        have HXR : Hid (CBlk wr P (mcells A q)) := HXU.out.of (HL.out.block _ (by have := HSZ.out; have := HPD.out; omega) (by have := HPD.out; omega))
        by_cases hlt : x < k
        · have hlt1 : (x : Int) < (k : Int) := by omega
          have hlt0 : (0 : Int) ≤ (x : Int) := by omega
          have hkT : x < T.size := by rw [HN.out]; exact hlt
          have hk2 : (x : Int) < (T.size : Int) := by omega
          have HBY : Hid ((T[x]'hkT).toNat = bt T x) := by show _ = _; rw [bt_lt hkT]
          obtain ⟨c, HCC⟩ : ∃ c : Int, Hid (c = (((T[x]'hkT).toNat : Nat) : Int)) := ⟨_, rfl⟩
          obtain ⟨y, HY⟩ : ∃ y, Hid (y = isL (((T[x]'hkT).toNat : Nat) : Int)) := ⟨_, rfl⟩
          go_wp2_with fail
          refine (isLabel_any _ y _ HY.out).mono ?_
          rintro e w3 ⟨rfl, rfl⟩
          rcases Bool.eq_false_or_eq_true y with hy | hy
          · subst hy
            obtain ⟨i, hi4, HCI⟩ : ∃ i, i < 4 ∧ Hid ((T[x]'hkT).toNat = 97 + i) := by
              have := HY.out.symm
              unfold isL at this
              simp only [Bool.and_eq_true, decide_eq_true_eq] at this
              exact ⟨(T[x]'hkT).toNat - 97, by omega, by show _ = _; omega⟩
            obtain ⟨cm, HCM⟩ : ∃ c, Hid (c = (mcells A q).toArray) := ⟨_, rfl⟩
            have hcm : cm.size = 28 := by rw [HCM.out]; exact mcells_size A q
            obtain ⟨cA, HCA⟩ : ∃ c, Hid (c = (bcells 576 (A i)).toArray) := ⟨_, rfl⟩
            obtain ⟨S, HSS⟩ : ∃ S : Nat → Bool, Hid (S = runL l T x) := ⟨_, rfl⟩
            obtain ⟨cS, HCS⟩ : ∃ c, Hid (c = (bcells 24 S).toArray) := ⟨_, rfl⟩
            obtain ⟨G, HGG⟩ : ∃ G : Nat → Bool, Hid (G = goS (A i) S) := ⟨_, rfl⟩
            obtain ⟨cG, HCG⟩ : ∃ c, Hid (c = (bcells 24 G).toArray) := ⟨_, rfl⟩
            have hcG : cG.size = 24 := by rw [HCG.out]; exact bcells_size _ _
            have hG1 : cG.all (·.oneCell') = true := by rw [HCG.out]; exact bcells_one _ _
            rw [← HSS.out] at HS
            have HST : Hid (∀ j, j < 24 → G j = runL l T (x + 1) j) := fun j hj => by
              rw [HGG.out, HAA.out, step_go HOK.out hi4 hj, ← HCI.out, HSS.out]
              show _ = stepL l ((bt T x : Nat) : Int) (runL l T x) j
              rw [← HBY.out]
            have HMV : Hid (∀ w0, Calls Try.prog 35 #[.agg cm, .int .u8 (((T[x]'hkT).toNat : Nat) : Int)] w0 fun e w' => e = .returned (.func (.func 62) #[.agg cA] #[]) ∧ Hid (Below w0.heap.size w0 w')) := fun w0 => by
              rw [HCM.out, HCA.out, HCI.out]; exact moveBy_any A q i w0 hi4
            have HFR : Hid (∀ w0, Calls Try.prog 62 #[.agg cA, .agg cS] w0 fun e w' => e = .returned (.agg cG) ∧ Hid (Below w0.heap.size w0 w')) := fun w0 => by
              rw [HCA.out, HCS.out, HCG.out, HGG.out]; exact from_any (A i) S w0
            have HRM : ∀ wz, CBlk wz P (mcells A q) → wz.rangeAt P 0 cm.toList := fun wz h => by rw [HCM.out, List.toList_toArray]; exact h.range
            have HRS : ∀ wz, BBlk wz D 24 S → wz.rangeAt D 0 cS.toList := fun wz h => by rw [HCS.out, List.toList_toArray]; exact h.all
            have hcS : cS.toList.length = 24 := by rw [HCS.out, List.toList_toArray]; exact bcells_len _ _
            have hcm2 : cm.toList.length = 28 := by rw [Array.length_toList]; exact hcm
            have HLD : Hid (KeptP (fun c => D ≤ c) U wr.drew) := HL.out.trans (KeptP.of_below ((Below.refl _ _).drew) (fun k hk _ => hk))
            clear HY HCC
            go_upto_region 10 with fail
            refine wp_region_held_drew (S := fun _ => True) (by kernel_rfl) trivial (fun hHeld => ?_)
            refine wpAnyH_take (i := 1) (oi := { dst := some 33, op := Go.Op.move (Go.Operand.tmp 1), type := 9, pos := "l07_nfa.go:71", after := #[], guard := none }) (v := ?_) rfl (by kernel_rfl) (by kernel_rfl) (by kernel_rfl) (fun _ _ _ h => h) (Or.inl ⟨by kernel_rfl, ?_⟩) (by assumption) ?_
            rotate_left
            · intro w hSw; (try dsimp only at hSw); go_simp; try with_reducible rfl
            simp only [Act.put, List.setIfInBounds_toArray, List.set_cons_zero, List.set_cons_succ]
            refine wpAnyH_take (i := 2) (oi := { dst := some 34, op := Go.Op.move (Go.Operand.tmp 8), type := 3, pos := "l07_nfa.go:71", after := #[], guard := none }) (v := ?_) rfl (by kernel_rfl) (by kernel_rfl) (by kernel_rfl) (fun _ _ _ h => h) (Or.inl ⟨by kernel_rfl, ?_⟩) (by assumption) ?_
            rotate_left
            · intro w hSw; (try dsimp only at hSw); go_simp; try with_reducible rfl
            simp only [Act.put, List.setIfInBounds_toArray, List.set_cons_zero, List.set_cons_succ]
            refine wpAnyH_take (i := 3) (oi := { dst := some 35, op := Go.Op.index 9 (Go.Operand.tmp 33) (Go.Operand.tmp 34), type := 5, pos := "l07_nfa.go:71", after := #[{ on := 1, ground := Go.Ground.data }, { on := 2, ground := Go.Ground.data }], guard := none }) (v := ?_) rfl (by kernel_rfl) (by kernel_rfl) (by kernel_rfl) (fun _ _ _ h => h) (Or.inl ⟨by kernel_rfl, ?_⟩) (by assumption) ?_
            rotate_left
            · intro w hSw; (try dsimp only at hSw); go_simp; try with_reducible rfl
            simp only [Act.put, List.setIfInBounds_toArray, List.set_cons_zero, List.set_cons_succ]
            refine wpAnyH_ready (rs := [0, 5]) (by kernel_rfl) (by simp) ?_
            refine AllReadyH.cons (o := { dst := some 32, op := Go.Op.load 66 (Go.Operand.tmp 5), type := 66, pos := "l07_nfa.go:71", after := #[], guard := none }) rfl (fun K hK => ?_) ?_
            · refine wp_load_midB (by kernel_rfl) 66 _ rfl P 0 rfl cm.toList _ (HRM _ HXR.out) Try.underlying66 rfl (by rw [hcm2]; exact info_mac) ?_
              refine hK.out _ _ trivial (fun hHeld => ?_)
              clear hK K
              try simp only [Act.put, List.setIfInBounds_toArray, List.set_cons_zero, List.set_cons_succ]
              refine wpAnyH_ready (rs := [4, 5]) (by kernel_rfl) (by simp) ?_
              refine AllReadyH.cons (o := { dst := some 36, op := Go.Op.call { callee := Go.Callee.value (Go.Operand.func 35), args := #[Go.Operand.tmp 32, Go.Operand.tmp 35], argTypes := #[66, 5] }, type := 61, pos := "l07_nfa.go:71", after := #[{ on := 0, ground := Go.Ground.data }, { on := 3, ground := Go.Ground.data }], guard := none }) rfl (fun K hK => ?_) ?_
              · go_simp
                go_wp2_with (go_at_call 35; refine (HMV.out _).mono ?_; rintro e w5 ⟨rfl, HB5⟩)
                have XS5 : Hid (BBlk w5 D 24 S) := HS.out.of (HB5.out.block _ HS.out.lt)
                have XM5 : Hid (CBlk w5 P (mcells A q)) := HXR.out.of (HB5.out.block _ HXR.out.lt)
                have HL5 : Hid (KeptP (fun c => D ≤ c) U w5) := HLD.out.trans (KeptP.of_below HB5.out (fun k hk _ => by have := HSZ.out; have := HLD.out.size; omega))
                refine hK.out _ _ trivial (fun hHeld => ?_)
                clear hK K
                try simp only [Act.put, List.setIfInBounds_toArray, List.set_cons_zero, List.set_cons_succ]
                refine wpAnyH_ready (rs := [5]) (by kernel_rfl) (by simp) ?_
                refine AllReadyH.cons (o := { dst := some 37, op := Go.Op.load 64 (Go.Operand.tmp 7), type := 64, pos := "l07_nfa.go:71", after := #[], guard := none }) rfl (fun K hK => ?_) ?_
                · refine wp_load_midB (by kernel_rfl) 64 _ rfl D 0 rfl cS.toList _ (HRS _ XS5.out) Try.underlying64 rfl (by rw [hcS]; exact info_set) ?_
                  refine hK.out _ _ trivial (fun hHeld => ?_)
                  clear hK K
                  try simp only [Act.put, List.setIfInBounds_toArray, List.set_cons_zero, List.set_cons_succ]
                  refine wpAnyH_ready (rs := [6]) (by kernel_rfl) (by simp) ?_
                  refine AllReadyH.cons (o := { dst := some 38, op := Go.Op.call { callee := Go.Callee.value (Go.Operand.tmp 36), args := #[Go.Operand.tmp 37], argTypes := #[64] }, type := 64, pos := "l07_nfa.go:71", after := #[{ on := 4, ground := Go.Ground.data }, { on := 5, ground := Go.Ground.data }, { on := 4, ground := Go.Ground.chain }], guard := none }) rfl (fun K hK => ?_) ?_
                  · go_simp
                    go_wp2_with (go_at_call 62; refine (HFR.out _).mono ?_; rintro e w6 ⟨rfl, HB6⟩)
                    have XS6 : Hid (BBlk w6 D 24 S) := XS5.out.of (HB6.out.block _ XS5.out.lt)
                    have XM6 : Hid (CBlk w6 P (mcells A q)) := XM5.out.of (HB6.out.block _ XM5.out.lt)
                    have HL6 : Hid (KeptP (fun c => D ≤ c) U w6) := HL5.out.trans (KeptP.of_below HB6.out (fun k hk _ => by have := HSZ.out; have := HL5.out.size; omega))
                    refine hK.out _ _ trivial (fun hHeld => ?_)
                    clear hK K
                    try simp only [Act.put, List.setIfInBounds_toArray, List.set_cons_zero, List.set_cons_succ]
                    refine wpAnyH_ready (rs := [7]) (by kernel_rfl) (by simp) ?_
                    refine AllReadyH.cons (o := { dst := none, op := Go.Op.store 64 (Go.Operand.tmp 7) (Go.Operand.tmp 38), type := 0, pos := "l07_nfa.go:71", after := #[{ on := 6, ground := Go.Ground.data }, { on := 6, ground := Go.Ground.chain }, { on := 0, ground := Go.Ground.phase }, { on := 1, ground := Go.Ground.phase }, { on := 2, ground := Go.Ground.phase }, { on := 3, ground := Go.Ground.phase }, { on := 4, ground := Go.Ground.phase }, { on := 5, ground := Go.Ground.phase }, { on := 6, ground := Go.Ground.phase }], guard := none }) rfl (fun K hK => ?_) ?_
                    · rw [if_pos (by kernel_rfl)]
                      refine wp_store_mid 64 _ _ rfl D 0 cG rfl rfl (by rw [hcG]; exact XS6.out.there 0 24 (by omega)) (by rw [hcG]; exact info_set) hG1 ?_
                      have XS9 : Hid (BBlk (w6.setCells D 0 cG.toList) D 24 G) := by rw [HCG.out, List.toList_toArray]; exact XS6.out.put G
                      have HL9 : Hid (KeptP (fun c => D ≤ c) U (w6.setCells D 0 cG.toList)) := KeptP.setCells (Nat.le_refl _) _ _ HL6.out
                      refine hK.out _ _ trivial (fun hHeld => ?_)
                      clear hK K
                      try simp only [Act.put]
                      refine wpAnyH_done (by kernel_rfl) ?_ _
                      clear hHeld
                      go_wp2
                      go_roundw
                      case rel => exact ⟨x + 1, by go_num, by omega, XS9.out.congr (fun j hj => HST.out j hj), HL9⟩
                      case measure => simp [intOf]; omega
                    exact AllReadyH.nil
                  exact AllReadyH.nil
                exact AllReadyH.nil
              refine AllReadyH.cons (o := { dst := some 37, op := Go.Op.load 64 (Go.Operand.tmp 7), type := 64, pos := "l07_nfa.go:71", after := #[], guard := none }) rfl (fun K hK => ?_) ?_
              · refine wp_load_midB (by kernel_rfl) 64 _ rfl D 0 rfl cS.toList _ (HRS _ HS.out) Try.underlying64 rfl (by rw [hcS]; exact info_set) ?_
                refine hK.out _ _ trivial (fun hHeld => ?_)
                clear hK K
                try simp only [Act.put, List.setIfInBounds_toArray, List.set_cons_zero, List.set_cons_succ]
                refine wpAnyH_ready (rs := [4]) (by kernel_rfl) (by simp) ?_
                refine AllReadyH.cons (o := { dst := some 36, op := Go.Op.call { callee := Go.Callee.value (Go.Operand.func 35), args := #[Go.Operand.tmp 32, Go.Operand.tmp 35], argTypes := #[66, 5] }, type := 61, pos := "l07_nfa.go:71", after := #[{ on := 0, ground := Go.Ground.data }, { on := 3, ground := Go.Ground.data }], guard := none }) rfl (fun K hK => ?_) ?_
                · go_simp
                  go_wp2_with (go_at_call 35; refine (HMV.out _).mono ?_; rintro e w5 ⟨rfl, HB5⟩)
                  have XS5 : Hid (BBlk w5 D 24 S) := HS.out.of (HB5.out.block _ HS.out.lt)
                  have XM5 : Hid (CBlk w5 P (mcells A q)) := HXR.out.of (HB5.out.block _ HXR.out.lt)
                  have HL5 : Hid (KeptP (fun c => D ≤ c) U w5) := HLD.out.trans (KeptP.of_below HB5.out (fun k hk _ => by have := HSZ.out; have := HLD.out.size; omega))
                  refine hK.out _ _ trivial (fun hHeld => ?_)
                  clear hK K
                  try simp only [Act.put, List.setIfInBounds_toArray, List.set_cons_zero, List.set_cons_succ]
                  refine wpAnyH_ready (rs := [6]) (by kernel_rfl) (by simp) ?_
                  refine AllReadyH.cons (o := { dst := some 38, op := Go.Op.call { callee := Go.Callee.value (Go.Operand.tmp 36), args := #[Go.Operand.tmp 37], argTypes := #[64] }, type := 64, pos := "l07_nfa.go:71", after := #[{ on := 4, ground := Go.Ground.data }, { on := 5, ground := Go.Ground.data }, { on := 4, ground := Go.Ground.chain }], guard := none }) rfl (fun K hK => ?_) ?_
                  · go_simp
                    go_wp2_with (go_at_call 62; refine (HFR.out _).mono ?_; rintro e w6 ⟨rfl, HB6⟩)
                    have XS6 : Hid (BBlk w6 D 24 S) := XS5.out.of (HB6.out.block _ XS5.out.lt)
                    have XM6 : Hid (CBlk w6 P (mcells A q)) := XM5.out.of (HB6.out.block _ XM5.out.lt)
                    have HL6 : Hid (KeptP (fun c => D ≤ c) U w6) := HL5.out.trans (KeptP.of_below HB6.out (fun k hk _ => by have := HSZ.out; have := HL5.out.size; omega))
                    refine hK.out _ _ trivial (fun hHeld => ?_)
                    clear hK K
                    try simp only [Act.put, List.setIfInBounds_toArray, List.set_cons_zero, List.set_cons_succ]
                    refine wpAnyH_ready (rs := [7]) (by kernel_rfl) (by simp) ?_
                    refine AllReadyH.cons (o := { dst := none, op := Go.Op.store 64 (Go.Operand.tmp 7) (Go.Operand.tmp 38), type := 0, pos := "l07_nfa.go:71", after := #[{ on := 6, ground := Go.Ground.data }, { on := 6, ground := Go.Ground.chain }, { on := 0, ground := Go.Ground.phase }, { on := 1, ground := Go.Ground.phase }, { on := 2, ground := Go.Ground.phase }, { on := 3, ground := Go.Ground.phase }, { on := 4, ground := Go.Ground.phase }, { on := 5, ground := Go.Ground.phase }, { on := 6, ground := Go.Ground.phase }], guard := none }) rfl (fun K hK => ?_) ?_
                    · rw [if_pos (by kernel_rfl)]
                      refine wp_store_mid 64 _ _ rfl D 0 cG rfl rfl (by rw [hcG]; exact XS6.out.there 0 24 (by omega)) (by rw [hcG]; exact info_set) hG1 ?_
                      have XS9 : Hid (BBlk (w6.setCells D 0 cG.toList) D 24 G) := by rw [HCG.out, List.toList_toArray]; exact XS6.out.put G
                      have HL9 : Hid (KeptP (fun c => D ≤ c) U (w6.setCells D 0 cG.toList)) := KeptP.setCells (Nat.le_refl _) _ _ HL6.out
                      refine hK.out _ _ trivial (fun hHeld => ?_)
                      clear hK K
                      try simp only [Act.put]
                      refine wpAnyH_done (by kernel_rfl) ?_ _
                      clear hHeld
                      go_wp2
                      go_roundw
                      case rel => exact ⟨x + 1, by go_num, by omega, XS9.out.congr (fun j hj => HST.out j hj), HL9⟩
                      case measure => simp [intOf]; omega
                    exact AllReadyH.nil
                  exact AllReadyH.nil
                exact AllReadyH.nil
              exact AllReadyH.nil
            refine AllReadyH.cons (o := { dst := some 37, op := Go.Op.load 64 (Go.Operand.tmp 7), type := 64, pos := "l07_nfa.go:71", after := #[], guard := none }) rfl (fun K hK => ?_) ?_
            · refine wp_load_midB (by kernel_rfl) 64 _ rfl D 0 rfl cS.toList _ (HRS _ HS.out) Try.underlying64 rfl (by rw [hcS]; exact info_set) ?_
              refine hK.out _ _ trivial (fun hHeld => ?_)
              clear hK K
              try simp only [Act.put, List.setIfInBounds_toArray, List.set_cons_zero, List.set_cons_succ]
              refine wpAnyH_ready (rs := [0]) (by kernel_rfl) (by simp) ?_
              refine AllReadyH.cons (o := { dst := some 32, op := Go.Op.load 66 (Go.Operand.tmp 5), type := 66, pos := "l07_nfa.go:71", after := #[], guard := none }) rfl (fun K hK => ?_) ?_
              · refine wp_load_midB (by kernel_rfl) 66 _ rfl P 0 rfl cm.toList _ (HRM _ HXR.out) Try.underlying66 rfl (by rw [hcm2]; exact info_mac) ?_
                refine hK.out _ _ trivial (fun hHeld => ?_)
                clear hK K
                try simp only [Act.put, List.setIfInBounds_toArray, List.set_cons_zero, List.set_cons_succ]
                refine wpAnyH_ready (rs := [4]) (by kernel_rfl) (by simp) ?_
                refine AllReadyH.cons (o := { dst := some 36, op := Go.Op.call { callee := Go.Callee.value (Go.Operand.func 35), args := #[Go.Operand.tmp 32, Go.Operand.tmp 35], argTypes := #[66, 5] }, type := 61, pos := "l07_nfa.go:71", after := #[{ on := 0, ground := Go.Ground.data }, { on := 3, ground := Go.Ground.data }], guard := none }) rfl (fun K hK => ?_) ?_
                · go_simp
                  go_wp2_with (go_at_call 35; refine (HMV.out _).mono ?_; rintro e w5 ⟨rfl, HB5⟩)
                  have XS5 : Hid (BBlk w5 D 24 S) := HS.out.of (HB5.out.block _ HS.out.lt)
                  have XM5 : Hid (CBlk w5 P (mcells A q)) := HXR.out.of (HB5.out.block _ HXR.out.lt)
                  have HL5 : Hid (KeptP (fun c => D ≤ c) U w5) := HLD.out.trans (KeptP.of_below HB5.out (fun k hk _ => by have := HSZ.out; have := HLD.out.size; omega))
                  refine hK.out _ _ trivial (fun hHeld => ?_)
                  clear hK K
                  try simp only [Act.put, List.setIfInBounds_toArray, List.set_cons_zero, List.set_cons_succ]
                  refine wpAnyH_ready (rs := [6]) (by kernel_rfl) (by simp) ?_
                  refine AllReadyH.cons (o := { dst := some 38, op := Go.Op.call { callee := Go.Callee.value (Go.Operand.tmp 36), args := #[Go.Operand.tmp 37], argTypes := #[64] }, type := 64, pos := "l07_nfa.go:71", after := #[{ on := 4, ground := Go.Ground.data }, { on := 5, ground := Go.Ground.data }, { on := 4, ground := Go.Ground.chain }], guard := none }) rfl (fun K hK => ?_) ?_
                  · go_simp
                    go_wp2_with (go_at_call 62; refine (HFR.out _).mono ?_; rintro e w6 ⟨rfl, HB6⟩)
                    have XS6 : Hid (BBlk w6 D 24 S) := XS5.out.of (HB6.out.block _ XS5.out.lt)
                    have XM6 : Hid (CBlk w6 P (mcells A q)) := XM5.out.of (HB6.out.block _ XM5.out.lt)
                    have HL6 : Hid (KeptP (fun c => D ≤ c) U w6) := HL5.out.trans (KeptP.of_below HB6.out (fun k hk _ => by have := HSZ.out; have := HL5.out.size; omega))
                    refine hK.out _ _ trivial (fun hHeld => ?_)
                    clear hK K
                    try simp only [Act.put, List.setIfInBounds_toArray, List.set_cons_zero, List.set_cons_succ]
                    refine wpAnyH_ready (rs := [7]) (by kernel_rfl) (by simp) ?_
                    refine AllReadyH.cons (o := { dst := none, op := Go.Op.store 64 (Go.Operand.tmp 7) (Go.Operand.tmp 38), type := 0, pos := "l07_nfa.go:71", after := #[{ on := 6, ground := Go.Ground.data }, { on := 6, ground := Go.Ground.chain }, { on := 0, ground := Go.Ground.phase }, { on := 1, ground := Go.Ground.phase }, { on := 2, ground := Go.Ground.phase }, { on := 3, ground := Go.Ground.phase }, { on := 4, ground := Go.Ground.phase }, { on := 5, ground := Go.Ground.phase }, { on := 6, ground := Go.Ground.phase }], guard := none }) rfl (fun K hK => ?_) ?_
                    · rw [if_pos (by kernel_rfl)]
                      refine wp_store_mid 64 _ _ rfl D 0 cG rfl rfl (by rw [hcG]; exact XS6.out.there 0 24 (by omega)) (by rw [hcG]; exact info_set) hG1 ?_
                      have XS9 : Hid (BBlk (w6.setCells D 0 cG.toList) D 24 G) := by rw [HCG.out, List.toList_toArray]; exact XS6.out.put G
                      have HL9 : Hid (KeptP (fun c => D ≤ c) U (w6.setCells D 0 cG.toList)) := KeptP.setCells (Nat.le_refl _) _ _ HL6.out
                      refine hK.out _ _ trivial (fun hHeld => ?_)
                      clear hK K
                      try simp only [Act.put]
                      refine wpAnyH_done (by kernel_rfl) ?_ _
                      clear hHeld
                      go_wp2
                      go_roundw
                      case rel => exact ⟨x + 1, by go_num, by omega, XS9.out.congr (fun j hj => HST.out j hj), HL9⟩
                      case measure => simp [intOf]; omega
                    exact AllReadyH.nil
                  exact AllReadyH.nil
                exact AllReadyH.nil
              exact AllReadyH.nil
            exact AllReadyH.nil
          · subst hy
            have HRF : Hid (r = false) := by
              show _ = _
              rw [HRE.out]
              refine end_none (fun j => ?_) 24
              obtain ⟨d, rfl⟩ : ∃ d, k = x + 1 + d := ⟨k - (x + 1), by omega⟩
              exact run_bad HOK.out (by rw [← HBY.out]; exact HY.out.symm) d j
            go_wp2
            go_ret
            exact ⟨by rw [HRF.out]; rfl, HBR⟩
        · obtain rfl : x = k := by omega
          obtain ⟨cm, HCM⟩ : ∃ c, Hid (c = (mcells A q).toArray) := ⟨_, rfl⟩
          have hcm : cm.size = 28 := by rw [HCM.out]; exact mcells_size A q
          obtain ⟨S, HSS⟩ : ∃ S : Nat → Bool, Hid (S = runL l T x) := ⟨_, rfl⟩
          obtain ⟨cS, HCS⟩ : ∃ c, Hid (c = (bcells 24 S).toArray) := ⟨_, rfl⟩
          rw [← HSS.out] at HS
          have HME : Hid (∀ w0, Calls Try.prog 36 #[.agg cm, .agg cS] w0 fun e w' => e = .returned (.bool r) ∧ Hid (Below w0.heap.size w0 w')) := fun w0 => by
            rw [HCM.out, HCS.out]; exact mayEnd_any A q S r w0 (by rw [HRE.out, HSS.out])
          have HRM : Hid (wr.rangeAt P 0 cm.toList) := by rw [HCM.out, List.toList_toArray]; exact HXR.out.range
          have HRS : Hid (wr.rangeAt D 0 cS.toList) := by rw [HCS.out, List.toList_toArray]; exact HS.out.all
          have hcS : cS.toList.length = 24 := by rw [HCS.out, List.toList_toArray]; exact bcells_len _ _
          have hcm2 : cm.toList.length = 28 := by rw [Array.length_toList]; exact hcm
          go_wp2_with (with_reducible refine wpList_here' ?_; first | (refine wpList_load_mid rfl 66 _ rfl P 0 rfl cm.toList _ HRM.out Try.underlying66 rfl (by rw [hcm2]; exact info_mac) ?_) | (refine wpList_load_mid rfl 64 _ rfl D 0 rfl cS.toList _ HRS.out Try.underlying64 rfl (by rw [hcS]; exact info_set) ?_))
          refine (HME.out _).mono ?_
          rintro e w4 ⟨rfl, HB4⟩
          go_wp2
          go_ret
          exact ⟨rfl, HBR.out.trans (HB4.out.mono HBR.out.size)⟩
    · have hg : (12 : Int) < (k : Int) := by omega
      have HRF : Hid (r = false) := by show _ = _; rw [HRR.out]; simp [h12]
      go_wp2
      go_ret
      exact ⟨by rw [HRF.out]; rfl, HBV⟩
  · have HC := machineOf_no lo hi s a n cap l eb em ec W HA.out HH.out hn hm hok
    have HC1 : Hid (Calls Try.prog 32 #[nv s a n cap eb em ec] W fun e w' => (∃ v, e = .returned (.tuple #[.agg v, .bool false]) ∧ Hid (v = mzero.toArray)) ∧ Hid (Below W.heap.size W w')) := HC
    have HRF : Hid (r = false) := by show _ = _; rw [HR.out]; unfold takesN; rw [hok]; rfl
    clear HC ha hbi hh hn hje hm hr ht hok
    obtain ⟨c0, c1, c2⟩ := nf_cells HNW.out
    go_enter Try.func10, Try.ntmps10
    go_upto_region 1 with fail
    rw [← HB.out, ← HW.out]
    clear HW
    go_wp2_with fail
    refine HC1.out.mono ?_
    rintro e w1 ⟨⟨v, rfl, HVV⟩, HB1⟩
    have hvs : v.size = 28 := by rw [HVV.out]; exact mzero_size
    have hv1 : v.all (·.oneCell') = true := by rw [HVV.out]; exact mzero_one
    have HBE1 : Hid (Below w.heap.size w w1) := HBW.out.trans (HB1.out.mono HBW.out.size)
    obtain ⟨P, HPP⟩ : ∃ P, Hid (P = w1.heap.size) := ⟨_, rfl⟩
    obtain ⟨V, HV⟩ : ∃ V, Hid (V = (w1.alloc (.cells #[.nilFunc, .nilFunc, .nilFunc, .nilFunc, .bool false, .bool false, .bool false, .bool false, .bool false, .bool false, .bool false, .bool false, .bool false, .bool false, .bool false, .bool false, .bool false, .bool false, .bool false, .bool false, .bool false, .bool false, .bool false, .bool false, .bool false, .bool false, .bool false, .bool false] 66)).setCells P 0 v.toList) := ⟨_, rfl⟩
    have HT1 : Hid ((w1.alloc (.cells #[.nilFunc, .nilFunc, .nilFunc, .nilFunc, .bool false, .bool false, .bool false, .bool false, .bool false, .bool false, .bool false, .bool false, .bool false, .bool false, .bool false, .bool false, .bool false, .bool false, .bool false, .bool false, .bool false, .bool false, .bool false, .bool false, .bool false, .bool false, .bool false, .bool false] 66)).there w1.heap.size 0 28) := (CBlk.new w1 _ rfl mzero rfl _).there
    have HBV : Hid (Below w.heap.size w V) := by rw [HV.out]; exact Below.setCells (by have := HPP.out; have := HBE1.out.size; omega) _ _ (HBE1.out.trans ((below1 w1 _).mono HBE1.out.size))
    clear c0 c1 c2
    go_upto_region 2 with (with_reducible refine wpList_here' ?_; refine wpList_store_mid rfl 66 _ _ rfl w1.heap.size 0 v rfl rfl (by rw [hvs]; exact HT1.out) (by rw [hvs]; exact info_mac) hv1 ?_; dsimp only [Act.put])
    rw [← HPP.out]
    first | rw [← HV.out] | (rw [show _ = V from HV.out.symm])
    clear HV HT1 HVV hvs hv1
    go_wp2
    go_ret
    exact ⟨by rw [HRF.out]; rfl, HBV⟩
end Go.Proofs.Ytdhkkabcgehjpaa
