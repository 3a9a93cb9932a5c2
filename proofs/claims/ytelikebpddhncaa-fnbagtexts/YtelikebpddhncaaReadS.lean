/-
  spec.ReadBag.
-/
import Derived.Test.YtelikebpddhncaaSRd
namespace Go.Proofs.Ytelikebpddhncaa
open Go.RowKit

theorem sNums_len (m : Nat) (st : St) : (sNums m st).1.length ≤ m := by
  induction m generalizing st with
  | zero => rw [sNums_zero]; simp
  | succ m ih =>
    cases st with
    | none => rw [sNums_none]; simp
    | some r => rw [sNums_succ _ (by simp)]; have := ih (rn (some r) 1000000000).2; simp only [List.length_cons]; omega
theorem sItems_small (m : Nat) (st : St) : ∀ i, i < (sItems m st).1.length → (at' (sItems m st).1 i).1.length ≤ 10 := by
  induction m generalizing st with
  | zero => rw [sItems_zero]; intro i hi; simp at hi
  | succ m ih =>
    cases st with
    | none => rw [sItems_none]; intro i hi; simp at hi
    | some r =>
      rw [sItems_succ _ (by simp)]
      intro i hi
      cases i with
      | zero =>
        show (sItem (some r)).1.1.length ≤ 10
        unfold sItem
        exact Nat.le_trans (sNums_len _ _) (by omega)
      | succ i => exact ih (sItem (some r)).2 i (by simpa using hi)
theorem SOut.wide {B M M' : Nat} {w wi : World} {s : ByteArray} {st : St} {v : Value} {L : List It} (h : SOut B M w wi s st v L) (h1 : M ≤ M') (h2 : M' ≤ wi.heap.size) : SOut B M' w wi s st v L :=
  ⟨h.rd, h.bv, h.laid.wide h1, h.res, h.bel, Nat.le_trans h.low h1, h2, fun k hk => Nat.lt_of_lt_of_le (h.vlt k hk) h1⟩

set_option maxHeartbeats 4000000 in
set_option maxRecDepth 100000 in
theorem specReadBag_any (s : ByteArray) (w : World) (hs : s.size ≤ 1048576) :
    Calls Try.prog 19 #[.string s] w fun e w' => ∃ (v : Value) (ok : Bool), e = .returned (.tuple #[.agg #[v], .bool ok]) ∧ Hid (ok = (implRead s.data.toList).2) ∧ Hid (∃ a cap, v = .slice a (if ok = true then (implRead s.data.toList).1 else []).length cap ∧ BagOwn w.heap.size w'.heap.size w' a (if ok = true then (implRead s.data.toList).1 else [])) ∧ Hid (Below w.heap.size w w') := by
  obtain ⟨i0, hi0, hz0, hz1, hz2⟩ := info_parts Try.info3
  obtain ⟨i1, hj0, hy0, hy1, hy2⟩ := info_parts Try.info77
  obtain ⟨B, HB⟩ : ∃ B, Hid (B = w.heap.size) := ⟨_, rfl⟩
  go_enter Try.func19, Try.ntmps19
  go_wp2_with fail
  rw [← HB.out]
  have hrd0 : RdAt 90 (B + 1) s (some s.data.toList) (((w.alloc (.cells #[.slice none 0 0] 26)).alloc (.cells #[.string s, .int .i64 0, .bool false] 90)).alloc (.cells #[.slice none 0 0] 26)) := by
    refine ⟨0, false, ?_, Nat.zero_le _, rfl⟩
    rw [HB.out, Below.heap_alloc _ _ _ (by simp)]
    have := heap_new (w.alloc (.cells #[.slice none 0 0] 26)) (.cells #[.string s, .int .i64 0, .bool false] 90)
    simpa using this
  have HO0 : Hid (SOut B (B + 1 + 1 + 1) w (((w.alloc (.cells #[.slice none 0 0] 26)).alloc (.cells #[.string s, .int .i64 0, .bool false] 90)).alloc (.cells #[.slice none 0 0] 26)) s (some s.data.toList) (.slice none 0 0) []) :=
    ⟨hrd0, blk_one _ (B + 1 + 1) (by rw [HB.out]; simp) _ _, LaidO.nil _ _ _, ((blk_one w B HB.out _ _).alloc _).alloc _, by rw [HB.out]; exact below3 w _ _ _, Nat.le_refl _, by rw [HB.out]; simp, fun k hk => by simp [Value.ownBlock] at hk⟩
  refine (l03Var_any (B + 1) s (some s.data.toList) _ hrd0 hs).mono ?_
  rintro e w1 ⟨N, rfl, HN, HRD1, HK1⟩
  obtain ⟨st0, HST⟩ : ∃ st0, Hid (st0 = (rn (some s.data.toList) 1000000000).2) := ⟨_, rfl⟩
  rw [← HST.out] at HRD1
  have HO1 : Hid (SOut B w1.heap.size w w1 s st0 (.slice none 0 0) []) := (HO0.out.num HK1.out HRD1.out).wide (HO0.out.num HK1.out HRD1.out).size (Nat.le_refl _)
  obtain ⟨M0, HM0⟩ : ∃ M0, Hid (M0 = min N 310) := ⟨_, rfl⟩
  have hM3 : M0 ≤ 310 := by have := HM0.out; omega
  have hN9 : N ≤ 1000000000 := by rw [HN.out]; exact rn_le _ _
  clear hrd0 HK1 HO0 HRD1
  go_wp2
  go_loopw [7] (fun i wr => ∃ (k : Nat) (L : List It) (st : St) (v : Value), i = .int .i64 k ∧ k ≤ M0 ∧ Hid (sItems M0 st0 = (L ++ (sItems (M0 - k) st).1, (sItems (M0 - k) st).2)) ∧ Hid (L.length = k) ∧ Hid (SOut B wr.heap.size w wr s st v L)) (fun i _ => M0 - (intOf i).toNat)
  case atStart => exact ⟨0, [], st0, .slice none 0 0, rfl, by omega, by show _ = _; simp, rfl, HO1⟩
  case round =>
    obtain ⟨k, L, st, v, rfl, hk, HE, HLN, HO⟩ := hrel
    have cf := HO.out.rd.flag
    obtain ⟨f, HFL⟩ : ∃ f : Bool, Hid (f = st.isNone) := ⟨_, rfl⟩
    rw [← HFL.out] at cf
    rcases Bool.eq_false_or_eq_true f with hf | hf
    · subst hf
      have HSN : Hid (st = none) := by simpa [Hid] using HFL.out.symm
      by_cases hN : (k : Int) < (N : Int)
      · by_cases h3 : (k : Int) < 310
        · have HFN : Hid (sItems M0 st0 = (L, st)) := by have h := HE.out; rw [HSN.out, sItems_none] at h; simpa [Hid, HSN.out] using h
          have HSP : Hid (specRead s.data.toList = (L, decide (st ≠ none) && okBag L && decide (txtTo L L.length = s.data.toList))) := by
            show _ = _
            simp only [specRead]
            rw [← HN.out, ← HST.out, ← HM0.out, HFN.out]
          have HSM : Hid (∀ i, i < k → (at' L i).1.length ≤ 1048576) := by
            intro i hi
            have h := sItems_small M0 st0 i (by rw [HFN.out]; show i < L.length; rw [HLN.out]; exact hi)
            rw [HFN.out] at h
            exact Nat.le_trans h (by omega)
          obtain ⟨a, cap, hv, hown⟩ := HO.out.laid.own (Nat.le_refl _)
          have HOWN : Hid (BagOwn (B + 1 + 1 + 1) wr.heap.size wr a L) := hown
          rw [HLN.out] at hv
          subst hv
          have c2 := HO.out.bv.cell (i := 0) (by omega)
          have HSZ : Hid (B + 1 + 1 + 1 ≤ wr.heap.size) := HO.out.low
          clear hown HE HFN
          go_wp2_with fail
          refine (specText_any (B + 1 + 1 + 1) wr.heap.size a k cap L wr HOWN.out.toIn (Nat.le_refl _) HLN.out (by omega) HSM.out).mono ?_
          rintro e w2 ⟨t, ok, rfl, HT, HB2⟩
          have cp := HO.out.res.cell (i := 0) (by omega)
          have fp := HO.out.res.frozen 0
          have d2 := cell_below c2 HB2.out (by have := HSZ.out; omega)
          have df := cell_below cf HB2.out (by have := HSZ.out; omega)
          have dp := cell_below cp HB2.out (by have := HSZ.out; omega)
          have gp := frozen_below' fp HB2.out (by have := HSZ.out; omega)
          have HW2 : Hid (Below B w w2) := HO.out.bel.trans (HB2.out.mono (by have := HSZ.out; omega))
          have HO2 : Hid (BagOwn (B + 1 + 1 + 1) wr.heap.size w2 a L) := HOWN.out.below HB2.out (Nat.le_refl _)
          have HZ2 : Hid (wr.heap.size ≤ w2.heap.size) := HB2.out.size
          clear c2 cf cp fp HB2 HOWN HO
          have HNO : Hid (false = (implRead s.data.toList).2) := by
            show _ = _
            rw [specRead_no (by rw [HSP.out]; rw [HSN.out]; simp)]
          go_wp2
          refine bodyPost_ret (v := .tuple #[.agg #[.slice none 0 0], .bool false]) (by simp [results, Try.results19, go_sem, dp]) rfl ?_
          refine ⟨.slice none 0 0, false, by simp, HNO, ⟨none, 0, by simp, .inl (by simp)⟩, ?_⟩
          rw [← HB.out]; exact HW2.out.setCell (by simp) _
        · have HFN : Hid (sItems M0 st0 = (L, st)) := by have h := HE.out; rw [HSN.out, sItems_none] at h; simpa [Hid, HSN.out] using h
          have HSP : Hid (specRead s.data.toList = (L, decide (st ≠ none) && okBag L && decide (txtTo L L.length = s.data.toList))) := by
            show _ = _
            simp only [specRead]
            rw [← HN.out, ← HST.out, ← HM0.out, HFN.out]
          have HSM : Hid (∀ i, i < k → (at' L i).1.length ≤ 1048576) := by
            intro i hi
            have h := sItems_small M0 st0 i (by rw [HFN.out]; show i < L.length; rw [HLN.out]; exact hi)
            rw [HFN.out] at h
            exact Nat.le_trans h (by omega)
          obtain ⟨a, cap, hv, hown⟩ := HO.out.laid.own (Nat.le_refl _)
          have HOWN : Hid (BagOwn (B + 1 + 1 + 1) wr.heap.size wr a L) := hown
          rw [HLN.out] at hv
          subst hv
          have c2 := HO.out.bv.cell (i := 0) (by omega)
          have HSZ : Hid (B + 1 + 1 + 1 ≤ wr.heap.size) := HO.out.low
          clear hown HE HFN
          go_wp2_with fail
          refine (specText_any (B + 1 + 1 + 1) wr.heap.size a k cap L wr HOWN.out.toIn (Nat.le_refl _) HLN.out (by omega) HSM.out).mono ?_
          rintro e w2 ⟨t, ok, rfl, HT, HB2⟩
          have cp := HO.out.res.cell (i := 0) (by omega)
          have fp := HO.out.res.frozen 0
          have d2 := cell_below c2 HB2.out (by have := HSZ.out; omega)
          have df := cell_below cf HB2.out (by have := HSZ.out; omega)
          have dp := cell_below cp HB2.out (by have := HSZ.out; omega)
          have gp := frozen_below' fp HB2.out (by have := HSZ.out; omega)
          have HW2 : Hid (Below B w w2) := HO.out.bel.trans (HB2.out.mono (by have := HSZ.out; omega))
          have HO2 : Hid (BagOwn (B + 1 + 1 + 1) wr.heap.size w2 a L) := HOWN.out.below HB2.out (Nat.le_refl _)
          have HZ2 : Hid (wr.heap.size ≤ w2.heap.size) := HB2.out.size
          clear c2 cf cp fp HB2 HOWN HO
          have HNO : Hid (false = (implRead s.data.toList).2) := by
            show _ = _
            rw [specRead_no (by rw [HSP.out]; rw [HSN.out]; simp)]
          go_wp2
          refine bodyPost_ret (v := .tuple #[.agg #[.slice none 0 0], .bool false]) (by simp [results, Try.results19, go_sem, dp]) rfl ?_
          refine ⟨.slice none 0 0, false, by simp, HNO, ⟨none, 0, by simp, .inl (by simp)⟩, ?_⟩
          rw [← HB.out]; exact HW2.out.setCell (by simp) _
      · have HFN : Hid (sItems M0 st0 = (L, st)) := by have h := HE.out; rw [HSN.out, sItems_none] at h; simpa [Hid, HSN.out] using h
        have HSP : Hid (specRead s.data.toList = (L, decide (st ≠ none) && okBag L && decide (txtTo L L.length = s.data.toList))) := by
          show _ = _
          simp only [specRead]
          rw [← HN.out, ← HST.out, ← HM0.out, HFN.out]
        have HSM : Hid (∀ i, i < k → (at' L i).1.length ≤ 1048576) := by
          intro i hi
          have h := sItems_small M0 st0 i (by rw [HFN.out]; show i < L.length; rw [HLN.out]; exact hi)
          rw [HFN.out] at h
          exact Nat.le_trans h (by omega)
        obtain ⟨a, cap, hv, hown⟩ := HO.out.laid.own (Nat.le_refl _)
        have HOWN : Hid (BagOwn (B + 1 + 1 + 1) wr.heap.size wr a L) := hown
        rw [HLN.out] at hv
        subst hv
        have c2 := HO.out.bv.cell (i := 0) (by omega)
        have HSZ : Hid (B + 1 + 1 + 1 ≤ wr.heap.size) := HO.out.low
        clear hown HE HFN
        go_wp2_with fail
        refine (specText_any (B + 1 + 1 + 1) wr.heap.size a k cap L wr HOWN.out.toIn (Nat.le_refl _) HLN.out (by omega) HSM.out).mono ?_
        rintro e w2 ⟨t, ok, rfl, HT, HB2⟩
        have cp := HO.out.res.cell (i := 0) (by omega)
        have fp := HO.out.res.frozen 0
        have d2 := cell_below c2 HB2.out (by have := HSZ.out; omega)
        have df := cell_below cf HB2.out (by have := HSZ.out; omega)
        have dp := cell_below cp HB2.out (by have := HSZ.out; omega)
        have gp := frozen_below' fp HB2.out (by have := HSZ.out; omega)
        have HW2 : Hid (Below B w w2) := HO.out.bel.trans (HB2.out.mono (by have := HSZ.out; omega))
        have HO2 : Hid (BagOwn (B + 1 + 1 + 1) wr.heap.size w2 a L) := HOWN.out.below HB2.out (Nat.le_refl _)
        have HZ2 : Hid (wr.heap.size ≤ w2.heap.size) := HB2.out.size
        clear c2 cf cp fp HB2 HOWN HO
        have HNO : Hid (false = (implRead s.data.toList).2) := by
          show _ = _
          rw [specRead_no (by rw [HSP.out]; rw [HSN.out]; simp)]
        go_wp2
        refine bodyPost_ret (v := .tuple #[.agg #[.slice none 0 0], .bool false]) (by simp [results, Try.results19, go_sem, dp]) rfl ?_
        refine ⟨.slice none 0 0, false, by simp, HNO, ⟨none, 0, by simp, .inl (by simp)⟩, ?_⟩
        rw [← HB.out]; exact HW2.out.setCell (by simp) _
    · subst hf
      have HSS : Hid (st ≠ none) := by show _ ≠ _; intro e; have h := HFL.out; rw [e] at h; cases h
      by_cases hN : (k : Int) < (N : Int)
      · by_cases h3 : (k : Int) < 310
        · skip
          have hltM : k < M0 := by have := HM0.out; omega
          obtain ⟨X, HX⟩ : ∃ X, Hid (X = wr.heap.size) := ⟨_, rfl⟩
          have HI0 : Hid (SIn B X w (wr.alloc (.cells #[.slice none 0 0, .int .i64 0] 77)) s st v L (.slice none 0 0) 0 []) := by
            rw [HX.out]
            refine ⟨HO.out.over ((Below.refl _ _).alloc (Nat.le_refl _) _), ?_, by simpa [rowCells] using World.ownsRow_nil (wr.alloc _) (wr.heap.size + 1) 3 1, rfl⟩
            exact (blk_two wr _ rfl _ _ _).congr (fun i hi => by rcases i with _ | _ | i <;> simp at hi ⊢)
          clear HO
          go_wp2_with fail
          rw [← HX.out]
          refine (l03Var_any (B + 1) s st _ HI0.out.out.rd hs).mono ?_
          rintro e w2 ⟨q, rfl, HQ, HRD2, HK2⟩
          obtain ⟨st2, HST2⟩ : ∃ st2, Hid (st2 = (rn st 1000000000).2) := ⟨_, rfl⟩
          rw [← HST2.out] at HRD2
          have HI2 : Hid (SIn B X w w2 s st2 v L (.slice none 0 0) 0 []) := HI0.out.num HK2.out HRD2.out
          obtain ⟨Q, HQ0⟩ : ∃ Q, Hid (Q = min q 10) := ⟨_, rfl⟩
          have hQ3 : Q ≤ 10 := by have := HQ0.out; omega
          have hq9 : q ≤ 1000000000 := by rw [HQ.out]; exact rn_le _ _
          clear HI0 HK2 HRD2 cf
          go_wp2
          go_loopw [10] (fun i wi => ∃ (j : Nat) (l : List Int) (st' : St) (vr : Value), i = .int .i64 j ∧ j ≤ Q ∧ Hid (sNums Q st2 = (l ++ (sNums (Q - j) st').1, (sNums (Q - j) st').2)) ∧ Hid (SIn B X w wi s st' v L vr j l)) (fun i _ => Q - (intOf i).toNat)
          case atStart => exact ⟨0, [], st2, .slice none 0 0, rfl, by omega, by show _ = _; simp, HI2⟩
          case round =>
            obtain ⟨j, l, st', vr, rfl, hj, HEN, HI⟩ := hrel
            have cf := HI.out.out.rd.flag
            obtain ⟨f, HFI⟩ : ∃ f : Bool, Hid (f = st'.isNone) := ⟨_, rfl⟩
            rw [← HFI.out] at cf
            rcases Bool.eq_false_or_eq_true f with hf | hf
            · subst hf
              have HSI : Hid (st' = none) := by simpa [Hid] using HFI.out.symm
              by_cases hN : (j : Int) < (q : Int)
              · by_cases h3 : (j : Int) < 10
                · have HF0 : Hid (sNums Q st2 = (l, st')) := by have h := HEN.out; rw [HSI.out, sNums_none] at h; simpa [Hid, HSI.out] using h
                  go_wp2_with fail
                  refine (l03Var_any (B + 1) s st' wr HI.out.out.rd hs).mono ?_
                  rintro e w6 ⟨z, rfl, HZ, HRD6, HK6⟩
                  have HI6 : Hid (SIn B X w w6 s (rn st' 1000000000).2 v L vr j l) := HI.out.num HK6.out HRD6.out
                  obtain ⟨ra, rc, hvr, hrow6⟩ := rowOwn_of HI6.out.own HI6.out.len
                  subst hvr
                  have HXS : Hid (X < w6.heap.size) := HI6.out.x.lt
                  have HXL : Hid (B + 1 + 1 + 1 ≤ X) := HI6.out.out.low
                  have cx := HI6.out.x.cell (i := 1) (by omega)
                  have cx0 := HI6.out.x.cell (i := 0) (by omega)
                  simp only [Nat.one_ne_zero, if_true, if_false] at cx cx0
                  have fx := HI6.out.x.frozen 1
                  have c26 := HI6.out.out.bv.cell (i := 0) (by omega)
                  have f26 := HI6.out.out.bv.frozen 0
                  have c27 := cell_set (j := 1) c26 (.int .i64 (z : Int)) (show B + 1 + 1 ≠ X by have := HXL.out; omega)
                  have hb78 : Below X w6 ((w6.setCell ⟨X, 1, none⟩ (.int .i64 (z : Int))).alloc (.cells #[.slice ra j rc, .int .i64 (z : Int)] 77)) := ((Below.refl _ _).setCell (by simp) _).alloc (by have := HXS.out; simp; omega) _
                  have HO8 : Hid (SOut B X w ((w6.setCell ⟨X, 1, none⟩ (.int .i64 (z : Int))).alloc (.cells #[.slice ra j rc, .int .i64 (z : Int)] 77)) s (rn st' 1000000000).2 v L) := HI6.out.out.over hb78
                  have hkp : KeptP (fun c => c = X) w6 ((w6.setCell ⟨X, 1, none⟩ (.int .i64 (z : Int))).alloc (.cells #[.slice ra j rc, .int .i64 (z : Int)] 77)) := ((KeptP.refl (fun c => c = X) w6).setCell (g := X) rfl _).trans (KeptP.of_below (below1' _ _) (fun _ h _ => h))
                  have HRW8 : Hid (RowOwn X ((w6.setCell ⟨X, 1, none⟩ (.int .i64 (z : Int))).alloc (.cells #[.slice ra j rc, .int .i64 (z : Int)] 77)).heap.size ((w6.setCell ⟨X, 1, none⟩ (.int .i64 (z : Int))).alloc (.cells #[.slice ra j rc, .int .i64 (z : Int)] 77)) ra l) :=
                    (hrow6.kept (p := fun c => c = X) hkp (fun c hc _ e => by omega)).wide (by omega) hkp.size
                  obtain ⟨f8, R8, C8, hown8, hrows8⟩ := HO8.out.laid
                  rw [HLN.out] at hown8
                  have HROWS8 : Hid (∀ i, i < L.length → (f8 (i * 2) = .slice (R8 i) (at' L i).1.length (C8 i) ∧ f8 (i * 2 + 1) = .int .i64 (at' L i).2) ∧ RowOwn (B + 1 + 1 + 1) X ((w6.setCell ⟨X, 1, none⟩ (.int .i64 (z : Int))).alloc (.cells #[.slice ra j rc, .int .i64 (z : Int)] 77)) (R8 i) (at' L i).1 ∧ Off v (R8 i) (at' L i).1 ∧ ((at' L i).1 ≠ [] → ∀ j, j < i → (at' L j).1 ≠ [] → R8 j ≠ R8 i)) := hrows8
                  have HOWN8 : Hid (World.ownsRow ((w6.setCell ⟨X, 1, none⟩ (.int .i64 (z : Int))).alloc (.cells #[.slice ra j rc, .int .i64 (z : Int)] 77)) (B + 1 + 1 + 1) 77 2 v k ((List.range (k * 2)).map f8)) := hown8
                  have HIT : Hid (sItem st = ((l, (z : Int)), (rn st' 1000000000).2)) := by
                    show _ = _
                    unfold sItem
                    rw [← HQ.out, ← HST2.out, ← HQ0.out, HF0.out, ← HZ.out]
                  have HLL : Hid (l.length = j) := HI6.out.len
                  have HN8 : Hid (∀ i u, [Value.slice ra j rc, Value.int .i64 (z : Int)][i]? = some u → ((w6.setCell ⟨X, 1, none⟩ (.int .i64 (z : Int))).alloc (.cells #[.slice ra j rc, .int .i64 (z : Int)] 77)).cell? ((⟨w6.heap.size, 0, none⟩ : Addr).add i) = some u) := by
                    have h := news_two (w6.setCell ⟨X, 1, none⟩ (.int .i64 (z : Int))) (.slice ra j rc) (.int .i64 (z : Int)) 77
                    simpa [Hid] using h
                  clear hown8 hrows8 hkp hb78 hrow6 HEN HF0 HI HI6 HRD6 HK6 cf
                  go_wp2_with (at_builtin; refine wpList_append_lies _ rfl (.tmp 65) (.tmp 67) 24 rfl (B + 1 + 1 + 1) 77 i1 _ 2 32 Try.underlying24 hj0 hy0 hy1 hy2 rfl (by decide) v k ((List.range (k * 2)).map f8) rfl HOWN8.out ⟨w6.heap.size, 0, none⟩ 1 1 [.slice ra j rc, .int .i64 (z : Int)] rfl rfl HN8.out (by simp [Value.oneCell']) (by decide) (by unfold maxLen; omega) (by omega) (by have := HXS.out; have := HXL.out; simp; omega) _ rfl ?_; intro g9 cap9 w9 hown9 hgrow9 hloc9 _; have hb9 := grown_below hgrow9 HOWN8.out (by have := HXS.out; have := HXL.out; simp; omega); have d9 := cell_below (HO8.out.bv.cell (i := 0) (by omega)) hb9 (by omega); have e9 := frozen_below' (HO8.out.bv.frozen 0) hb9 (by omega))
                  have HO9 : Hid (SOut B w9.heap.size w (w9.setCell ⟨B + 1 + 1, 0, none⟩ (.slice (some ⟨g9, 0, none⟩) (k + 1) cap9)) s (rn st' 1000000000).2 (.slice (some ⟨g9, 0, none⟩) (k + 1) cap9) (L ++ [(l, (z : Int))])) := by
                    refine HO8.out.push (x := (l, (z : Int))) (ra := ra) (rc := rc) HROWS8.out HRW8.out hgrow9 ?_ ?_
                    · rcases hloc9 with h | h
                      · exact .inl (by rw [h]; rfl)
                      · exact .inr (by rw [h]; rfl)
                    · show World.ownsRow _ _ _ _ _ _ (_ ++ [.slice ra l.length rc, _])
                      rw [HLN.out, HLL.out]; exact hown9
                  clear hown9 hgrow9 hloc9 hb9
                  go_roundw
                  case rel =>
                    refine ⟨k + 1, L ++ [(l, (z : Int))], (rn st' 1000000000).2, .slice (some ⟨g9, 0, none⟩) (k + 1) cap9, by go_num, by omega, ?_, by show _ = _; rw [List.length_append, HLN.out]; rfl, ?_⟩
                    · show _ = _
                      rw [HE.out, show M0 - k = (M0 - (k + 1)) + 1 by omega, sItems_succ _ HSS.out, HIT.out]
                      simp
                    · show SOut B (w9.setCell _ _).heap.size w _ s _ _ _
                      have h := HO9.out
                      simpa using h
                  case measure => simp [intOf]; omega
                · have HF0 : Hid (sNums Q st2 = (l, st')) := by have h := HEN.out; rw [HSI.out, sNums_none] at h; simpa [Hid, HSI.out] using h
                  go_wp2_with fail
                  refine (l03Var_any (B + 1) s st' wr HI.out.out.rd hs).mono ?_
                  rintro e w6 ⟨z, rfl, HZ, HRD6, HK6⟩
                  have HI6 : Hid (SIn B X w w6 s (rn st' 1000000000).2 v L vr j l) := HI.out.num HK6.out HRD6.out
                  obtain ⟨ra, rc, hvr, hrow6⟩ := rowOwn_of HI6.out.own HI6.out.len
                  subst hvr
                  have HXS : Hid (X < w6.heap.size) := HI6.out.x.lt
                  have HXL : Hid (B + 1 + 1 + 1 ≤ X) := HI6.out.out.low
                  have cx := HI6.out.x.cell (i := 1) (by omega)
                  have cx0 := HI6.out.x.cell (i := 0) (by omega)
                  simp only [Nat.one_ne_zero, if_true, if_false] at cx cx0
                  have fx := HI6.out.x.frozen 1
                  have c26 := HI6.out.out.bv.cell (i := 0) (by omega)
                  have f26 := HI6.out.out.bv.frozen 0
                  have c27 := cell_set (j := 1) c26 (.int .i64 (z : Int)) (show B + 1 + 1 ≠ X by have := HXL.out; omega)
                  have hb78 : Below X w6 ((w6.setCell ⟨X, 1, none⟩ (.int .i64 (z : Int))).alloc (.cells #[.slice ra j rc, .int .i64 (z : Int)] 77)) := ((Below.refl _ _).setCell (by simp) _).alloc (by have := HXS.out; simp; omega) _
                  have HO8 : Hid (SOut B X w ((w6.setCell ⟨X, 1, none⟩ (.int .i64 (z : Int))).alloc (.cells #[.slice ra j rc, .int .i64 (z : Int)] 77)) s (rn st' 1000000000).2 v L) := HI6.out.out.over hb78
                  have hkp : KeptP (fun c => c = X) w6 ((w6.setCell ⟨X, 1, none⟩ (.int .i64 (z : Int))).alloc (.cells #[.slice ra j rc, .int .i64 (z : Int)] 77)) := ((KeptP.refl (fun c => c = X) w6).setCell (g := X) rfl _).trans (KeptP.of_below (below1' _ _) (fun _ h _ => h))
                  have HRW8 : Hid (RowOwn X ((w6.setCell ⟨X, 1, none⟩ (.int .i64 (z : Int))).alloc (.cells #[.slice ra j rc, .int .i64 (z : Int)] 77)).heap.size ((w6.setCell ⟨X, 1, none⟩ (.int .i64 (z : Int))).alloc (.cells #[.slice ra j rc, .int .i64 (z : Int)] 77)) ra l) :=
                    (hrow6.kept (p := fun c => c = X) hkp (fun c hc _ e => by omega)).wide (by omega) hkp.size
                  obtain ⟨f8, R8, C8, hown8, hrows8⟩ := HO8.out.laid
                  rw [HLN.out] at hown8
                  have HROWS8 : Hid (∀ i, i < L.length → (f8 (i * 2) = .slice (R8 i) (at' L i).1.length (C8 i) ∧ f8 (i * 2 + 1) = .int .i64 (at' L i).2) ∧ RowOwn (B + 1 + 1 + 1) X ((w6.setCell ⟨X, 1, none⟩ (.int .i64 (z : Int))).alloc (.cells #[.slice ra j rc, .int .i64 (z : Int)] 77)) (R8 i) (at' L i).1 ∧ Off v (R8 i) (at' L i).1 ∧ ((at' L i).1 ≠ [] → ∀ j, j < i → (at' L j).1 ≠ [] → R8 j ≠ R8 i)) := hrows8
                  have HOWN8 : Hid (World.ownsRow ((w6.setCell ⟨X, 1, none⟩ (.int .i64 (z : Int))).alloc (.cells #[.slice ra j rc, .int .i64 (z : Int)] 77)) (B + 1 + 1 + 1) 77 2 v k ((List.range (k * 2)).map f8)) := hown8
                  have HIT : Hid (sItem st = ((l, (z : Int)), (rn st' 1000000000).2)) := by
                    show _ = _
                    unfold sItem
                    rw [← HQ.out, ← HST2.out, ← HQ0.out, HF0.out, ← HZ.out]
                  have HLL : Hid (l.length = j) := HI6.out.len
                  have HN8 : Hid (∀ i u, [Value.slice ra j rc, Value.int .i64 (z : Int)][i]? = some u → ((w6.setCell ⟨X, 1, none⟩ (.int .i64 (z : Int))).alloc (.cells #[.slice ra j rc, .int .i64 (z : Int)] 77)).cell? ((⟨w6.heap.size, 0, none⟩ : Addr).add i) = some u) := by
                    have h := news_two (w6.setCell ⟨X, 1, none⟩ (.int .i64 (z : Int))) (.slice ra j rc) (.int .i64 (z : Int)) 77
                    simpa [Hid] using h
                  clear hown8 hrows8 hkp hb78 hrow6 HEN HF0 HI HI6 HRD6 HK6 cf
                  go_wp2_with (at_builtin; refine wpList_append_lies _ rfl (.tmp 65) (.tmp 67) 24 rfl (B + 1 + 1 + 1) 77 i1 _ 2 32 Try.underlying24 hj0 hy0 hy1 hy2 rfl (by decide) v k ((List.range (k * 2)).map f8) rfl HOWN8.out ⟨w6.heap.size, 0, none⟩ 1 1 [.slice ra j rc, .int .i64 (z : Int)] rfl rfl HN8.out (by simp [Value.oneCell']) (by decide) (by unfold maxLen; omega) (by omega) (by have := HXS.out; have := HXL.out; simp; omega) _ rfl ?_; intro g9 cap9 w9 hown9 hgrow9 hloc9 _; have hb9 := grown_below hgrow9 HOWN8.out (by have := HXS.out; have := HXL.out; simp; omega); have d9 := cell_below (HO8.out.bv.cell (i := 0) (by omega)) hb9 (by omega); have e9 := frozen_below' (HO8.out.bv.frozen 0) hb9 (by omega))
                  have HO9 : Hid (SOut B w9.heap.size w (w9.setCell ⟨B + 1 + 1, 0, none⟩ (.slice (some ⟨g9, 0, none⟩) (k + 1) cap9)) s (rn st' 1000000000).2 (.slice (some ⟨g9, 0, none⟩) (k + 1) cap9) (L ++ [(l, (z : Int))])) := by
                    refine HO8.out.push (x := (l, (z : Int))) (ra := ra) (rc := rc) HROWS8.out HRW8.out hgrow9 ?_ ?_
                    · rcases hloc9 with h | h
                      · exact .inl (by rw [h]; rfl)
                      · exact .inr (by rw [h]; rfl)
                    · show World.ownsRow _ _ _ _ _ _ (_ ++ [.slice ra l.length rc, _])
                      rw [HLN.out, HLL.out]; exact hown9
                  clear hown9 hgrow9 hloc9 hb9
                  go_roundw
                  case rel =>
                    refine ⟨k + 1, L ++ [(l, (z : Int))], (rn st' 1000000000).2, .slice (some ⟨g9, 0, none⟩) (k + 1) cap9, by go_num, by omega, ?_, by show _ = _; rw [List.length_append, HLN.out]; rfl, ?_⟩
                    · show _ = _
                      rw [HE.out, show M0 - k = (M0 - (k + 1)) + 1 by omega, sItems_succ _ HSS.out, HIT.out]
                      simp
                    · show SOut B (w9.setCell _ _).heap.size w _ s _ _ _
                      have h := HO9.out
                      simpa using h
                  case measure => simp [intOf]; omega
              · have HF0 : Hid (sNums Q st2 = (l, st')) := by have h := HEN.out; rw [HSI.out, sNums_none] at h; simpa [Hid, HSI.out] using h
                go_wp2_with fail
                refine (l03Var_any (B + 1) s st' wr HI.out.out.rd hs).mono ?_
                rintro e w6 ⟨z, rfl, HZ, HRD6, HK6⟩
                have HI6 : Hid (SIn B X w w6 s (rn st' 1000000000).2 v L vr j l) := HI.out.num HK6.out HRD6.out
                obtain ⟨ra, rc, hvr, hrow6⟩ := rowOwn_of HI6.out.own HI6.out.len
                subst hvr
                have HXS : Hid (X < w6.heap.size) := HI6.out.x.lt
                have HXL : Hid (B + 1 + 1 + 1 ≤ X) := HI6.out.out.low
                have cx := HI6.out.x.cell (i := 1) (by omega)
                have cx0 := HI6.out.x.cell (i := 0) (by omega)
                simp only [Nat.one_ne_zero, if_true, if_false] at cx cx0
                have fx := HI6.out.x.frozen 1
                have c26 := HI6.out.out.bv.cell (i := 0) (by omega)
                have f26 := HI6.out.out.bv.frozen 0
                have c27 := cell_set (j := 1) c26 (.int .i64 (z : Int)) (show B + 1 + 1 ≠ X by have := HXL.out; omega)
                have hb78 : Below X w6 ((w6.setCell ⟨X, 1, none⟩ (.int .i64 (z : Int))).alloc (.cells #[.slice ra j rc, .int .i64 (z : Int)] 77)) := ((Below.refl _ _).setCell (by simp) _).alloc (by have := HXS.out; simp; omega) _
                have HO8 : Hid (SOut B X w ((w6.setCell ⟨X, 1, none⟩ (.int .i64 (z : Int))).alloc (.cells #[.slice ra j rc, .int .i64 (z : Int)] 77)) s (rn st' 1000000000).2 v L) := HI6.out.out.over hb78
                have hkp : KeptP (fun c => c = X) w6 ((w6.setCell ⟨X, 1, none⟩ (.int .i64 (z : Int))).alloc (.cells #[.slice ra j rc, .int .i64 (z : Int)] 77)) := ((KeptP.refl (fun c => c = X) w6).setCell (g := X) rfl _).trans (KeptP.of_below (below1' _ _) (fun _ h _ => h))
                have HRW8 : Hid (RowOwn X ((w6.setCell ⟨X, 1, none⟩ (.int .i64 (z : Int))).alloc (.cells #[.slice ra j rc, .int .i64 (z : Int)] 77)).heap.size ((w6.setCell ⟨X, 1, none⟩ (.int .i64 (z : Int))).alloc (.cells #[.slice ra j rc, .int .i64 (z : Int)] 77)) ra l) :=
                  (hrow6.kept (p := fun c => c = X) hkp (fun c hc _ e => by omega)).wide (by omega) hkp.size
                obtain ⟨f8, R8, C8, hown8, hrows8⟩ := HO8.out.laid
                rw [HLN.out] at hown8
                have HROWS8 : Hid (∀ i, i < L.length → (f8 (i * 2) = .slice (R8 i) (at' L i).1.length (C8 i) ∧ f8 (i * 2 + 1) = .int .i64 (at' L i).2) ∧ RowOwn (B + 1 + 1 + 1) X ((w6.setCell ⟨X, 1, none⟩ (.int .i64 (z : Int))).alloc (.cells #[.slice ra j rc, .int .i64 (z : Int)] 77)) (R8 i) (at' L i).1 ∧ Off v (R8 i) (at' L i).1 ∧ ((at' L i).1 ≠ [] → ∀ j, j < i → (at' L j).1 ≠ [] → R8 j ≠ R8 i)) := hrows8
                have HOWN8 : Hid (World.ownsRow ((w6.setCell ⟨X, 1, none⟩ (.int .i64 (z : Int))).alloc (.cells #[.slice ra j rc, .int .i64 (z : Int)] 77)) (B + 1 + 1 + 1) 77 2 v k ((List.range (k * 2)).map f8)) := hown8
                have HIT : Hid (sItem st = ((l, (z : Int)), (rn st' 1000000000).2)) := by
                  show _ = _
                  unfold sItem
                  rw [← HQ.out, ← HST2.out, ← HQ0.out, HF0.out, ← HZ.out]
                have HLL : Hid (l.length = j) := HI6.out.len
                have HN8 : Hid (∀ i u, [Value.slice ra j rc, Value.int .i64 (z : Int)][i]? = some u → ((w6.setCell ⟨X, 1, none⟩ (.int .i64 (z : Int))).alloc (.cells #[.slice ra j rc, .int .i64 (z : Int)] 77)).cell? ((⟨w6.heap.size, 0, none⟩ : Addr).add i) = some u) := by
                  have h := news_two (w6.setCell ⟨X, 1, none⟩ (.int .i64 (z : Int))) (.slice ra j rc) (.int .i64 (z : Int)) 77
                  simpa [Hid] using h
                clear hown8 hrows8 hkp hb78 hrow6 HEN HF0 HI HI6 HRD6 HK6 cf
                go_wp2_with (at_builtin; refine wpList_append_lies _ rfl (.tmp 65) (.tmp 67) 24 rfl (B + 1 + 1 + 1) 77 i1 _ 2 32 Try.underlying24 hj0 hy0 hy1 hy2 rfl (by decide) v k ((List.range (k * 2)).map f8) rfl HOWN8.out ⟨w6.heap.size, 0, none⟩ 1 1 [.slice ra j rc, .int .i64 (z : Int)] rfl rfl HN8.out (by simp [Value.oneCell']) (by decide) (by unfold maxLen; omega) (by omega) (by have := HXS.out; have := HXL.out; simp; omega) _ rfl ?_; intro g9 cap9 w9 hown9 hgrow9 hloc9 _; have hb9 := grown_below hgrow9 HOWN8.out (by have := HXS.out; have := HXL.out; simp; omega); have d9 := cell_below (HO8.out.bv.cell (i := 0) (by omega)) hb9 (by omega); have e9 := frozen_below' (HO8.out.bv.frozen 0) hb9 (by omega))
                have HO9 : Hid (SOut B w9.heap.size w (w9.setCell ⟨B + 1 + 1, 0, none⟩ (.slice (some ⟨g9, 0, none⟩) (k + 1) cap9)) s (rn st' 1000000000).2 (.slice (some ⟨g9, 0, none⟩) (k + 1) cap9) (L ++ [(l, (z : Int))])) := by
                  refine HO8.out.push (x := (l, (z : Int))) (ra := ra) (rc := rc) HROWS8.out HRW8.out hgrow9 ?_ ?_
                  · rcases hloc9 with h | h
                    · exact .inl (by rw [h]; rfl)
                    · exact .inr (by rw [h]; rfl)
                  · show World.ownsRow _ _ _ _ _ _ (_ ++ [.slice ra l.length rc, _])
                    rw [HLN.out, HLL.out]; exact hown9
                clear hown9 hgrow9 hloc9 hb9
                go_roundw
                case rel =>
                  refine ⟨k + 1, L ++ [(l, (z : Int))], (rn st' 1000000000).2, .slice (some ⟨g9, 0, none⟩) (k + 1) cap9, by go_num, by omega, ?_, by show _ = _; rw [List.length_append, HLN.out]; rfl, ?_⟩
                  · show _ = _
                    rw [HE.out, show M0 - k = (M0 - (k + 1)) + 1 by omega, sItems_succ _ HSS.out, HIT.out]
                    simp
                  · show SOut B (w9.setCell _ _).heap.size w _ s _ _ _
                    have h := HO9.out
                    simpa using h
                case measure => simp [intOf]; omega
            · subst hf
              have HSI : Hid (st' ≠ none) := by show _ ≠ _; intro e; have h := HFI.out; rw [e] at h; cases h
              by_cases hN : (j : Int) < (q : Int)
              · by_cases h3 : (j : Int) < 10
                · skip
                  have hjQ : j < Q := by have := HQ0.out; omega
                  have HID : Hid (SIn B X w wr.drew s st' v L vr j l) := HI.out.drew
                  have c3d := HID.out.x.cell (i := 0) (by omega)
                  simp only [if_true] at c3d
                  clear HI
                  go_wp2_with fail
                  clear cf
                  refine wp_region_held_drew (S := fun _ => True) (by kernel_rfl) trivial (fun hHeld => ?_)
                  refine wpAnyH_take (i := 0) (oi := _) (v := ?_) rfl (by kernel_rfl) (by kernel_rfl) (by kernel_rfl) (fun _ _ _ h => h) (Or.inl ⟨by rfl, ?_⟩) (by assumption) ?_
                  rotate_left
                  · intro w hSw; (try dsimp only at hSw); go_simp; try with_reducible rfl
                  simp only [Act.put]
                  refine wpAnyH_take (i := 2) (oi := _) (v := ?_) rfl (by kernel_rfl) (by kernel_rfl) (by kernel_rfl) (fun _ _ _ h => h) (Or.inl ⟨by rfl, ?_⟩) (by assumption) ?_
                  rotate_left
                  · intro w hSw; (try dsimp only at hSw); go_simp; try with_reducible rfl
                  simp only [Act.put]
                  refine wpAnyH_ready (rs := [1, 3]) (by kernel_rfl) (by simp) ?_
                  refine AllReadyH.cons rfl (fun K hK => ?_) ?_
                  · go_simp
                    refine hK.out _ _ hHeld (fun hHeld => ?_)
                    clear hK K
                    refine wpAnyH_ready (rs := [3]) (by kernel_rfl) (by simp) ?_
                    refine AllReadyH.cons rfl (fun K hK => ?_) ?_
                    · go_simp; go_wp2_with (go_at_call 64; refine (l03Var_any (B + 1) s st' wr.drew HID.out.out.rd hs).mono ?_; rintro e w4 ⟨t, rfl, HT, HRD4, HK4⟩); have HI4 : Hid (SIn B X w w4 s (rn st' 1000000000).2 v L vr j l) := HID.out.num HK4.out HRD4.out; have d4 := HI4.out.x.cell (i := 0) (by omega); have d4a := fun o => cell_below d4 (below1' w4 o) HI4.out.x.lt; simp only [if_true] at d4 d4a
                      refine hK.out _ _ (trivial) (fun hHeld => ?_)
                      clear hK K
                      refine wpAnyH_ready (rs := [4]) (by kernel_rfl) (by simp) ?_
                      refine AllReadyH.cons rfl (fun K hK => ?_) ?_
                      · go_simp
                        refine hK.out _ _ (trivial) (fun hHeld => ?_)
                        clear hK K
                        refine wpAnyH_ready (rs := [5]) (by kernel_rfl) (by simp) ?_
                        refine AllReadyH.cons rfl (fun K hK => ?_) ?_
                        · refine step_append_lies _ rfl (.tmp 55) (.tmp 58) 39 rfl (X + 1) 3 i0 (.int .i64 0) 1 8 Try.underlying39 hi0 hz0 hz1 hz2 rfl (by decide) vr j (rowCells l) rfl (HI4.out.own.alloc _) ⟨w4.heap.size, 0, none⟩ 1 1 [.int .i64 (t : Int)] rfl rfl (cell_one_new _ _ _) (by simp [Value.oneCell']) (by decide) (by unfold maxLen; omega) (by omega) (by have := HI4.out.x.lt; simp; omega) _ rfl ?_; intro g5 cap5 w5 hown5 hgrow5 hloc5 _; have hb5 := grown_below hgrow5 HI4.out.own (by have := HI4.out.x.lt; simp; omega); have d5 := cell_below (d4a (.cells #[.int .i64 (t : Int)] 3)) hb5 (by omega); have e5 := frozen_below (HI4.out.x.frozen 0) (below1' w4 (.cells #[.int .i64 (t : Int)] 3)) hb5 HI4.out.x.lt (by omega)
                          refine hK.out _ _ (trivial) (fun hHeld => ?_)
                          clear hK K
                          refine wpAnyH_take (i := 6) (oi := _) (v := ?_) rfl (by kernel_rfl) (by kernel_rfl) (by kernel_rfl) (fun _ _ _ h => h) (Or.inl ⟨by rfl, ?_⟩) (by assumption) ?_
                          rotate_left
                          · intro w hSw; (try dsimp only at hSw); go_simp; try with_reducible rfl
                          simp only [Act.put]
                          refine wpAnyH_ready (rs := [7]) (by kernel_rfl) (by simp) ?_
                          refine AllReadyH.cons rfl (fun K hK => ?_) ?_
                          · go_simp
                            refine hK.out _ _ (trivial) (fun hHeld => ?_)
                            clear hK K
                            refine wpAnyH_done (by kernel_rfl) ?_ _
                            have HI5 : Hid (SIn B X w (w5.setCell ⟨X, 0, none⟩ (.slice (some ⟨g5, 0, none⟩) (j + 1) cap5)) s (rn st' 1000000000).2 v L (.slice (some ⟨g5, 0, none⟩) (j + 1) cap5) (j + 1) (l ++ [(t : Int)])) := HI4.out.push hgrow5 hown5
                            clear hown5 hgrow5 hloc5 hb5 d5 e5 d4 d4a hHeld HRD4 HK4 HI4 HID c3d
                            go_wp2
                            go_roundw
                            case rel =>
                              refine ⟨j + 1, l ++ [(t : Int)], (rn st' 1000000000).2, .slice (some ⟨g5, 0, none⟩) (j + 1) cap5, by go_num, by omega, ?_, HI5⟩
                              show _ = _
                              rw [HEN.out, show Q - j = (Q - (j + 1)) + 1 by omega, sNums_succ _ HSI.out, ← HT.out]
                              simp
                            case measure => simp [intOf]; omega
                          exact AllReadyH.nil
                        exact AllReadyH.nil
                      exact AllReadyH.nil
                    exact AllReadyH.nil
                  refine AllReadyH.cons rfl (fun K hK => ?_) ?_
                  · go_simp; go_wp2_with (go_at_call 64; refine (l03Var_any (B + 1) s st' wr.drew HID.out.out.rd hs).mono ?_; rintro e w4 ⟨t, rfl, HT, HRD4, HK4⟩); have HI4 : Hid (SIn B X w w4 s (rn st' 1000000000).2 v L vr j l) := HID.out.num HK4.out HRD4.out; have d4 := HI4.out.x.cell (i := 0) (by omega); have d4a := fun o => cell_below d4 (below1' w4 o) HI4.out.x.lt; simp only [if_true] at d4 d4a
                    refine hK.out _ _ (trivial) (fun hHeld => ?_)
                    clear hK K
                    refine wpAnyH_ready (rs := [1, 4]) (by kernel_rfl) (by simp) ?_
                    refine AllReadyH.cons rfl (fun K hK => ?_) ?_
                    · go_simp
                      refine hK.out _ _ hHeld (fun hHeld => ?_)
                      clear hK K
                      refine wpAnyH_ready (rs := [4]) (by kernel_rfl) (by simp) ?_
                      refine AllReadyH.cons rfl (fun K hK => ?_) ?_
                      · go_simp
                        refine hK.out _ _ (trivial) (fun hHeld => ?_)
                        clear hK K
                        refine wpAnyH_ready (rs := [5]) (by kernel_rfl) (by simp) ?_
                        refine AllReadyH.cons rfl (fun K hK => ?_) ?_
                        · refine step_append_lies _ rfl (.tmp 55) (.tmp 58) 39 rfl (X + 1) 3 i0 (.int .i64 0) 1 8 Try.underlying39 hi0 hz0 hz1 hz2 rfl (by decide) vr j (rowCells l) rfl (HI4.out.own.alloc _) ⟨w4.heap.size, 0, none⟩ 1 1 [.int .i64 (t : Int)] rfl rfl (cell_one_new _ _ _) (by simp [Value.oneCell']) (by decide) (by unfold maxLen; omega) (by omega) (by have := HI4.out.x.lt; simp; omega) _ rfl ?_; intro g5 cap5 w5 hown5 hgrow5 hloc5 _; have hb5 := grown_below hgrow5 HI4.out.own (by have := HI4.out.x.lt; simp; omega); have d5 := cell_below (d4a (.cells #[.int .i64 (t : Int)] 3)) hb5 (by omega); have e5 := frozen_below (HI4.out.x.frozen 0) (below1' w4 (.cells #[.int .i64 (t : Int)] 3)) hb5 HI4.out.x.lt (by omega)
                          refine hK.out _ _ (trivial) (fun hHeld => ?_)
                          clear hK K
                          refine wpAnyH_take (i := 6) (oi := _) (v := ?_) rfl (by kernel_rfl) (by kernel_rfl) (by kernel_rfl) (fun _ _ _ h => h) (Or.inl ⟨by rfl, ?_⟩) (by assumption) ?_
                          rotate_left
                          · intro w hSw; (try dsimp only at hSw); go_simp; try with_reducible rfl
                          simp only [Act.put]
                          refine wpAnyH_ready (rs := [7]) (by kernel_rfl) (by simp) ?_
                          refine AllReadyH.cons rfl (fun K hK => ?_) ?_
                          · go_simp
                            refine hK.out _ _ (trivial) (fun hHeld => ?_)
                            clear hK K
                            refine wpAnyH_done (by kernel_rfl) ?_ _
                            have HI5 : Hid (SIn B X w (w5.setCell ⟨X, 0, none⟩ (.slice (some ⟨g5, 0, none⟩) (j + 1) cap5)) s (rn st' 1000000000).2 v L (.slice (some ⟨g5, 0, none⟩) (j + 1) cap5) (j + 1) (l ++ [(t : Int)])) := HI4.out.push hgrow5 hown5
                            clear hown5 hgrow5 hloc5 hb5 d5 e5 d4 d4a hHeld HRD4 HK4 HI4 HID c3d
                            go_wp2
                            go_roundw
                            case rel =>
                              refine ⟨j + 1, l ++ [(t : Int)], (rn st' 1000000000).2, .slice (some ⟨g5, 0, none⟩) (j + 1) cap5, by go_num, by omega, ?_, HI5⟩
                              show _ = _
                              rw [HEN.out, show Q - j = (Q - (j + 1)) + 1 by omega, sNums_succ _ HSI.out, ← HT.out]
                              simp
                            case measure => simp [intOf]; omega
                          exact AllReadyH.nil
                        exact AllReadyH.nil
                      exact AllReadyH.nil
                    refine AllReadyH.cons rfl (fun K hK => ?_) ?_
                    · go_simp
                      refine hK.out _ _ (trivial) (fun hHeld => ?_)
                      clear hK K
                      refine wpAnyH_ready (rs := [1]) (by kernel_rfl) (by simp) ?_
                      refine AllReadyH.cons rfl (fun K hK => ?_) ?_
                      · go_simp
                        refine hK.out _ _ hHeld (fun hHeld => ?_)
                        clear hK K
                        refine wpAnyH_ready (rs := [5]) (by kernel_rfl) (by simp) ?_
                        refine AllReadyH.cons rfl (fun K hK => ?_) ?_
                        · refine step_append_lies _ rfl (.tmp 55) (.tmp 58) 39 rfl (X + 1) 3 i0 (.int .i64 0) 1 8 Try.underlying39 hi0 hz0 hz1 hz2 rfl (by decide) vr j (rowCells l) rfl (HI4.out.own.alloc _) ⟨w4.heap.size, 0, none⟩ 1 1 [.int .i64 (t : Int)] rfl rfl (cell_one_new _ _ _) (by simp [Value.oneCell']) (by decide) (by unfold maxLen; omega) (by omega) (by have := HI4.out.x.lt; simp; omega) _ rfl ?_; intro g5 cap5 w5 hown5 hgrow5 hloc5 _; have hb5 := grown_below hgrow5 HI4.out.own (by have := HI4.out.x.lt; simp; omega); have d5 := cell_below (d4a (.cells #[.int .i64 (t : Int)] 3)) hb5 (by omega); have e5 := frozen_below (HI4.out.x.frozen 0) (below1' w4 (.cells #[.int .i64 (t : Int)] 3)) hb5 HI4.out.x.lt (by omega)
                          refine hK.out _ _ (trivial) (fun hHeld => ?_)
                          clear hK K
                          refine wpAnyH_take (i := 6) (oi := _) (v := ?_) rfl (by kernel_rfl) (by kernel_rfl) (by kernel_rfl) (fun _ _ _ h => h) (Or.inl ⟨by rfl, ?_⟩) (by assumption) ?_
                          rotate_left
                          · intro w hSw; (try dsimp only at hSw); go_simp; try with_reducible rfl
                          simp only [Act.put]
                          refine wpAnyH_ready (rs := [7]) (by kernel_rfl) (by simp) ?_
                          refine AllReadyH.cons rfl (fun K hK => ?_) ?_
                          · go_simp
                            refine hK.out _ _ (trivial) (fun hHeld => ?_)
                            clear hK K
                            refine wpAnyH_done (by kernel_rfl) ?_ _
                            have HI5 : Hid (SIn B X w (w5.setCell ⟨X, 0, none⟩ (.slice (some ⟨g5, 0, none⟩) (j + 1) cap5)) s (rn st' 1000000000).2 v L (.slice (some ⟨g5, 0, none⟩) (j + 1) cap5) (j + 1) (l ++ [(t : Int)])) := HI4.out.push hgrow5 hown5
                            clear hown5 hgrow5 hloc5 hb5 d5 e5 d4 d4a hHeld HRD4 HK4 HI4 HID c3d
                            go_wp2
                            go_roundw
                            case rel =>
                              refine ⟨j + 1, l ++ [(t : Int)], (rn st' 1000000000).2, .slice (some ⟨g5, 0, none⟩) (j + 1) cap5, by go_num, by omega, ?_, HI5⟩
                              show _ = _
                              rw [HEN.out, show Q - j = (Q - (j + 1)) + 1 by omega, sNums_succ _ HSI.out, ← HT.out]
                              simp
                            case measure => simp [intOf]; omega
                          exact AllReadyH.nil
                        exact AllReadyH.nil
                      exact AllReadyH.nil
                    exact AllReadyH.nil
                  exact AllReadyH.nil
                · have HF0 : Hid (sNums Q st2 = (l, st')) := by have h := HEN.out; rw [show Q - j = 0 by have := HQ0.out; omega, sNums_zero] at h; simpa [Hid] using h
                  go_wp2_with fail
                  refine (l03Var_any (B + 1) s st' wr HI.out.out.rd hs).mono ?_
                  rintro e w6 ⟨z, rfl, HZ, HRD6, HK6⟩
                  have HI6 : Hid (SIn B X w w6 s (rn st' 1000000000).2 v L vr j l) := HI.out.num HK6.out HRD6.out
                  obtain ⟨ra, rc, hvr, hrow6⟩ := rowOwn_of HI6.out.own HI6.out.len
                  subst hvr
                  have HXS : Hid (X < w6.heap.size) := HI6.out.x.lt
                  have HXL : Hid (B + 1 + 1 + 1 ≤ X) := HI6.out.out.low
                  have cx := HI6.out.x.cell (i := 1) (by omega)
                  have cx0 := HI6.out.x.cell (i := 0) (by omega)
                  simp only [Nat.one_ne_zero, if_true, if_false] at cx cx0
                  have fx := HI6.out.x.frozen 1
                  have c26 := HI6.out.out.bv.cell (i := 0) (by omega)
                  have f26 := HI6.out.out.bv.frozen 0
                  have c27 := cell_set (j := 1) c26 (.int .i64 (z : Int)) (show B + 1 + 1 ≠ X by have := HXL.out; omega)
                  have hb78 : Below X w6 ((w6.setCell ⟨X, 1, none⟩ (.int .i64 (z : Int))).alloc (.cells #[.slice ra j rc, .int .i64 (z : Int)] 77)) := ((Below.refl _ _).setCell (by simp) _).alloc (by have := HXS.out; simp; omega) _
                  have HO8 : Hid (SOut B X w ((w6.setCell ⟨X, 1, none⟩ (.int .i64 (z : Int))).alloc (.cells #[.slice ra j rc, .int .i64 (z : Int)] 77)) s (rn st' 1000000000).2 v L) := HI6.out.out.over hb78
                  have hkp : KeptP (fun c => c = X) w6 ((w6.setCell ⟨X, 1, none⟩ (.int .i64 (z : Int))).alloc (.cells #[.slice ra j rc, .int .i64 (z : Int)] 77)) := ((KeptP.refl (fun c => c = X) w6).setCell (g := X) rfl _).trans (KeptP.of_below (below1' _ _) (fun _ h _ => h))
                  have HRW8 : Hid (RowOwn X ((w6.setCell ⟨X, 1, none⟩ (.int .i64 (z : Int))).alloc (.cells #[.slice ra j rc, .int .i64 (z : Int)] 77)).heap.size ((w6.setCell ⟨X, 1, none⟩ (.int .i64 (z : Int))).alloc (.cells #[.slice ra j rc, .int .i64 (z : Int)] 77)) ra l) :=
                    (hrow6.kept (p := fun c => c = X) hkp (fun c hc _ e => by omega)).wide (by omega) hkp.size
                  obtain ⟨f8, R8, C8, hown8, hrows8⟩ := HO8.out.laid
                  rw [HLN.out] at hown8
                  have HROWS8 : Hid (∀ i, i < L.length → (f8 (i * 2) = .slice (R8 i) (at' L i).1.length (C8 i) ∧ f8 (i * 2 + 1) = .int .i64 (at' L i).2) ∧ RowOwn (B + 1 + 1 + 1) X ((w6.setCell ⟨X, 1, none⟩ (.int .i64 (z : Int))).alloc (.cells #[.slice ra j rc, .int .i64 (z : Int)] 77)) (R8 i) (at' L i).1 ∧ Off v (R8 i) (at' L i).1 ∧ ((at' L i).1 ≠ [] → ∀ j, j < i → (at' L j).1 ≠ [] → R8 j ≠ R8 i)) := hrows8
                  have HOWN8 : Hid (World.ownsRow ((w6.setCell ⟨X, 1, none⟩ (.int .i64 (z : Int))).alloc (.cells #[.slice ra j rc, .int .i64 (z : Int)] 77)) (B + 1 + 1 + 1) 77 2 v k ((List.range (k * 2)).map f8)) := hown8
                  have HIT : Hid (sItem st = ((l, (z : Int)), (rn st' 1000000000).2)) := by
                    show _ = _
                    unfold sItem
                    rw [← HQ.out, ← HST2.out, ← HQ0.out, HF0.out, ← HZ.out]
                  have HLL : Hid (l.length = j) := HI6.out.len
                  have HN8 : Hid (∀ i u, [Value.slice ra j rc, Value.int .i64 (z : Int)][i]? = some u → ((w6.setCell ⟨X, 1, none⟩ (.int .i64 (z : Int))).alloc (.cells #[.slice ra j rc, .int .i64 (z : Int)] 77)).cell? ((⟨w6.heap.size, 0, none⟩ : Addr).add i) = some u) := by
                    have h := news_two (w6.setCell ⟨X, 1, none⟩ (.int .i64 (z : Int))) (.slice ra j rc) (.int .i64 (z : Int)) 77
                    simpa [Hid] using h
                  clear hown8 hrows8 hkp hb78 hrow6 HEN HF0 HI HI6 HRD6 HK6 cf
                  go_wp2_with (at_builtin; refine wpList_append_lies _ rfl (.tmp 65) (.tmp 67) 24 rfl (B + 1 + 1 + 1) 77 i1 _ 2 32 Try.underlying24 hj0 hy0 hy1 hy2 rfl (by decide) v k ((List.range (k * 2)).map f8) rfl HOWN8.out ⟨w6.heap.size, 0, none⟩ 1 1 [.slice ra j rc, .int .i64 (z : Int)] rfl rfl HN8.out (by simp [Value.oneCell']) (by decide) (by unfold maxLen; omega) (by omega) (by have := HXS.out; have := HXL.out; simp; omega) _ rfl ?_; intro g9 cap9 w9 hown9 hgrow9 hloc9 _; have hb9 := grown_below hgrow9 HOWN8.out (by have := HXS.out; have := HXL.out; simp; omega); have d9 := cell_below (HO8.out.bv.cell (i := 0) (by omega)) hb9 (by omega); have e9 := frozen_below' (HO8.out.bv.frozen 0) hb9 (by omega))
                  have HO9 : Hid (SOut B w9.heap.size w (w9.setCell ⟨B + 1 + 1, 0, none⟩ (.slice (some ⟨g9, 0, none⟩) (k + 1) cap9)) s (rn st' 1000000000).2 (.slice (some ⟨g9, 0, none⟩) (k + 1) cap9) (L ++ [(l, (z : Int))])) := by
                    refine HO8.out.push (x := (l, (z : Int))) (ra := ra) (rc := rc) HROWS8.out HRW8.out hgrow9 ?_ ?_
                    · rcases hloc9 with h | h
                      · exact .inl (by rw [h]; rfl)
                      · exact .inr (by rw [h]; rfl)
                    · show World.ownsRow _ _ _ _ _ _ (_ ++ [.slice ra l.length rc, _])
                      rw [HLN.out, HLL.out]; exact hown9
                  clear hown9 hgrow9 hloc9 hb9
                  go_roundw
                  case rel =>
                    refine ⟨k + 1, L ++ [(l, (z : Int))], (rn st' 1000000000).2, .slice (some ⟨g9, 0, none⟩) (k + 1) cap9, by go_num, by omega, ?_, by show _ = _; rw [List.length_append, HLN.out]; rfl, ?_⟩
                    · show _ = _
                      rw [HE.out, show M0 - k = (M0 - (k + 1)) + 1 by omega, sItems_succ _ HSS.out, HIT.out]
                      simp
                    · show SOut B (w9.setCell _ _).heap.size w _ s _ _ _
                      have h := HO9.out
                      simpa using h
                  case measure => simp [intOf]; omega
              · have HF0 : Hid (sNums Q st2 = (l, st')) := by have h := HEN.out; rw [show Q - j = 0 by have := HQ0.out; omega, sNums_zero] at h; simpa [Hid] using h
                go_wp2_with fail
                refine (l03Var_any (B + 1) s st' wr HI.out.out.rd hs).mono ?_
                rintro e w6 ⟨z, rfl, HZ, HRD6, HK6⟩
                have HI6 : Hid (SIn B X w w6 s (rn st' 1000000000).2 v L vr j l) := HI.out.num HK6.out HRD6.out
                obtain ⟨ra, rc, hvr, hrow6⟩ := rowOwn_of HI6.out.own HI6.out.len
                subst hvr
                have HXS : Hid (X < w6.heap.size) := HI6.out.x.lt
                have HXL : Hid (B + 1 + 1 + 1 ≤ X) := HI6.out.out.low
                have cx := HI6.out.x.cell (i := 1) (by omega)
                have cx0 := HI6.out.x.cell (i := 0) (by omega)
                simp only [Nat.one_ne_zero, if_true, if_false] at cx cx0
                have fx := HI6.out.x.frozen 1
                have c26 := HI6.out.out.bv.cell (i := 0) (by omega)
                have f26 := HI6.out.out.bv.frozen 0
                have c27 := cell_set (j := 1) c26 (.int .i64 (z : Int)) (show B + 1 + 1 ≠ X by have := HXL.out; omega)
                have hb78 : Below X w6 ((w6.setCell ⟨X, 1, none⟩ (.int .i64 (z : Int))).alloc (.cells #[.slice ra j rc, .int .i64 (z : Int)] 77)) := ((Below.refl _ _).setCell (by simp) _).alloc (by have := HXS.out; simp; omega) _
                have HO8 : Hid (SOut B X w ((w6.setCell ⟨X, 1, none⟩ (.int .i64 (z : Int))).alloc (.cells #[.slice ra j rc, .int .i64 (z : Int)] 77)) s (rn st' 1000000000).2 v L) := HI6.out.out.over hb78
                have hkp : KeptP (fun c => c = X) w6 ((w6.setCell ⟨X, 1, none⟩ (.int .i64 (z : Int))).alloc (.cells #[.slice ra j rc, .int .i64 (z : Int)] 77)) := ((KeptP.refl (fun c => c = X) w6).setCell (g := X) rfl _).trans (KeptP.of_below (below1' _ _) (fun _ h _ => h))
                have HRW8 : Hid (RowOwn X ((w6.setCell ⟨X, 1, none⟩ (.int .i64 (z : Int))).alloc (.cells #[.slice ra j rc, .int .i64 (z : Int)] 77)).heap.size ((w6.setCell ⟨X, 1, none⟩ (.int .i64 (z : Int))).alloc (.cells #[.slice ra j rc, .int .i64 (z : Int)] 77)) ra l) :=
                  (hrow6.kept (p := fun c => c = X) hkp (fun c hc _ e => by omega)).wide (by omega) hkp.size
                obtain ⟨f8, R8, C8, hown8, hrows8⟩ := HO8.out.laid
                rw [HLN.out] at hown8
                have HROWS8 : Hid (∀ i, i < L.length → (f8 (i * 2) = .slice (R8 i) (at' L i).1.length (C8 i) ∧ f8 (i * 2 + 1) = .int .i64 (at' L i).2) ∧ RowOwn (B + 1 + 1 + 1) X ((w6.setCell ⟨X, 1, none⟩ (.int .i64 (z : Int))).alloc (.cells #[.slice ra j rc, .int .i64 (z : Int)] 77)) (R8 i) (at' L i).1 ∧ Off v (R8 i) (at' L i).1 ∧ ((at' L i).1 ≠ [] → ∀ j, j < i → (at' L j).1 ≠ [] → R8 j ≠ R8 i)) := hrows8
                have HOWN8 : Hid (World.ownsRow ((w6.setCell ⟨X, 1, none⟩ (.int .i64 (z : Int))).alloc (.cells #[.slice ra j rc, .int .i64 (z : Int)] 77)) (B + 1 + 1 + 1) 77 2 v k ((List.range (k * 2)).map f8)) := hown8
                have HIT : Hid (sItem st = ((l, (z : Int)), (rn st' 1000000000).2)) := by
                  show _ = _
                  unfold sItem
                  rw [← HQ.out, ← HST2.out, ← HQ0.out, HF0.out, ← HZ.out]
                have HLL : Hid (l.length = j) := HI6.out.len
                have HN8 : Hid (∀ i u, [Value.slice ra j rc, Value.int .i64 (z : Int)][i]? = some u → ((w6.setCell ⟨X, 1, none⟩ (.int .i64 (z : Int))).alloc (.cells #[.slice ra j rc, .int .i64 (z : Int)] 77)).cell? ((⟨w6.heap.size, 0, none⟩ : Addr).add i) = some u) := by
                  have h := news_two (w6.setCell ⟨X, 1, none⟩ (.int .i64 (z : Int))) (.slice ra j rc) (.int .i64 (z : Int)) 77
                  simpa [Hid] using h
                clear hown8 hrows8 hkp hb78 hrow6 HEN HF0 HI HI6 HRD6 HK6 cf
                go_wp2_with (at_builtin; refine wpList_append_lies _ rfl (.tmp 65) (.tmp 67) 24 rfl (B + 1 + 1 + 1) 77 i1 _ 2 32 Try.underlying24 hj0 hy0 hy1 hy2 rfl (by decide) v k ((List.range (k * 2)).map f8) rfl HOWN8.out ⟨w6.heap.size, 0, none⟩ 1 1 [.slice ra j rc, .int .i64 (z : Int)] rfl rfl HN8.out (by simp [Value.oneCell']) (by decide) (by unfold maxLen; omega) (by omega) (by have := HXS.out; have := HXL.out; simp; omega) _ rfl ?_; intro g9 cap9 w9 hown9 hgrow9 hloc9 _; have hb9 := grown_below hgrow9 HOWN8.out (by have := HXS.out; have := HXL.out; simp; omega); have d9 := cell_below (HO8.out.bv.cell (i := 0) (by omega)) hb9 (by omega); have e9 := frozen_below' (HO8.out.bv.frozen 0) hb9 (by omega))
                have HO9 : Hid (SOut B w9.heap.size w (w9.setCell ⟨B + 1 + 1, 0, none⟩ (.slice (some ⟨g9, 0, none⟩) (k + 1) cap9)) s (rn st' 1000000000).2 (.slice (some ⟨g9, 0, none⟩) (k + 1) cap9) (L ++ [(l, (z : Int))])) := by
                  refine HO8.out.push (x := (l, (z : Int))) (ra := ra) (rc := rc) HROWS8.out HRW8.out hgrow9 ?_ ?_
                  · rcases hloc9 with h | h
                    · exact .inl (by rw [h]; rfl)
                    · exact .inr (by rw [h]; rfl)
                  · show World.ownsRow _ _ _ _ _ _ (_ ++ [.slice ra l.length rc, _])
                    rw [HLN.out, HLL.out]; exact hown9
                clear hown9 hgrow9 hloc9 hb9
                go_roundw
                case rel =>
                  refine ⟨k + 1, L ++ [(l, (z : Int))], (rn st' 1000000000).2, .slice (some ⟨g9, 0, none⟩) (k + 1) cap9, by go_num, by omega, ?_, by show _ = _; rw [List.length_append, HLN.out]; rfl, ?_⟩
                  · show _ = _
                    rw [HE.out, show M0 - k = (M0 - (k + 1)) + 1 by omega, sItems_succ _ HSS.out, HIT.out]
                    simp
                  · show SOut B (w9.setCell _ _).heap.size w _ s _ _ _
                    have h := HO9.out
                    simpa using h
                case measure => simp [intOf]; omega
        · have HFN : Hid (sItems M0 st0 = (L, st)) := by have h := HE.out; rw [show M0 - k = 0 by have := HM0.out; omega, sItems_zero] at h; simpa [Hid] using h
          have HSP : Hid (specRead s.data.toList = (L, decide (st ≠ none) && okBag L && decide (txtTo L L.length = s.data.toList))) := by
            show _ = _
            simp only [specRead]
            rw [← HN.out, ← HST.out, ← HM0.out, HFN.out]
          have HSM : Hid (∀ i, i < k → (at' L i).1.length ≤ 1048576) := by
            intro i hi
            have h := sItems_small M0 st0 i (by rw [HFN.out]; show i < L.length; rw [HLN.out]; exact hi)
            rw [HFN.out] at h
            exact Nat.le_trans h (by omega)
          obtain ⟨a, cap, hv, hown⟩ := HO.out.laid.own (Nat.le_refl _)
          have HOWN : Hid (BagOwn (B + 1 + 1 + 1) wr.heap.size wr a L) := hown
          rw [HLN.out] at hv
          subst hv
          have c2 := HO.out.bv.cell (i := 0) (by omega)
          have HSZ : Hid (B + 1 + 1 + 1 ≤ wr.heap.size) := HO.out.low
          clear hown HE HFN
          go_wp2_with fail
          refine (specText_any (B + 1 + 1 + 1) wr.heap.size a k cap L wr HOWN.out.toIn (Nat.le_refl _) HLN.out (by omega) HSM.out).mono ?_
          rintro e w2 ⟨t, ok, rfl, HT, HB2⟩
          have cp := HO.out.res.cell (i := 0) (by omega)
          have fp := HO.out.res.frozen 0
          have d2 := cell_below c2 HB2.out (by have := HSZ.out; omega)
          have df := cell_below cf HB2.out (by have := HSZ.out; omega)
          have dp := cell_below cp HB2.out (by have := HSZ.out; omega)
          have gp := frozen_below' fp HB2.out (by have := HSZ.out; omega)
          have HW2 : Hid (Below B w w2) := HO.out.bel.trans (HB2.out.mono (by have := HSZ.out; omega))
          have HO2 : Hid (BagOwn (B + 1 + 1 + 1) wr.heap.size w2 a L) := HOWN.out.below HB2.out (Nat.le_refl _)
          have HZ2 : Hid (wr.heap.size ≤ w2.heap.size) := HB2.out.size
          clear c2 cf cp fp HB2 HOWN HO

          obtain ⟨hok, htx⟩ := HT.out
          rcases Bool.eq_false_or_eq_true ok with ho | ho
          · subst ho
            by_cases hts : t = s
            · subst hts
              have HYES : Hid (implRead t.data.toList = (L, true)) := by
                have h2 : (specRead t.data.toList).2 = true := by
                  rw [HSP.out]
                  have e : txtTo L L.length = t.data.toList := by
                    have h3 := congrArg (fun b : ByteArray => b.data.toList) htx
                    simp only [txtOf, ← hok, if_true] at h3
                    exact h3.symm
                  simp [HSS.out, ← hok, e]
                have h3 := specRead_yes h2
                rw [HSP.out] at h3
                exact h3
              clear HT hok htx
              go_wp2
              refine bodyPost_ret (v := .tuple #[.agg #[.slice a k cap], .bool true]) (by simp [results, Try.results19, go_sem, dp]) rfl ?_
              refine ⟨.slice a k cap, true, by simp, by show _ = _; rw [HYES.out], ⟨a, cap, by rw [HYES.out]; simp [HLN.out], ?_⟩, ?_⟩
              · rw [HYES.out, ← HB.out]
                show BagOwn _ _ _ a L
                exact (HO2.out.kept (p := fun c => c = B) ((KeptP.refl (fun c => c = B) w2).setCell (g := B) rfl _) HZ2.out (fun c hc _ e => by omega)).wide (by omega) (by simpa using HZ2.out)
              · rw [← HB.out]; exact HW2.out.setCell (by simp) _
            · have hne : txtTo L L.length ≠ s.data.toList := by
                intro e
                apply hts
                rw [htx]
                unfold txtOf
                rw [← hok, if_pos rfl, e]
              have hts1 : (!t.toList == s.toList) = true := by
                simp only [Bool.not_eq_true', beq_eq_false_iff_ne]
                intro e
                exact hts (by simpa [ByteArray.toList_eq, ByteArray.ext_iff] using e)
              clear HT htx
              have HNO : Hid (false = (implRead s.data.toList).2) := by
                show _ = _
                rw [specRead_no (by rw [HSP.out]; simp [hne])]
              clear hne hok
              go_wp2
              refine bodyPost_ret (v := .tuple #[.agg #[.slice none 0 0], .bool false]) (by simp [results, Try.results19, go_sem, dp]) rfl ?_
              refine ⟨.slice none 0 0, false, by simp, HNO, ⟨none, 0, by simp, .inl (by simp)⟩, ?_⟩
              rw [← HB.out]; exact HW2.out.setCell (by simp) _

          · subst ho
            clear HT htx
            have HNO : Hid (false = (implRead s.data.toList).2) := by
              show _ = _
              rw [specRead_no (by rw [HSP.out]; simp [← hok])]
            clear hok
            go_wp2
            refine bodyPost_ret (v := .tuple #[.agg #[.slice none 0 0], .bool false]) (by simp [results, Try.results19, go_sem, dp]) rfl ?_
            refine ⟨.slice none 0 0, false, by simp, HNO, ⟨none, 0, by simp, .inl (by simp)⟩, ?_⟩
            rw [← HB.out]; exact HW2.out.setCell (by simp) _
      · have HFN : Hid (sItems M0 st0 = (L, st)) := by have h := HE.out; rw [show M0 - k = 0 by have := HM0.out; omega, sItems_zero] at h; simpa [Hid] using h
        have HSP : Hid (specRead s.data.toList = (L, decide (st ≠ none) && okBag L && decide (txtTo L L.length = s.data.toList))) := by
          show _ = _
          simp only [specRead]
          rw [← HN.out, ← HST.out, ← HM0.out, HFN.out]
        have HSM : Hid (∀ i, i < k → (at' L i).1.length ≤ 1048576) := by
          intro i hi
          have h := sItems_small M0 st0 i (by rw [HFN.out]; show i < L.length; rw [HLN.out]; exact hi)
          rw [HFN.out] at h
          exact Nat.le_trans h (by omega)
        obtain ⟨a, cap, hv, hown⟩ := HO.out.laid.own (Nat.le_refl _)
        have HOWN : Hid (BagOwn (B + 1 + 1 + 1) wr.heap.size wr a L) := hown
        rw [HLN.out] at hv
        subst hv
        have c2 := HO.out.bv.cell (i := 0) (by omega)
        have HSZ : Hid (B + 1 + 1 + 1 ≤ wr.heap.size) := HO.out.low
        clear hown HE HFN
        go_wp2_with fail
        refine (specText_any (B + 1 + 1 + 1) wr.heap.size a k cap L wr HOWN.out.toIn (Nat.le_refl _) HLN.out (by omega) HSM.out).mono ?_
        rintro e w2 ⟨t, ok, rfl, HT, HB2⟩
        have cp := HO.out.res.cell (i := 0) (by omega)
        have fp := HO.out.res.frozen 0
        have d2 := cell_below c2 HB2.out (by have := HSZ.out; omega)
        have df := cell_below cf HB2.out (by have := HSZ.out; omega)
        have dp := cell_below cp HB2.out (by have := HSZ.out; omega)
        have gp := frozen_below' fp HB2.out (by have := HSZ.out; omega)
        have HW2 : Hid (Below B w w2) := HO.out.bel.trans (HB2.out.mono (by have := HSZ.out; omega))
        have HO2 : Hid (BagOwn (B + 1 + 1 + 1) wr.heap.size w2 a L) := HOWN.out.below HB2.out (Nat.le_refl _)
        have HZ2 : Hid (wr.heap.size ≤ w2.heap.size) := HB2.out.size
        clear c2 cf cp fp HB2 HOWN HO

        obtain ⟨hok, htx⟩ := HT.out
        rcases Bool.eq_false_or_eq_true ok with ho | ho
        · subst ho
          by_cases hts : t = s
          · subst hts
            have HYES : Hid (implRead t.data.toList = (L, true)) := by
              have h2 : (specRead t.data.toList).2 = true := by
                rw [HSP.out]
                have e : txtTo L L.length = t.data.toList := by
                  have h3 := congrArg (fun b : ByteArray => b.data.toList) htx
                  simp only [txtOf, ← hok, if_true] at h3
                  exact h3.symm
                simp [HSS.out, ← hok, e]
              have h3 := specRead_yes h2
              rw [HSP.out] at h3
              exact h3
            clear HT hok htx
            go_wp2
            refine bodyPost_ret (v := .tuple #[.agg #[.slice a k cap], .bool true]) (by simp [results, Try.results19, go_sem, dp]) rfl ?_
            refine ⟨.slice a k cap, true, by simp, by show _ = _; rw [HYES.out], ⟨a, cap, by rw [HYES.out]; simp [HLN.out], ?_⟩, ?_⟩
            · rw [HYES.out, ← HB.out]
              show BagOwn _ _ _ a L
              exact (HO2.out.kept (p := fun c => c = B) ((KeptP.refl (fun c => c = B) w2).setCell (g := B) rfl _) HZ2.out (fun c hc _ e => by omega)).wide (by omega) (by simpa using HZ2.out)
            · rw [← HB.out]; exact HW2.out.setCell (by simp) _
          · have hne : txtTo L L.length ≠ s.data.toList := by
              intro e
              apply hts
              rw [htx]
              unfold txtOf
              rw [← hok, if_pos rfl, e]
            have hts1 : (!t.toList == s.toList) = true := by
              simp only [Bool.not_eq_true', beq_eq_false_iff_ne]
              intro e
              exact hts (by simpa [ByteArray.toList_eq, ByteArray.ext_iff] using e)
            clear HT htx
            have HNO : Hid (false = (implRead s.data.toList).2) := by
              show _ = _
              rw [specRead_no (by rw [HSP.out]; simp [hne])]
            clear hne hok
            go_wp2
            refine bodyPost_ret (v := .tuple #[.agg #[.slice none 0 0], .bool false]) (by simp [results, Try.results19, go_sem, dp]) rfl ?_
            refine ⟨.slice none 0 0, false, by simp, HNO, ⟨none, 0, by simp, .inl (by simp)⟩, ?_⟩
            rw [← HB.out]; exact HW2.out.setCell (by simp) _

        · subst ho
          clear HT htx
          have HNO : Hid (false = (implRead s.data.toList).2) := by
            show _ = _
            rw [specRead_no (by rw [HSP.out]; simp [← hok])]
          clear hok
          go_wp2
          refine bodyPost_ret (v := .tuple #[.agg #[.slice none 0 0], .bool false]) (by simp [results, Try.results19, go_sem, dp]) rfl ?_
          refine ⟨.slice none 0 0, false, by simp, HNO, ⟨none, 0, by simp, .inl (by simp)⟩, ?_⟩
          rw [← HB.out]; exact HW2.out.setCell (by simp) _
end Go.Proofs.Ytelikebpddhncaa
