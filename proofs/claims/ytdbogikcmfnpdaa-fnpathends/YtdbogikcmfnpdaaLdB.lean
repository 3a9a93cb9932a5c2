/-
  Leads: one behind the other, nothing taken, again and again, the vertices of a word of bits.
-/
import Derived.Test.YtdbogikcmfnpdaaLdA
import Derived.Test.YtdbogikcmfnpdaaNxS
import Derived.Deep.DeepCutAuto
namespace Go.Proofs.Ytdbogikcmfnpdaa
open Go.RowKit

theorem index_leads (f : Nat → Nat) {k : Nat} (hk : k < 13) (w : World) : (Instr.index 87 (.agg (lcells f).toArray) (.int .i64 (k : Int))).run Try.prog w = .ok (.int .u16 (f k : Int)) w := by
  have e : (lcells f)[k]'(by rw [lcells_len]; exact hk) = .int .u16 (f k : Int) := by simp [lcells]
  simp [Instr.index, go_sem, hk, lcells_len, e]

set_option maxHeartbeats 4000000 in
set_option maxRecDepth 100000 in
theorem nothing_any (w : World) : Calls Try.prog 95 #[] w fun e w' => (∃ f, e = .returned (lv f) ∧ Hid (∀ i, i < 13 → f i = idF i)) ∧ Hid (Below w.heap.size w w') := by
  obtain ⟨B, HB⟩ : ∃ B, Hid (B = w.heap.size) := ⟨_, rfl⟩
  go_enter Try.func95, Try.ntmps95
  go_wp2
  rw [← HB.out]
  go_loopw [4] (fun i wr => ∃ k : Nat, i = .int .i64 k ∧ k ≤ 13 ∧ Hid (LBlk wr B (fun _ => 0)) ∧ Hid (LBlk wr (B + 1) (fun j => if j < k then 2 ^ j else 0)) ∧ Hid (Below w.heap.size w wr)) (fun i _ => 13 - (intOf i).toNat)
  case atStart =>
    refine ⟨0, rfl, by omega, Blk.alloc (LBlk.zero w B HB.out _) _, (LBlk.zero _ (B + 1) (by rw [HB.out]; simp) _).congr (fun i _ => by simp), below2 _ _ _⟩
  case round =>
    obtain ⟨k, rfl, hk, HX, HY, HL⟩ := hrel
    by_cases hlt : k < 13
    · have hlt1 : (k : Int) < 13 := by omega
      have hlt0 : (0 : Int) ≤ (k : Int) := by omega
      have c1 := HY.out.get hlt
      have fz := Blk.frozen HY.out k
      go_wp2_with fail
      refine (endAt_any k _ hlt).mono ?_
      rintro e w1 ⟨⟨x, rfl, HXX⟩, rfl⟩
      go_wp2
      go_roundw
      case rel =>
        refine ⟨k + 1, by go_num, by omega, HX.out.of (Below.heap_setCell _ _ _ _ (by simp)), ?_, HL.out.setCell (p := ⟨B + 1, k, none⟩) (by show w.heap.size ≤ B + 1; have := HB.out; omega) _⟩
        refine (HY.out.set1 hlt x).congr fun i hi => ?_
        by_cases e : i = k
        · subst e; simp [HXX.out]
        · by_cases e2 : i < k
          · simp [e, e2, show i < k + 1 by omega]
          · simp [e, e2, show ¬ i < k + 1 by omega]
      case measure => simp [intOf]; omega
    · obtain rfl : k = 13 := by omega
      obtain ⟨F, HFF⟩ : ∃ F : Nat → Nat, Hid (F = fun j => if j < 13 then 2 ^ j else 0) := ⟨fun j => if j < 13 then 2 ^ j else 0, rfl⟩
      rw [← HFF.out] at HY
      go_wp2_with (first | (refine wpList_load_mid rfl 87 _ rfl (B + 1) 0 rfl (lcells F) _ HY.out.range Try.underlying87 rfl (by rw [lcells_len]; exact info_leads) ?_) | (refine wpList_store_mid rfl 87 _ _ rfl B 0 (lcells F).toArray rfl rfl (by rw [lcells_size]; exact HX.out.there) (by rw [lcells_size]; exact info_leads) (lcells_one _) ?_))
      refine bodyPost_ret (results_row (by exact Try.results95) rfl (load_leads (HX.out.put F))) rfl ?_
      exact ⟨⟨F, rfl, fun i hi => by rw [HFF.out]; simp [hi, idF]⟩, Below.setCells (by have := HB.out; omega) _ _ HL.out⟩

theorem thenTo_lt {f g : Nat → Nat} {v : Nat} (hg : ∀ i, i < 13 → g i < 65536) : ∀ m, m ≤ 13 → thenTo f g v m < 65536
  | 0, _ => by simp [thenTo]
  | m + 1, h => by
    have ih := thenTo_lt (f := f) (v := v) hg m (by omega)
    unfold thenTo
    split
    · exact or_lt ih (hg m (by omega))
    · exact ih

set_option maxHeartbeats 8000000 in
set_option maxRecDepth 100000 in
theorem then_any (f g : Nat → Nat) (w : World) (hf : ∀ i, i < 13 → f i < 65536) (hg : ∀ i, i < 13 → g i < 65536) : Calls Try.prog 96 #[lv f, lv g] w fun e w' => (∃ h, e = .returned (lv h) ∧ Hid (∀ i, i < 13 → h i = thenF f g i)) ∧ Hid (Below w.heap.size w w') := by
  have HF : Hid (∀ i, i < 13 → f i < 65536) := hf
  have HG : Hid (∀ i, i < 13 → g i < 65536) := hg
  clear hf hg
  obtain ⟨cf, HCF⟩ : ∃ cf, Hid (cf = (lcells f).toArray) := ⟨_, rfl⟩
  obtain ⟨cg, HCG⟩ : ∃ cf, Hid (cf = (lcells g).toArray) := ⟨_, rfl⟩
  have hf : cf.size = 13 := by rw [HCF.out]; simp [lcells]
  have hg : cg.size = 13 := by rw [HCG.out]; simp [lcells]
  unfold lv
  rw [← HCF.out, ← HCG.out]
  obtain ⟨B, HB⟩ : ∃ B, Hid (B = w.heap.size) := ⟨_, rfl⟩
  obtain ⟨W, HW⟩ : ∃ W, Hid (W = (((w.alloc (.cells cf 87)).alloc (.cells cg 87)).alloc (.cells #[.int .u16 0, .int .u16 0, .int .u16 0, .int .u16 0, .int .u16 0, .int .u16 0, .int .u16 0, .int .u16 0, .int .u16 0, .int .u16 0, .int .u16 0, .int .u16 0, .int .u16 0] 87)).alloc (.cells #[.int .u16 0, .int .u16 0, .int .u16 0, .int .u16 0, .int .u16 0, .int .u16 0, .int .u16 0, .int .u16 0, .int .u16 0, .int .u16 0, .int .u16 0, .int .u16 0, .int .u16 0] 87)) := ⟨_, rfl⟩
  have HBW : Hid (Below w.heap.size w W) := by rw [HW.out]; exact (below3 w _ _ _).trans ((below1 _ _).mono (by simp; omega))
  have HX : Hid (LBlk W B f) := by rw [HW.out, HCF.out]; exact Blk.alloc (Blk.alloc (Blk.alloc (LBlk.new w B HB.out f _) _) _) _
  have HY : Hid (LBlk W (B + 1) g) := by rw [HW.out, HCG.out]; exact Blk.alloc (Blk.alloc (LBlk.new _ (B + 1) (by rw [HB.out]; simp) g _) _) _
  have HR : Hid (LBlk W (B + 1 + 1) (fun _ => 0)) := by rw [HW.out]; exact Blk.alloc (LBlk.zero _ (B + 1 + 1) (by rw [HB.out]; simp) _) _
  have HZ : Hid (LBlk W (B + 1 + 1 + 1) (fun _ => 0)) := by rw [HW.out]; exact LBlk.zero _ (B + 1 + 1 + 1) (by rw [HB.out]; simp) _
  go_enter Try.func96, Try.ntmps96
  go_upto_region 2 with fail
  rw [← HB.out, ← HW.out]
  clear HW
  go_wp2_with (refine wpList_load_mid rfl 87 _ rfl B 0 rfl (lcells f) _ HX.out.range Try.underlying87 rfl (by rw [lcells_len]; exact info_leads) ?_)
  rw [← HCF.out]
  go_loopw [12] (fun i wr => ∃ k : Nat, i = .int .i64 k ∧ k ≤ 13 ∧ Hid (LBlk wr (B + 1 + 1 + 1) (fun j => if j < k then thenF f g j else 0)) ∧ Hid (KeptP (fun c => c = B + 1 + 1 + 1) W wr)) (fun i _ => 13 - (intOf i).toNat)
  case atStart => exact ⟨0, rfl, by omega, HZ.out.congr (fun i _ => by simp), KeptP.refl _ _⟩
  case round =>
    obtain ⟨k, rfl, hk, HZR, HL⟩ := hrel
    by_cases hlt : k < 13
    · have hlt1 : (k : Int) < 13 := by omega
      have hlt0 : (0 : Int) ≤ (k : Int) := by omega
      obtain ⟨x, HXX⟩ : ∃ x, Hid (x = f k) := ⟨_, rfl⟩
      have hix : ∀ w, (Instr.index 87 (.agg cf) (.int .i64 (k : Int))).run Try.prog w = .ok (.int .u16 (x : Int)) w := fun w => by rw [HCF.out, HXX.out]; exact index_leads f hlt w
      have hx : x < 65536 := by rw [HXX.out]; exact HF.out k hlt
      have HYR : Hid (LBlk wr (B + 1) g) := HL.out.blk HY.out (by omega)
      go_wp2_with (refine wpList_load_mid rfl 87 _ rfl (B + 1) 0 rfl (lcells g) _ HYR.out.range Try.underlying87 rfl (by rw [lcells_len]; exact info_leads) ?_)
      rw [← HCG.out]
      clear hix
      go_loopw [17] (fun j wr => ∃ m : Nat, j = .int .i64 m ∧ m ≤ 13 ∧ Hid (LBlk wr (B + 1 + 1 + 1) (fun j => if j < k then thenF f g j else if j = k then thenTo f g k m else 0)) ∧ Hid (KeptP (fun c => c = B + 1 + 1 + 1) W wr)) (fun j _ => 13 - (intOf j).toNat)
      case atStart => exact ⟨0, rfl, by omega, HZR.out.congr (fun i _ => by by_cases e : i < k <;> simp [e, thenTo]), HL⟩
      case round =>
        obtain ⟨m, rfl, hm, HZQ, HLQ⟩ := hrel
        by_cases hmt : m < 13
        · have hmt1 : (m : Int) < 13 := by omega
          have hmt0 : (0 : Int) ≤ (m : Int) := by omega
          obtain ⟨y, HYY⟩ : ∃ x, Hid (x = g m) := ⟨_, rfl⟩
          have hiy : ∀ w, (Instr.index 87 (.agg cg) (.int .i64 (m : Int))).run Try.prog w = .ok (.int .u16 (y : Int)) w := fun w => by rw [HCG.out, HYY.out]; exact index_leads g hmt w
          have hy : y < 65536 := by rw [HYY.out]; exact HG.out m hmt
          obtain ⟨r, HRR⟩ : ∃ r, Hid (r = x.testBit m) := ⟨_, rfl⟩
          have HST : Hid (thenTo f g k (m + 1) = if r = true then thenTo f g k m ||| y else thenTo f g k m) := by
            show _ = _
            rw [HRR.out, HXX.out, HYY.out]; rfl
          obtain ⟨z, HZZ⟩ : ∃ z, Hid (z = thenTo f g k m) := ⟨_, rfl⟩
          have hz : z < 65536 := by rw [HZZ.out]; exact thenTo_lt HG.out m hm
          have c0 := HZQ.out.get hlt
          rw [if_neg (by omega), if_pos rfl, ← HZZ.out] at c0
          rw [← HZZ.out] at HST
          have fz := Blk.frozen HZQ.out k
          go_wp2_with fail
          refine (has_any x m r _ hmt hx HRR.out).mono ?_
          rintro e w1 ⟨rfl, rfl⟩
          rcases Bool.eq_false_or_eq_true r with hr | hr
          · subst hr
            have hb := u16_or_nat z y hz hy
            have HST2 : Hid (thenTo f g k (m + 1) = z ||| y) := by show _ = _; rw [HST.out]; rfl
            go_wp2
            go_roundw
            case rel =>
              refine ⟨m + 1, by go_num, by omega, ?_, HLQ.out.setCell rfl _⟩
              refine (HZQ.out.set1 hlt (z ||| y)).congr fun i hi => ?_
              by_cases e : i = k
              · subst e; simp [HST2.out]
              · simp [e]
            case measure => simp [intOf]; omega
          · subst hr
            have HST2 : Hid (thenTo f g k (m + 1) = z) := by show _ = _; rw [HST.out]; rfl
            go_wp2
            go_roundw
            case rel =>
              refine ⟨m + 1, by go_num, by omega, ?_, HLQ⟩
              refine HZQ.out.congr fun i hi => ?_
              rw [HST2.out, ← HZZ.out]
            case measure => simp [intOf]; omega
        · obtain rfl : m = 13 := by omega
          go_wp2
          go_roundw
          case rel =>
            refine ⟨k + 1, by go_num, by omega, ?_, HLQ⟩
            refine HZQ.out.congr fun i hi => ?_
            by_cases e : i = k
            · subst e; simp [thenF]
            · by_cases e2 : i < k
              · simp [e2, show i < k + 1 by omega]
              · simp [e, e2, show ¬ i < k + 1 by omega]
          case measure => simp [intOf]; omega
    · obtain rfl : k = 13 := by omega
      obtain ⟨F, HFF⟩ : ∃ F : Nat → Nat, Hid (F = fun j => if j < 13 then thenF f g j else 0) := ⟨fun j => if j < 13 then thenF f g j else 0, rfl⟩
      rw [← HFF.out] at HZR
      have HRR : Hid (LBlk wr (B + 1 + 1) (fun _ => 0)) := HL.out.blk HR.out (by omega)
      have HBF : Hid (Below w.heap.size w wr) := HBW.out.trans (HL.out.to_below HBW.out.size (fun c hc => by have := HB.out; omega))
      go_wp2_with (first | (refine wpList_load_mid rfl 87 _ rfl (B + 1 + 1 + 1) 0 rfl (lcells F) _ HZR.out.range Try.underlying87 rfl (by rw [lcells_len]; exact info_leads) ?_) | (refine wpList_store_mid rfl 87 _ _ rfl (B + 1 + 1) 0 (lcells F).toArray rfl rfl (by rw [lcells_size]; exact HRR.out.there) (by rw [lcells_size]; exact info_leads) (lcells_one _) ?_))
      refine bodyPost_ret (results_row (by exact Try.results96) rfl (load_leads (HRR.out.put F))) rfl ?_
      exact ⟨⟨F, rfl, fun i hi => by rw [HFF.out]; simp [hi]⟩, Below.setCells (by have := HB.out; omega) _ _ HBF.out⟩

/-- the vertices of a word of bits -/
def vertsTo (x k : Nat) : List Int := ((List.range k).filter x.testBit).map fun (i : Nat) => (i : Int)
theorem vertsTo_succ (x k : Nat) : vertsTo x (k + 1) = vertsTo x k ++ (if x.testBit k = true then [(k : Int)] else []) := by
  unfold vertsTo
  rw [List.range_succ, List.filter_append, List.map_append]
  split <;> simp [*]
theorem vertsTo_len (x k : Nat) : (vertsTo x k).length ≤ k := by
  unfold vertsTo
  rw [List.length_map]
  exact Nat.le_trans (List.length_filter_le _ _) (by simp)

set_option maxHeartbeats 4000000 in
set_option maxRecDepth 100000 in
theorem vertices_any (x : Nat) (w : World) (hx : x < 65536) : Calls Try.prog 52 #[.int .u16 (x : Int)] w fun e w' => ∃ (a' : Option Addr) (n' cap' : Nat), e = .returned (.slice a' n' cap') ∧ Hid ((vertsTo x 12).length = n') ∧ Hid (RowOwn w.heap.size w'.heap.size w' a' (vertsTo x 12)) ∧ Hid (Below w.heap.size w w') := by
  obtain ⟨i0, hi0, hz0, hz1, hz2⟩ := info_parts Try.info3
  obtain ⟨B, HB⟩ : ∃ B, Hid (B = w.heap.size) := ⟨_, rfl⟩
  go_enter Try.func52, Try.ntmps52
  go_wp2
  rw [← HB.out]
  go_loopw [6, 3] (fun i v wr => ∃ k m : Nat, i = .int .i64 k ∧ k ≤ 12 ∧ Hid (wr.ownsRow B 3 1 v m (rowCells (vertsTo x k))) ∧ Hid ((vertsTo x k).length = m) ∧ Hid (Below B w wr)) (fun i _ _ => 12 - (intOf i).toNat)
  case atStart =>
    refine ⟨0, 0, rfl, by omega, ?_, rfl, ?_⟩
    · show World.ownsRow _ _ _ _ _ _ []
      have := World.ownsRow_made w (base := B) (e := 3) (size := 1) #[] 0 (by rw [HB.out]; exact Nat.le_refl _) (Nat.zero_le _) rfl
      simpa [HB.out] using this
    · exact (Below.refl _ _).alloc (by rw [HB.out]; exact Nat.le_refl _) _
  case round =>
    obtain ⟨k, m, rfl, hk, HO, HM, HL⟩ := hrel
    have hmk : m ≤ k := by rw [← HM.out]; exact vertsTo_len x k
    have hszr : B ≤ wr.heap.size := by have := HL.out.size; have := HB.out; omega
    by_cases hlt : k < 12
    · have hlt1 : (k : Int) < 12 := by omega
      have hlt0 : (0 : Int) ≤ (k : Int) := by omega
      obtain ⟨r, HRR⟩ : ∃ r, Hid (r = x.testBit k) := ⟨_, rfl⟩
      have HST : Hid (vertsTo x (k + 1) = vertsTo x k ++ (if r = true then [(k : Int)] else [])) := by show _ = _; rw [HRR.out]; exact vertsTo_succ x k
      go_wp2_with fail
      refine (has_any x k r _ (by omega) hx HRR.out).mono ?_
      rintro e w1 ⟨rfl, rfl⟩
      rcases Bool.eq_false_or_eq_true r with hr | hr
      · subst hr
        have HST2 : Hid (vertsTo x (k + 1) = vertsTo x k ++ [(k : Int)]) := by show _ = _; rw [HST.out]; rfl
        have hown := HO.out.alloc (.cells #[.int .i64 (k : Int)] 3)
        go_wp2_with (at_builtin; refine wpList_append_lies _ rfl (.tmp 12) (.tmp 14) 29 rfl B 3 i0 (.int .i64 0) 1 8 Try.underlying29 hi0 hz0 hz1 hz2 rfl (by decide) _ m (rowCells (vertsTo x k)) rfl hown ⟨wr.heap.size, 0, none⟩ 1 1 [.int .i64 (k : Int)] rfl rfl (cell_one_new' wr (.int .i64 (k : Int)) 3) (by simp [Value.oneCell']) (by decide) (by unfold maxLen; omega) (by omega) (by simp; omega) _ rfl ?_)
        intro g2 cap2 w2 hown2 hgrow2 _ _
        have HL2 : Hid (Below B w w2) := (HL.out.alloc hszr _).grown hgrow2 (by simp; omega) (fun k hk => (HO.out.lt k hk).1)
        have HO2 : Hid (w2.ownsRow B 3 1 (.slice (some ⟨g2, 0, none⟩) (m + 1) cap2) (m + 1) (rowCells (vertsTo x (k + 1)))) := by rw [HST2.out, rowCells_snoc]; exact hown2
        clear hown hown2 hgrow2
        go_wp2
        go_roundw
        case rel => exact ⟨k + 1, m + 1, by go_num, by omega, HO2, by show _ = _; rw [HST2.out, List.length_append, HM.out]; rfl, HL2⟩
        case measure => simp [intOf]; omega
      · subst hr
        have HST2 : Hid (vertsTo x (k + 1) = vertsTo x k) := by show _ = _; rw [HST.out]; simp
        go_wp2
        go_roundw
        case rel => exact ⟨k + 1, m, by go_num, by omega, by rw [HST2.out]; exact HO, by show _ = _; rw [HST2.out, HM.out], HL⟩
        case measure => simp [intOf]; omega
    · obtain rfl : k = 12 := by omega
      obtain ⟨a3, cap3, hv3, HR3⟩ := rowOwn_of HO.out HM.out
      have HR4 : Hid (RowOwn B wr.heap.size wr a3 (vertsTo x 12)) := HR3
      subst hv3
      clear HR3
      go_wp2
      go_ret
      exact ⟨a3, m, cap3, rfl, HM, by rw [← HB.out]; exact HR4, by rw [← HB.out]; exact HL⟩
end Go.Proofs.Ytdbogikcmfnpdaa
