/-
  spec.TurnedPath.
-/
import Derived.Test.YtgfioakidefkdaaTnI
namespace Go.Proofs.Ytgfioakidefkdaa
open Go.RowKit

/-- as it was but for a box and what is new -/
abbrev Off (P M : Nat) (w w' : World) : Prop := KeptP (fun c => c = P ∨ M ≤ c) w w'
theorem turn_kid {r : Bool} {x y : Int} {ks : List Int} {TR : List Int} {m : Nat} (h : TR = (if r = true then turnPc (x, y, ks) else (x, y, ks)).2.2) (hm : m < ks.length) : TR.getD m 0 = if r = true ∧ x = 2 then ks.getD (ks.length - 1 - m) 0 else ks.getD m 0 := by
  rw [h]
  by_cases hr : r = true
  · rw [if_pos hr]
    unfold turnPc
    dsimp only
    by_cases hx : x = 2
    · rw [if_pos hx, if_pos ⟨hr, hx⟩]
      simp only [List.getD]
      rw [List.getElem?_reverse hm]
    · rw [if_neg hx, if_neg (fun h => hx h.2)]
  · rw [if_neg hr, if_neg (fun h => hr h.1)]

set_option maxHeartbeats 8000000 in
set_option maxRecDepth 100000 in
theorem specTurned_path (lo hi : Nat) (a : Option Addr) (n cap : Nat) (l : List Pc) (w : World) (ha : PathIn lo hi w a l) (hh : hi ≤ w.heap.size) (hn : l.length = n) (hm : n ≤ 1048576) (hq : ∀ i, i < n → (pat l i).2.2.length ≤ 1048576) :
    Calls Try.prog 18 #[pv a n cap] w fun e w' => ∃ a' cap', e = .returned (pv a' n cap') ∧ Hid (PathOwn w.heap.size w'.heap.size w' a' (turnP l)) ∧ Hid (Below w.heap.size w w') := by
  have HN : Hid (l.length = n) := hn
  have HA : Hid (PathIn lo hi w a l) := ha
  have HH : Hid (hi ≤ w.heap.size) := hh
  have HQ : Hid (∀ i, i < n → (pat l i).2.2.length ≤ 1048576) := hq
  clear ha hh hn hq
  obtain ⟨i3, hi3, hz30, hz31, hz32⟩ := info_parts Try.info3
  obtain ⟨i8, hi8, hz80, hz81, hz82⟩ := info_parts Try.info72
  obtain ⟨r, HR⟩ : ∃ r, Hid (r = okP l) := ⟨_, rfl⟩
  obtain ⟨TL, HTLL⟩ : ∃ TL, Hid (TL = turnP l) := ⟨_, rfl⟩
  have HTN : Hid (TL.length = n) := by show _ = _; rw [HTLL.out, turnP_len, HN.out]
  rw [← HTLL.out]
  obtain ⟨B, HB⟩ : ∃ B, Hid (B = w.heap.size) := ⟨_, rfl⟩
  obtain ⟨W, HW⟩ : ∃ W, Hid (W = ((w.alloc (.cells #[.slice a n cap] 30)).alloc (.cells #[.slice none 0 0] 30)).alloc (.cells #[.slice none 0 0] 30)) := ⟨_, rfl⟩
  have HBW : Hid (Below w.heap.size w W) := by rw [HW.out]; exact below3 w _ _ _
  have HSW : Hid (W.heap.size = B + 3) := by rw [HW.out, HB.out]; show _ = _; simp
  have HG : Hid (Blk W B 1 (fun _ => .slice a n cap)) := by rw [HW.out]; exact ((blk_one w B HB.out _ _).alloc _).alloc _
  have HK : Hid (Blk W (B + 1) 1 (fun _ => .slice none 0 0)) := by rw [HW.out]; exact (blk_one _ (B + 1) (by rw [HB.out]; simp) _ _).alloc _
  have HX : Hid (Blk W (B + 1 + 1) 1 (fun _ => .slice none 0 0)) := by rw [HW.out]; exact blk_one _ (B + 1 + 1) (by rw [HB.out]; simp) _ _
  have g0 := HG.out.cell (i := 0) (by omega)
  go_enter Try.func18, Try.ntmps18
  go_upto_region 2 with fail
  rw [← HB.out, ← HW.out]
  clear HW
  go_wp2_with fail
  refine (specPathOk_any lo hi a n cap l r W (HA.out.below HBW.out HH.out) (Nat.le_trans HH.out HBW.out.size) HN.out hm HQ.out HR.out).mono ?_
  rintro e w2 ⟨rfl, B2⟩
  obtain ⟨M, HM⟩ : ∃ M, Hid (M = w2.heap.size) := ⟨_, rfl⟩
  have HBM : Hid (B + 3 ≤ M) := by have := B2.out.size; have := HSW.out; have := HM.out; show _ ≤ _; omega
  have HG2 : Hid (Blk w2 B 1 (fun _ => .slice a n cap)) := HG.out.of_block (B2.out.block _ HG.out.lt)
  have HK2 : Hid (Blk w2 (B + 1) 1 (fun _ => .slice none 0 0)) := HK.out.of_block (B2.out.block _ HK.out.lt)
  have HX2 : Hid (Blk w2 (B + 1 + 1) 1 (fun _ => .slice none 0 0)) := HX.out.of_block (B2.out.block _ HX.out.lt)
  have HBE2 : Hid (Below w.heap.size w w2) := HBW.out.trans (B2.out.mono HBW.out.size)
  clear g0 HG HK HX B2 HBW HSW
  go_wp2
  go_loopw [5] (fun i wr => ∃ (k : Nat) (v : Value) (U : Nat → Prop), i = .int .i64 k ∧ k ≤ n ∧ Hid (LaidO M wr v (TL.take k) U) ∧ Hid (Blk wr (B + 1 + 1) 1 (fun _ => v)) ∧ Hid (Off (B + 1 + 1) M w2 wr)) (fun i _ => n - (intOf i).toNat)
  case atStart => exact ⟨0, .slice none 0 0, fun _ => False, rfl, by omega, LaidO.nil _ _, HX2, KeptP.refl _ _⟩
  case round =>
    obtain ⟨k, v, U, rfl, hk, HLD, HXB, HOF⟩ := hrel
    have HGR : Hid (Blk wr B 1 (fun _ => .slice a n cap)) := HOF.out.blk HG2.out (by have := HBM.out; omega)
    have c0 := HGR.out.cell (i := 0) (by omega)
    have HBR : Hid (Below w.heap.size w wr) := HBE2.out.trans (HOF.out.to_below HBE2.out.size (fun c hc => by have := HB.out; have := HBM.out; omega))
    have hMw : M ≤ wr.heap.size := by rw [HM.out]; exact HOF.out.size
    by_cases hlt : k < n
    · have hlt1 : (k : Int) < (n : Int) := by omega
      have hlt0 : (0 : Int) ≤ (k : Int) := by omega
      have hkl : k < l.length := by rw [HN.out]; exact hlt
      obtain ⟨b, o, rfl, _, _, hx⟩ := (HA.out.below HBR.out HH.out).piece (k := k) hkl
      obtain ⟨z, HZ⟩ : ∃ z : Pc, Hid (z = pat l k) := ⟨_, rfl⟩
      have HQK : Hid ((pat l k).2.2.length ≤ 1048576) := HQ.out k hlt
      have HTK : Hid (pat TL k = if r = true then turnPc (pat l k) else pat l k) := by show _ = _; rw [HTLL.out, turnP_at hkl, ← HR.out]
      rw [← HZ.out] at hx HQK HTK
      obtain ⟨x, y, ks⟩ := z
      obtain ⟨p0, p1, ra, rc, p2, hrow⟩ := hx
      dsimp only at p0 p1 p2 hrow HQK
      obtain ⟨q, HKL⟩ : ∃ q, Hid (ks.length = q) := ⟨_, rfl⟩
      rw [HKL.out] at p2 HQK
      have hqk : q ≤ 1048576 := HQK.out
      obtain ⟨TR, HTRR⟩ : ∃ TR, Hid (TR = (if r = true then turnPc (x, y, ks) else (x, y, ks)).2.2) := ⟨_, rfl⟩
      have HTL : Hid (TR.length = q) := by show _ = _; rw [HTRR.out, ← HKL.out]; split; exact turnPc_len _; rfl
      have HTX : Hid (pat TL k = (x, y, TR)) := by
        show _ = _
        rw [HTK.out, HTRR.out]
        unfold turnPc
        dsimp only
        by_cases hr : r = true
        · simp only [hr, if_true]
          by_cases hx : x = 2
          · simp only [hx, if_true]
          · simp only [hx, if_false]
        · simp only [hr]
          rfl
      obtain ⟨E, HEE⟩ : ∃ E, Hid (E = wr.heap.size) := ⟨_, rfl⟩
      obtain ⟨V, HV⟩ : ∃ V, Hid (V = wr.alloc (.cells #[.int .i64 x, .int .u8 y, .slice ra q rc] 72)) := ⟨_, rfl⟩
      have HVB : Hid (Below wr.heap.size wr V) := by rw [HV.out]; exact below1 _ _
      have HEV : Hid (Blk V E 3 (fun i => if i = 0 then .int .i64 x else if i = 1 then .int .u8 y else .slice ra q rc)) := by rw [HV.out]; exact blk_three wr E HEE.out _ _ _ _
      have HLV : Hid (LaidO M V v (TL.take k) U) := HLD.out.below HVB.out
      have HXV : Hid (Blk V (B + 1 + 1) 1 (fun _ => v)) := HXB.out.of_block (HVB.out.block _ HXB.out.lt)
      have HOV : Hid (Off (B + 1 + 1) M w2 V) := HOF.out.trans (KeptP.of_below HVB.out (fun k hk _ => hk))
      have hMV : M ≤ V.heap.size := Nat.le_trans hMw HVB.out.size
      have hEV : E < V.heap.size := HEV.out.lt
      have HRK : Hid (RowIn lo hi w ra ks) := by
        obtain ⟨b9, o9, e9, _, _, hx9⟩ := HA.out.piece (k := k) hkl
        obtain ⟨_, _, ra', rc', p2', hrow'⟩ := hx9
        simp only [Option.some.injEq, Addr.mk.injEq, and_true] at e9
        obtain ⟨rfl, rfl⟩ := e9
        have := cell_below p2' HBR.out (lt_of_cell p2')
        rw [this] at p2
        simp only [Option.some.injEq, Value.slice.injEq] at p2
        rw [← HZ.out] at hrow'
        rw [← p2.1]; exact hrow'
      go_upto_region 7 with fail
      rw [← HEE.out, ← HV.out]
      clear p0 p1 p2 c0 hrow HLD HXB HOF HVB HV HGR HBR HTK
      go_wp2
      go_loopw [8, 7] (fun j s7 wr => ∃ (m : Nat) (v7 : Value), j = .int .i64 m ∧ v7 = s7 ∧ m ≤ q ∧ Hid (wr.ownsRow M 3 1 v7 m (rowCells (TR.take m))) ∧ Hid (LaidO M wr v (TL.take k) U) ∧ Hid (∀ c, v7.ownBlock = some c → ¬ U c) ∧ Hid (Blk wr (B + 1 + 1) 1 (fun _ => v)) ∧ Hid (Blk wr E 3 (fun i => if i = 0 then .int .i64 x else if i = 1 then .int .u8 y else .slice ra q rc)) ∧ Hid (Off (B + 1 + 1) M w2 wr) ∧ Hid (∀ c, v7.ownBlock = some c → E < c)) (fun j _ _ => q - (intOf j).toNat)
      case atStart =>
        refine ⟨0, _, rfl, rfl, by omega, ?_, HLV.out.below (below1 _ _), ?_, HXV.out.of_block ((below1 V _).block _ HXV.out.lt), HEV.out.of_block ((below1 V _).block _ HEV.out.lt), HOV.out.trans (KeptP.of_below (below1 V _) (fun k hk _ => hk)), ?_⟩
        · show World.ownsRow _ _ _ _ _ _ []
          exact World.ownsRow_made V (base := M) (e := 3) (size := 1) #[] 0 hMV (Nat.zero_le _) rfl
        · intro c hcc hu
          have e5 : V.heap.size = c := by simpa [Value.ownBlock] using hcc
          have := (HLV.out.lt hu).2; omega
        · intro c hcc
          have e5 : V.heap.size = c := by simpa [Value.ownBlock] using hcc
          omega
      case round =>
        obtain ⟨m, v7, rfl, rfl, hm1, HO7, HLD, HNU, HXB, HEB, HOF, HE7⟩ := hrel
        have e0 := HEB.out.cell (i := 0) (by omega)
        have e1 := HEB.out.cell (i := 1) (by omega)
        have e2 := HEB.out.cell (i := 2) (by omega)
        have hMq : M ≤ wr.heap.size := by rw [HM.out]; exact HOF.out.size
        by_cases hmq : m < q
        · have hmq1 : (m : Int) < (q : Int) := by omega
          have hmq0 : (0 : Int) ≤ (m : Int) := by omega
          have HBQ : Hid (Below w.heap.size w wr) := HBE2.out.trans (HOF.out.to_below HBE2.out.size (fun c hc => by have := HB.out; have := HBM.out; omega))
          have HRV : Hid (RowIn lo hi wr ra ks) := HRK.out.below HBQ.out HH.out
          have HTG : Hid (TR.getD m 0 = if r = true ∧ x = 2 then ks.getD (ks.length - 1 - m) 0 else ks.getD m 0) := turn_kid HTRR.out (by rw [HKL.out]; exact hmq)
          rcases Bool.eq_false_or_eq_true r with hr | hr
          · subst hr
            by_cases hx2 : x = 2
            · subst hx2
              have HTR : Hid (∀ m', m' < q → m' = m → TR.getD m' 0 = ks.getD (q - 1 - m) 0) := by
                rintro m' _ rfl
                rw [HTG.out, if_pos ⟨rfl, rfl⟩, HKL.out]
              have hidx : (q : Int) - 1 - (m : Int) = ((q - 1 - m : Nat) : Int) := by omega
              have hix1 : ((q - 1 - m : Nat) : Int) < (q : Int) := by omega
              have hix0 : (0 : Int) ≤ ((q - 1 - m : Nat) : Int) := by omega
              obtain ⟨b2, o2, rfl, hc⟩ := HRV.out.num (i := (q - 1 - m)) (by rw [HKL.out]; omega)
              obtain ⟨e, HE2⟩ : ∃ e, Hid (e = ks.getD (q - 1 - m) 0) := ⟨_, rfl⟩
              rw [← HE2.out] at hc
              have HTS : Hid (TR.take (m + 1) = TR.take m ++ [e]) := by
                show _ = _
                rw [take_snocI TR (by rw [HTL.out]; exact hmq), HE2.out, HTR.out m hmq rfl]
              have hown := HO7.out.alloc (.cells #[.int .i64 e] 3)
              go_wp2_with (at_builtin; refine wpList_append_lies _ rfl (.tmp 38) (.tmp 49) 36 rfl M 3 i3 (.int .i64 0) 1 8 Try.underlying36 hi3 hz30 hz31 hz32 rfl (by decide) _ m (rowCells (TR.take m)) rfl hown ⟨wr.heap.size, 0, none⟩ 1 1 [.int .i64 e] rfl rfl (cell_one_new' wr (.int .i64 e) 3) (by simp [Value.oneCell']) (by decide) (by unfold maxLen; omega) (by omega) (by simp; omega) _ rfl ?_)
              intro g5 cap5 w6 hown5 hgrow5 hloc5 hg5
              have HG : Hid (KeptP (fun c => v7.ownBlock = some c) wr w6) := (KeptP.of_below (below1 wr _) (fun k hk _ => hk)).trans ⟨hgrow5.os, hgrow5.tape, hgrow5.output, hgrow5.size, fun k hk hn => hgrow5.block k hk (fun e => hn e.symm)⟩
              have HO6 : Hid (w6.ownsRow M 3 1 (.slice (some ⟨g5, 0, none⟩) (m + 1) cap5) (m + 1) (rowCells (TR.take (m + 1)))) := by rw [HTS.out, rowCells_snoc]; exact hown5
              have HN6 : Hid (∀ c, (Value.slice (some ⟨g5, 0, none⟩) (m + 1) cap5).ownBlock = some c → ¬ U c) := by
                intro c hcc hu
                have e5 : g5 = c := by simpa [Value.ownBlock] using hcc
                subst e5
                rcases hloc5 with h | h
                · exact HNU.out _ h hu
                · have := (HLD.out.lt hu).2; omega
              have HL6 : Hid (LaidO M w6 v (TL.take k) U) := HLD.out.kept HG.out (fun c hu e => HNU.out c e hu)
              have HX6 : Hid (Blk w6 (B + 1 + 1) 1 (fun _ => v)) := HG.out.blk HXB.out (fun e => by have := (HO7.out.lt _ e).1; have := HBM.out; omega)
              have HE6 : Hid (Blk w6 E 3 (fun i => if i = 0 then .int .i64 2 else if i = 1 then .int .u8 y else .slice (some ⟨b2, o2, none⟩) q rc)) := HG.out.blk HEB.out (fun e => by have h1 := HE7.out _ e; omega)
              have HF6 : Hid (Off (B + 1 + 1) M w2 w6) := HOF.out.trans (HG.out.mono (fun c e => .inr (HO7.out.lt _ e).1))
              have HE8 : Hid (∀ c, (Value.slice (some ⟨g5, 0, none⟩) (m + 1) cap5).ownBlock = some c → E < c) := by
                intro c hcc
                have e5 : g5 = c := by simpa [Value.ownBlock] using hcc
                subst e5
                rcases hloc5 with h | h
                · exact HE7.out _ h
                · have := HEB.out.lt; omega
              clear hown hown5 hgrow5 hloc5 hc HG
              go_wp2
              go_roundw
              case rel => exact ⟨m + 1, _, by go_num, rfl, by omega, HO6, HL6, HN6, HX6, HE6, HF6, HE8⟩
              case measure => simp [intOf]; omega
            · have HTR : Hid (∀ m', m' < q → m' = m → TR.getD m' 0 = ks.getD m 0) := by
                rintro m' _ rfl
                rw [HTG.out, if_neg (fun h => hx2 h.2)]
              obtain ⟨b2, o2, rfl, hc⟩ := HRV.out.num (i := m) (by rw [HKL.out]; omega)
              obtain ⟨e, HE2⟩ : ∃ e, Hid (e = ks.getD m 0) := ⟨_, rfl⟩
              rw [← HE2.out] at hc
              have HTS : Hid (TR.take (m + 1) = TR.take m ++ [e]) := by
                show _ = _
                rw [take_snocI TR (by rw [HTL.out]; exact hmq), HE2.out, HTR.out m hmq rfl]
              have hown := HO7.out.alloc (.cells #[.int .i64 e] 3)
              go_wp2_with (at_builtin; refine wpList_append_lies _ rfl (.tmp 51) (.tmp 57) 36 rfl M 3 i3 (.int .i64 0) 1 8 Try.underlying36 hi3 hz30 hz31 hz32 rfl (by decide) _ m (rowCells (TR.take m)) rfl hown ⟨wr.heap.size, 0, none⟩ 1 1 [.int .i64 e] rfl rfl (cell_one_new' wr (.int .i64 e) 3) (by simp [Value.oneCell']) (by decide) (by unfold maxLen; omega) (by omega) (by simp; omega) _ rfl ?_)
              intro g5 cap5 w6 hown5 hgrow5 hloc5 hg5
              have HG : Hid (KeptP (fun c => v7.ownBlock = some c) wr w6) := (KeptP.of_below (below1 wr _) (fun k hk _ => hk)).trans ⟨hgrow5.os, hgrow5.tape, hgrow5.output, hgrow5.size, fun k hk hn => hgrow5.block k hk (fun e => hn e.symm)⟩
              have HO6 : Hid (w6.ownsRow M 3 1 (.slice (some ⟨g5, 0, none⟩) (m + 1) cap5) (m + 1) (rowCells (TR.take (m + 1)))) := by rw [HTS.out, rowCells_snoc]; exact hown5
              have HN6 : Hid (∀ c, (Value.slice (some ⟨g5, 0, none⟩) (m + 1) cap5).ownBlock = some c → ¬ U c) := by
                intro c hcc hu
                have e5 : g5 = c := by simpa [Value.ownBlock] using hcc
                subst e5
                rcases hloc5 with h | h
                · exact HNU.out _ h hu
                · have := (HLD.out.lt hu).2; omega
              have HL6 : Hid (LaidO M w6 v (TL.take k) U) := HLD.out.kept HG.out (fun c hu e => HNU.out c e hu)
              have HX6 : Hid (Blk w6 (B + 1 + 1) 1 (fun _ => v)) := HG.out.blk HXB.out (fun e => by have := (HO7.out.lt _ e).1; have := HBM.out; omega)
              have HE6 : Hid (Blk w6 E 3 (fun i => if i = 0 then .int .i64 x else if i = 1 then .int .u8 y else .slice (some ⟨b2, o2, none⟩) q rc)) := HG.out.blk HEB.out (fun e => by have h1 := HE7.out _ e; omega)
              have HF6 : Hid (Off (B + 1 + 1) M w2 w6) := HOF.out.trans (HG.out.mono (fun c e => .inr (HO7.out.lt _ e).1))
              have HE8 : Hid (∀ c, (Value.slice (some ⟨g5, 0, none⟩) (m + 1) cap5).ownBlock = some c → E < c) := by
                intro c hcc
                have e5 : g5 = c := by simpa [Value.ownBlock] using hcc
                subst e5
                rcases hloc5 with h | h
                · exact HE7.out _ h
                · have := HEB.out.lt; omega
              clear hown hown5 hgrow5 hloc5 hc HG
              go_wp2
              go_roundw
              case rel => exact ⟨m + 1, _, by go_num, rfl, by omega, HO6, HL6, HN6, HX6, HE6, HF6, HE8⟩
              case measure => simp [intOf]; omega
          · subst hr
            have HTR : Hid (∀ m', m' < q → m' = m → TR.getD m' 0 = ks.getD m 0) := by
              rintro m' _ rfl
              rw [HTG.out, if_neg (fun h => by cases h.1)]
            obtain ⟨b2, o2, rfl, hc⟩ := HRV.out.num (i := m) (by rw [HKL.out]; omega)
            obtain ⟨e, HE2⟩ : ∃ e, Hid (e = ks.getD m 0) := ⟨_, rfl⟩
            rw [← HE2.out] at hc
            have HTS : Hid (TR.take (m + 1) = TR.take m ++ [e]) := by
              show _ = _
              rw [take_snocI TR (by rw [HTL.out]; exact hmq), HE2.out, HTR.out m hmq rfl]
            have hown := HO7.out.alloc (.cells #[.int .i64 e] 3)
            go_wp2_with (at_builtin; refine wpList_append_lies _ rfl (.tmp 51) (.tmp 57) 36 rfl M 3 i3 (.int .i64 0) 1 8 Try.underlying36 hi3 hz30 hz31 hz32 rfl (by decide) _ m (rowCells (TR.take m)) rfl hown ⟨wr.heap.size, 0, none⟩ 1 1 [.int .i64 e] rfl rfl (cell_one_new' wr (.int .i64 e) 3) (by simp [Value.oneCell']) (by decide) (by unfold maxLen; omega) (by omega) (by simp; omega) _ rfl ?_)
            intro g5 cap5 w6 hown5 hgrow5 hloc5 hg5
            have HG : Hid (KeptP (fun c => v7.ownBlock = some c) wr w6) := (KeptP.of_below (below1 wr _) (fun k hk _ => hk)).trans ⟨hgrow5.os, hgrow5.tape, hgrow5.output, hgrow5.size, fun k hk hn => hgrow5.block k hk (fun e => hn e.symm)⟩
            have HO6 : Hid (w6.ownsRow M 3 1 (.slice (some ⟨g5, 0, none⟩) (m + 1) cap5) (m + 1) (rowCells (TR.take (m + 1)))) := by rw [HTS.out, rowCells_snoc]; exact hown5
            have HN6 : Hid (∀ c, (Value.slice (some ⟨g5, 0, none⟩) (m + 1) cap5).ownBlock = some c → ¬ U c) := by
              intro c hcc hu
              have e5 : g5 = c := by simpa [Value.ownBlock] using hcc
              subst e5
              rcases hloc5 with h | h
              · exact HNU.out _ h hu
              · have := (HLD.out.lt hu).2; omega
            have HL6 : Hid (LaidO M w6 v (TL.take k) U) := HLD.out.kept HG.out (fun c hu e => HNU.out c e hu)
            have HX6 : Hid (Blk w6 (B + 1 + 1) 1 (fun _ => v)) := HG.out.blk HXB.out (fun e => by have := (HO7.out.lt _ e).1; have := HBM.out; omega)
            have HE6 : Hid (Blk w6 E 3 (fun i => if i = 0 then .int .i64 x else if i = 1 then .int .u8 y else .slice (some ⟨b2, o2, none⟩) q rc)) := HG.out.blk HEB.out (fun e => by have h1 := HE7.out _ e; omega)
            have HF6 : Hid (Off (B + 1 + 1) M w2 w6) := HOF.out.trans (HG.out.mono (fun c e => .inr (HO7.out.lt _ e).1))
            have HE8 : Hid (∀ c, (Value.slice (some ⟨g5, 0, none⟩) (m + 1) cap5).ownBlock = some c → E < c) := by
              intro c hcc
              have e5 : g5 = c := by simpa [Value.ownBlock] using hcc
              subst e5
              rcases hloc5 with h | h
              · exact HE7.out _ h
              · have := HEB.out.lt; omega
            clear hown hown5 hgrow5 hloc5 hc HG
            go_wp2
            go_roundw
            case rel => exact ⟨m + 1, _, by go_num, rfl, by omega, HO6, HL6, HN6, HX6, HE6, HF6, HE8⟩
            case measure => simp [intOf]; omega
        · obtain rfl : m = q := by omega
          have HTF : Hid (TR.take m = TR) := by show _ = _; rw [← HTL.out]; exact List.take_length
          rw [HTF.out] at HO7
          obtain ⟨ra7, rc7, rfl, HRO⟩ := rowOwn_of HO7.out HTL.out
          have HRO7 : Hid (RowOwn M wr.heap.size wr ra7 TR) := HRO
          have x0 := HXB.out.cell (i := 0) (by omega)
          have fx := HXB.out.frozen 0
          obtain ⟨f, R, C, h1, h2, h3, h4⟩ := HLD.out
          have HK1 : Hid (wr.ownsRow M 72 3 v (TL.take k).length ((List.range ((TL.take k).length * 3)).map f)) := h1
          have HK2' : Hid (∀ c, v.ownBlock = some c → U c) := h2
          have HK3 : Hid (∀ c, U c → M ≤ c ∧ c < wr.heap.size) := h3
          have HK4 : Hid (∀ i, i < (TL.take k).length → (f (i * 3) = .int .i64 (pat (TL.take k) i).1 ∧ f (i * 3 + 1) = .int .u8 (pat (TL.take k) i).2.1 ∧ f (i * 3 + 2) = .slice (R i) (pat (TL.take k) i).2.2.length (C i)) ∧ RowOwn M wr.heap.size wr (R i) (pat (TL.take k) i).2.2 ∧ ((pat (TL.take k) i).2.2 ≠ [] → (∀ c, R i = some ⟨c, 0, none⟩ → U c ∧ v.ownBlock ≠ some c) ∧ ∀ j, j < i → (pat (TL.take k) j).2.2 ≠ [] → R j ≠ R i)) := h4
          have HTKL : Hid ((TL.take k).length = k) := by show _ = _; rw [List.length_take, HTN.out]; omega
          have htk : (TL.take k).length ≤ 1048576 := by rw [HTKL.out]; omega
          have HSN : Hid (TL.take (k + 1) = TL.take k ++ [(x, y, TR)]) := by
            show _ = _
            rw [List.take_succ_eq_append_getElem (by rw [HTN.out]; exact hlt), ← HTX.out, pat_get (by rw [HTN.out]; exact hlt)]
          clear h1 h2 h3 h4 HRO
          have hown := HK1.out.alloc (.cells #[.int .i64 x, .int .u8 y, .slice ra7 m rc7] 72)
          obtain ⟨kk, HKK⟩ : ∃ kk, Hid (kk = (TL.take k).length) := ⟨_, rfl⟩
          rw [← HKK.out] at hown htk
          go_wp2_with (at_builtin; refine wpList_append_lies _ rfl (.tmp 60) (.tmp 67) 28 rfl M 72 i8 _ 3 40 Try.underlying28 hi8 hz80 hz81 hz82 rfl (by decide) _ kk ((List.range (kk * 3)).map f) rfl hown ⟨wr.heap.size, 0, none⟩ 1 1 [.int .i64 x, .int .u8 y, .slice ra7 m rc7] rfl rfl (news_pc wr _ _ _ _) (by simp [Value.oneCell']) (by decide) (by unfold maxLen; omega) (by omega) (by simp; omega) _ rfl ?_)
          intro g5 cap5 w6 hown5 hgrow5 hloc5 hg5
          have HGK : Hid (wr.grownBy w6 v.ownBlock) := ⟨hgrow5.os, hgrow5.tape, hgrow5.output, by have := hgrow5.size; simp at this; omega, fun c hc hn => by rw [hgrow5.block c (by simp; omega) hn]; exact Below.heap_alloc wr _ c hc⟩
          have hMg : M ≤ g5 := by
            rcases hloc5 with h | h
            · exact (HK3.out _ (HK2'.out _ h)).1
            · omega
          have HLD6 : Hid (LaidO M w6 (.slice (some ⟨g5, 0, none⟩) (kk + 1) cap5) (TL.take (k + 1)) (fun c => U c ∨ c = g5 ∨ (TR ≠ [] ∧ ra7 = some ⟨c, 0, none⟩))) := by
            have := LaidO.snoc (x := (x, y, TR)) (ra := ra7) (rc := rc7) (g := g5) (cap := cap5) HK2'.out HK3.out HK4.out HRO7.out (fun _ c hc => HNU.out c (by rw [hc]; rfl)) HGK.out (by rcases hloc5 with h | h; exact .inl h; right; omega) hg5 hMg (by rw [← HKK.out]; simp only [HTL.out]; exact hown5)
            rw [HSN.out]
            rw [← HKK.out] at this
            exact this
          have HX6 : Hid (Blk w6 (B + 1 + 1) 1 (fun _ => v)) := HXB.out.of_block (HGK.out.block _ HXB.out.lt (fun e => by have := (HK3.out _ (HK2'.out _ e.symm)).1; have := HBM.out; omega))
          have HF6 : Hid (Off (B + 1 + 1) M w2 w6) := HOF.out.trans ⟨HGK.out.os, HGK.out.tape, HGK.out.output, HGK.out.size, fun c hc hn => HGK.out.block c hc (fun e => hn (.inr (HK3.out _ (HK2'.out _ e.symm)).1))⟩
          have x6 := HX6.out.cell (i := 0) (by omega)
          have f6 := HX6.out.frozen 0
          clear hown hown5 hgrow5 hloc5 x0 fx e0 e1 e2 HGK
          go_wp2
          go_roundw
          case rel =>
            refine ⟨k + 1, .slice (some ⟨g5, 0, none⟩) (kk + 1) cap5, (fun c => U c ∨ c = g5 ∨ (TR ≠ [] ∧ ra7 = some ⟨c, 0, none⟩)), by go_num, by omega, ?_, ?_, ?_⟩
            · exact HLD6.out.kept (p := fun c => c = B + 1 + 1) (KeptP.setCell (p := fun c => c = B + 1 + 1) (g := B + 1 + 1) (KeptP.refl _ _) rfl _) (fun c hu e => by have := (HLD6.out.lt hu).1; have := HBM.out; omega)
            · exact (HX6.out.set 0 (by omega) _).congr (fun i hi => by
                have e0 : i = 0 := by omega
                subst e0
                simp)
            · exact HF6.out.setCell (.inl rfl) _
          case measure => simp [intOf]; omega
    · obtain rfl : k = n := by omega
      have HTF : Hid (TL.take k = TL) := by show _ = _; rw [← HTN.out]; exact List.take_length
      rw [HTF.out] at HLD
      obtain ⟨a9, cap9, rfl, HPO⟩ := HLD.out.toOwn
      have HPOW : Hid (PathOwn M wr.heap.size wr a9 TL) := HPO
      rw [HTN.out] at HXB
      have x0 := HXB.out.cell (i := 0) (by omega)
      have HKR : Hid (Blk wr (B + 1) 1 (fun _ => .slice none 0 0)) := HOF.out.blk HK2.out (by have := HBM.out; omega)
      have k1 := HKR.out.cell (i := 0) (by omega)
      have f1 := HKR.out.frozen 0
      clear HPO HLD
      go_wp2
      refine bodyPost_ret (v := .agg #[.slice a9 k cap9]) (by simp [results, Try.results18, go_sem, k1]) rfl ?_
      refine ⟨a9, cap9, rfl, ?_, HBR.out.setCell (p := ⟨B + 1, 0, none⟩) (by show w.heap.size ≤ B + 1; have := HB.out; omega) _⟩
      exact (HPOW.out.setCell (b := B + 1) (j := 0) (by have := HBM.out; omega) _).wide (by have := HB.out; have := HBM.out; omega) (by simp)
end Go.Proofs.Ytgfioakidefkdaa
