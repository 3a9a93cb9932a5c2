/-
  (*rowShelf).told: the walk.
-/
import Derived.Test.YtijbngdafgmpaaaTold
namespace Go.Proofs.Ytijbngdafgmpaaa
open Go.RowKit Go.Maps

set_option maxHeartbeats 2000000 in
set_option maxRecDepth 100000 in
theorem told_any (p mb W : Nat) (M : List It) (w : World) (hs : ShelfAt p mb W M w) (hg : Good W M) :
    Calls Try.prog 57 #[.pointer (some ⟨p, 0, none⟩)] w fun e w' => ∃ a cap, e = .returned (.agg #[.slice a M.length cap]) ∧ Hid (BagOwn w.heap.size w'.heap.size w' a M) ∧ Hid (Below w.heap.size w w') := by
  have HS : Hid (ShelfAt p mb W M w) := hs
  have HG : Hid (Good W M) := hg
  obtain ⟨n, HN⟩ : ∃ n, Hid (M.length = n) := ⟨_, rfl⟩
  have h3 : n ≤ 300 := by rw [← HN.out]; exact hg.len
  obtain ⟨B, HB⟩ : ∃ B, Hid (B = w.heap.size) := ⟨_, rfl⟩
  obtain ⟨i0, hi0, hz0, hz1, hz2⟩ := info_parts Try.info35
  have hmk := Go.run_make (P := Try.prog) (w.alloc (.cells #[.slice none 0 0] 26)) 24 35 i0 _ Try.underlying24 hi0 hz0 .i64 .i64 (0 : Int) (n : Int) (by omega) (by omega) (by rw [hz2]; omega) (by omega)
  rw [hz1] at hmk
  obtain ⟨cs, hcs⟩ : ∃ cs, cs = madeCells (Value.agg #[.slice none 0 0, .int .i64 0]).cells ((n : Int).toNat * 2) := ⟨_, rfl⟩
  rw [← hcs, Int.toNat_natCast] at hmk
  have HZ : Hid (cs.size = n * 2) := by rw [hcs, size_madeCells, Int.toNat_natCast]; rfl
  clear hs hg hcs
  have HS1 : Hid (ShelfAt p mb W M (w.alloc (.cells #[.slice none 0 0] 26))) := HS.out.below (below1' w _)
  have HS2 : Hid (ShelfAt p mb W M ((w.alloc (.cells #[.slice none 0 0] 26)).alloc (.cells cs 35))) := HS.out.below (below2 w _ _)
  obtain ⟨D, ho, hmo⟩ := HS2.out.own
  have HMO : Hid (MapOf D M) := hmo
  obtain ⟨D', ho', hmo'⟩ := HS1.out.own
  have hsz' : Maps.size D' = n := by rw [hmo'.size, HN.out]
  have c1 := HS1.out.box.cell (i := 1) (by omega)
  have c2 := HS2.out.box.cell (i := 1) (by omega)
  simp only [Nat.one_ne_zero, if_false] at c1 c2
  rw [HN.out] at ho ho'
  clear hmo hmo'
  go_enter Try.func57, Try.ntmps57
  go_wp2_with (first | (at_len; refine wpList_len_own _ rfl _ 67 rfl 106 3 Try.underlying67 _ mb _ D' rfl ho' ?_) | (at_range; refine wpList_range_own _ rfl _ 67 rfl 106 3 keyLaw Try.underlying67 _ mb _ D rfl ho ?_) | go_in)
  intro w3 hrg3 hg3 hsz3
  have HR3 : Hid (w3.ranges Try.prog 106 (plainElem Try.prog 3) mb (B + 1 + 1) n D (Maps.has D) (Maps.size D)) := by rw [HB.out]; exact hrg3
  have HP3 : Hid (Blk w3 B 1 (fun _ => .slice none 0 0)) := ((blk_one w B HB.out _ _).alloc _).of_block (hg3.block _ (by rw [HB.out]; simp; omega) (by simp))
  have HB3 : Hid (Below B w w3) := by
    have h1 : Below B w ((w.alloc (.cells #[.slice none 0 0] 26)).alloc (.cells cs 35)) := by rw [HB.out]; exact below2 w _ _
    exact h1.grown hg3 (by have := h1.size; rw [HB.out]; exact this) (fun j hj => by cases hj)
  have HL3 : Hid (LaidO (B + 1) w3.heap.size w3 (.slice (some ⟨B + 1, 0, none⟩) 0 n) []) := by
    have h1 := World.ownsRow_made (e := 35) (size := 2) (base := B + 1) (w.alloc (.cells #[.slice none 0 0] 26)) cs n (by rw [HB.out]; simp) (by unfold maxLen; omega) HZ.out
    have h2 := h1.kept hg3 (by simp [Value.ownBlock])
    have e : (w.alloc (.cells #[.slice none 0 0] 26)).heap.size = B + 1 := by rw [HB.out]; simp
    rw [e] at h2
    exact ⟨fun _ => .int .i64 0, fun _ => none, fun _ => 0, by simpa using h2, fun i hi => absurd hi (by simp)⟩
  have HSM : Hid (Maps.size D = n) := by show _ = _; rw [HMO.out.size, HN.out]
  have HPB : Hid (p < B ∧ mb < B ∧ p ≠ mb) := by rw [HB.out]; exact ⟨HS.out.box.lt, HS.out.own.lt, HS.out.ne⟩
  clear hrg3 hg3 hsz3 c1 c2 ho ho' hmk hsz' HS1 HS2
  rw [← HB.out]
  go_wp2_with fail
  go_loopw [3] (fun v wr => ∃ (L : List It) (left : Lit → Bool) (cnt m g cap : Nat), v = .slice (some ⟨g, 0, none⟩) m cap ∧ m + cnt ≤ n ∧ Hid (L.length = m) ∧ Hid (wr.ranges Try.prog 106 (plainElem Try.prog 3) mb (B + 1 + 1) n D left cnt) ∧ Hid (Coll M left L) ∧ Hid (LaidO (B + 1) wr.heap.size wr (.slice (some ⟨g, 0, none⟩) m cap) L) ∧ Hid (Below B w wr) ∧ Hid (Blk wr B 1 (fun _ => .slice none 0 0))) (fun _ w' => w'.rangeLeft mb (B + 1 + 1))
  case atStart => exact ⟨[], Maps.has D, Maps.size D, 0, B + 1, n, rfl, by rw [HSM.out]; omega, rfl, HR3, Coll.start HMO.out, HL3, HB3, HP3⟩
  case round =>
    obtain ⟨L, left, cnt, m, g, cap, rfl, hmc, HLN, HRG, HCO, HLA, HBL, HPR⟩ := hrel
    go_wp2_with (first | (at_next; refine wpList_next_ranges _ rfl _ rfl 106 keyLaw _ keyV (Value.int .i64) invK invV mb (B + 1 + 1) n _ _ _ rfl HRG.out ?_ ?_) | go_in)
    · intro hc0 hl0
      have HPM : Hid (L.Perm M) := HCO.out.done HG.out.srt hl0
      have HQL : Hid (∀ i, i < L.length → (at' L i).1.length ≤ 1048576) := fun i hi => by
        have hx : at' L i ∈ M := (HCO.out.mem _ (by rw [at_get hi]; exact List.getElem_mem hi)).1
        have := okRow_len (okItem_split.1 (HG.out.oks _ hx)).1
        omega
      have hcon := sortItems_any (B + 1) wr.heap.size g cap L wr (by rw [HLN.out]; exact HLA.out) (Nat.le_refl _) HQL.out (by rw [HLN.out]; omega)
      rw [HLN.out] at hcon
      have HCON : Hid (Calls Try.prog 83 #[.slice (some ⟨g, 0, none⟩) m cap, .func (.func 84) #[] #[]] wr fun e w' => e = .returned (.tuple #[]) ∧ ∃ L', Hid (L'.Perm L ∧ (L'.Pairwise fun x y => rowLt y.1 x.1 = false) ∧ BagOwn (B + 1) w'.heap.size w' (some ⟨g, 0, none⟩) L' ∧ KeptP (fun k => k = g) wr w')) := hcon
      clear hcon hc0 hl0
      go_wp2_with fail
      refine HCON.out.mono ?_
      rintro e w4 ⟨rfl, L', HL4⟩
      have HEQ : Hid (L' = M) := sorted_is HG.out.srt (HL4.out.1.trans HPM.out) HL4.out.2.1
      have hmn : m = n := by rw [← HLN.out, ← HN.out]; exact HPM.out.length_eq
      subst hmn
      have hgB : B + 1 ≤ g := by
        obtain ⟨f, R, C, h1, _⟩ := HLA.out
        exact (h1.lt g rfl).1
      have HP4 : Hid (Blk w4 B 1 (fun _ => .slice none 0 0)) := HL4.out.2.2.2.blk HPR.out (by omega)
      have HB4 : Hid (Below B w w4) := HBL.out.trans (HL4.out.2.2.2.to_below (by have := HPR.out.lt; omega) (fun k hk => by omega))
      have HO4 : Hid (BagOwn (B + 1) w4.heap.size w4 (some ⟨g, 0, none⟩) M) := by rw [← HEQ.out]; exact HL4.out.2.2.1
      have r0 := HP4.out.cell (i := 0) (by omega)
      have f0 := HP4.out.frozen 0
      clear HL4 HEQ HPM HCON HCO HLA HRG HBL HPR
      go_wp2
      have z0 := (HP4.out.set 0 (by omega) (.slice (some ⟨g, 0, none⟩) m cap)).cell (i := 0) (by omega)
      simp only [if_true] at z0
      refine bodyPost_ret (v := .agg #[.slice (some ⟨g, 0, none⟩) m cap]) (by simp [results, Try.results57, go_sem, z0]) rfl ?_
      have hb := HB.out
      refine ⟨_, cap, by rw [HN.out], ?_, ?_⟩
      · exact (HO4.out.setCell (by omega) _).wide (by omega) (by simp)
      · have h4 : Below B w (w4.setCell ⟨B, 0, none⟩ (.slice (some ⟨g, 0, none⟩) m cap)) := HB4.out.setCell (by simp) _
        have h5 : Below w.heap.size w (w4.setCell ⟨B, 0, none⟩ (.slice (some ⟨g, 0, none⟩) m cap)) := h4.mono (by omega)
        exact h5
    · intro x0 x1 x2 x3 c kl yd yp w1 cnt1 hkey hlk hv hat hrg1 hlt1 hg1 hs1 hen
      obtain ⟨it, hit, rfl, hx, rfl⟩ := next_item HMO.out HG.out hkey hv hat
      simp only [kx, Prod.mk.injEq] at hx
      obtain ⟨e0, e1, e2, e3⟩ := hx
      have HX : Hid (x0 = it.1.getD 0 0 ∧ x1 = it.1.getD 1 0 ∧ x2 = it.1.getD 2 0 ∧ x3 = it.1.getD 3 0) := ⟨e0, e1, e2, e3⟩
      have HIT : Hid (it ∈ M) := hit
      have HCO1 : Hid (Coll M (fun z => left z && !z.sameKey (keyL (kx it.1))) (L ++ [it])) := HCO.out.step HG.out hit hlk
      have HRG1 : Hid (w1.ranges Try.prog 106 (plainElem Try.prog 3) mb (B + 1 + 1) n D (fun z => left z && !z.sameKey (keyL (kx it.1))) cnt1) := hrg1
      have HG1 : Hid (wr.grownBy w1 (some (B + 1 + 1))) := hg1
      have HS1 : Hid (w1.heap.size = wr.heap.size) := hs1
      have HLA1 : Hid (LaidO (B + 1) w1.heap.size w1 (.slice (some ⟨g, 0, none⟩) m cap) L) := by
        obtain ⟨es, clock, since, seen, c0, _, _, _, _, hr, _⟩ := HRG.out
        rw [HS1.out]
        exact HLA.out.iter hr (fun k hk hne => hg1.block k hk (by simp; omega))
      have HB1 : Hid (Below B w w1) := HBL.out.grown hg1 (by have := HPR.out.lt; omega) (fun j hj => by cases hj; omega)
      have HP1 : Hid (Blk w1 B 1 (fun _ => .slice none 0 0)) := HPR.out.of_block (hg1.block _ HPR.out.lt (by simp; omega))
      obtain ⟨q, HQ⟩ : ∃ q, Hid (it.1.length = q) := ⟨_, rfl⟩
      have hWq : W = q := by rw [← HG.out.even it hit, HQ.out]
      subst hWq
      have hq4 : W ≤ 4 := by rw [← HQ.out]; exact okRow_len (okItem_split.1 (HG.out.oks it hit)).1
      have c0 : w1.cell? ⟨p, 0, none⟩ = some (.int .i64 (W : Nat)) := cell_below (HS.out.box.cell (i := 0) (by omega)) HB1.out HPB.out.1
      have HCLT : Hid (cnt1 < cnt) := hlt1
      have HLE : Hid (wr.rangeLeft mb (B + 1 + 1) = cnt) := HRG.out.left_eq
      obtain ⟨tt, HTT⟩ : ∃ tt, Hid (tt = it.2) := ⟨_, rfl⟩
      rw [← HTT.out] at hen ⊢
      simp only [keyV] at hen ⊢
      clear hkey hlk hv hat hrg1 hg1 hs1 hit e0 e1 e2 e3 HRG HCO HLA HBL HPR hlt1
      have c0' : (w1.alloc (.cells #[.int .i64 x0, .int .i64 x1, .int .i64 x2, .int .i64 x3] 106)).cell? ⟨p, 0, none⟩ = some (.int .i64 (W : Nat)) := cell_below c0 (below1' w1 _) (lt_of_cell c0)
      have HRW : Hid (RowIn w1.heap.size (w1.heap.size + 1) (w1.alloc (.cells #[.int .i64 x0, .int .i64 x1, .int .i64 x2, .int .i64 x3] 106)) (some ⟨w1.heap.size, 0, none⟩) it.1) := by
        refine .inr ⟨w1.heap.size, 0, rfl, Nat.le_refl _, by omega, fun i hi => ?_⟩
        have hb := blk_new w1 #[.int .i64 x0, .int .i64 x1, .int .i64 x2, .int .i64 x3] 106 (fun i => .int .i64 (it.1.getD i 0)) (fun i hi => by
          rw [HX.out.1, HX.out.2.1, HX.out.2.2.1, HX.out.2.2.2]
          match i, hi with | 0, _ => rfl | 1, _ => rfl | 2, _ => rfl | 3, _ => rfl)
        rw [Nat.zero_add]
        exact hb.cell (by have := HQ.out; simp; omega)
      have hW1 : (W : Int) ≤ 4 := by omega
      clear c0
      go_wp2_with fail
      refine (cloneInts_any w1.heap.size (w1.heap.size + 1) (some ⟨w1.heap.size, 0, none⟩) W 4 it.1 _ HRW.out (by simp) HQ.out (by omega)).mono ?_
      rintro e w2 ⟨a2, cap2, rfl, HR2, HB2⟩
      have HB12 : Hid (Below w1.heap.size w1 w2) := (below1' w1 _).trans (HB2.out.mono (by simp))
      have HR2' : Hid (RowOwn w1.heap.size w2.heap.size w2 a2 it.1) := HR2.out.wide (by simp) (Nat.le_refl _)
      have HLA2 : Hid (LaidO (B + 1) w1.heap.size w2 (.slice (some ⟨g, 0, none⟩) m cap) L) := HLA1.out.kept (p := fun _ => False) (KeptP.of_below HB12.out (fun k hk _ => hk)) (fun k h => h.elim)
      obtain ⟨f, R, C, hown, hrows⟩ := HLA2.out
      rw [HLN.out] at hown
      have HOWN : Hid (w2.ownsRow (B + 1) 35 2 (.slice (some ⟨g, 0, none⟩) m cap) m ((List.range (m * 2)).map f)) := hown
      have HROWS : Hid (∀ i, i < L.length → (f (i * 2) = .slice (R i) (at' L i).1.length (C i) ∧ f (i * 2 + 1) = .int .i64 (at' L i).2) ∧ RowOwn (B + 1) w1.heap.size w2 (R i) (at' L i).1 ∧ Off (.slice (some ⟨g, 0, none⟩) m cap) (R i) (at' L i).1 ∧ ((at' L i).1 ≠ [] → ∀ j, j < i → (at' L j).1 ≠ [] → R j ≠ R i)) := hrows
      have HBS : Hid (B + 1 ≤ w1.heap.size) := by have := HP1.out.lt; show _ ≤ _; omega
      have hs12 : w1.heap.size ≤ w2.heap.size := HB12.out.size
      clear hown hrows HR2 HB2 c0' HRW hen
      go_wp2_with (first | (at_builtin; refine wpList_append_lies _ rfl (.tmp 22) (.tmp 31) 24 rfl (B + 1) 35 i0 _ 2 32 Try.underlying24 hi0 hz0 hz1 hz2 rfl (by decide) (.slice (some ⟨g, 0, none⟩) m cap) m ((List.range (m * 2)).map f) rfl (HOWN.out.alloc _) ⟨w2.heap.size, 0, none⟩ 1 1 [.slice a2 W cap2, .int .i64 tt] rfl rfl (news_two w2 _ _ _) (by simp [Value.oneCell']) (by decide) (by unfold maxLen; omega) (by omega) (by have := HBS.out; simp; omega) _ rfl ?_; intro g5 cap5 w5 hown5 hgrow5 hloc5 hlt5) | go_in)
      have hgB : B + 1 ≤ g := (HOWN.out.lt g rfl).1
      have hg1 : g < w1.heap.size ∧ g ≠ B + 1 + 1 := by
        obtain ⟨f', R', C', h1, _⟩ := HLA1.out
        obtain ⟨es, clock, since, seen, c0, _, _, _, _, hr, _⟩ := HRG1.out
        refine ⟨(h1.lt g rfl).2, fun e => ?_⟩
        subst e
        rcases h1.2 with ⟨h, _⟩ | ⟨g', cap', cur, h, _, hb, _⟩
        · cases h
        · simp only [Value.slice.injEq, Option.some.injEq, Addr.mk.injEq] at h
          obtain ⟨⟨rfl, _⟩, _⟩ := h
          rw [hr] at hb; cases hb
      have hb25 : Below w1.heap.size w1 (w2.alloc (.cells #[.slice a2 W cap2, .int .i64 tt] 35)) := HB12.out.alloc hs12 _
      have hg15 : w1.grownBy w5 (some g) := by
        refine ⟨hgrow5.os.trans hb25.os, hgrow5.tape.trans hb25.tape, hgrow5.output.trans hb25.output, Nat.le_trans hb25.size hgrow5.size, fun k hk hne => ?_⟩
        rw [← hb25.block k hk]
        exact hgrow5.block k (Nat.lt_of_lt_of_le hk hb25.size) hne
      have hpb := HPB.out
      have hR5 : w5.ranges Try.prog 106 (plainElem Try.prog 3) mb (B + 1 + 1) n D (fun z => left z && !z.sameKey (keyL (kx it.1))) cnt1 := HRG1.out.kept hg15 (by simp; omega) (by simp; omega)
      have hL5 : LaidO (B + 1) w2.heap.size w5 (.slice (some ⟨g5, 0, none⟩) (m + 1) cap5) (L ++ [it]) := by
        refine LaidO.snoc (M := w1.heap.size) (w := w2.alloc (.cells #[.slice a2 W cap2, .int .i64 tt] 35)) (v := .slice (some ⟨g, 0, none⟩) m cap) (f := f) (R := R) (C := C) (ra := a2) (rc := cap2) (fun i hi => ?_) (HR2'.out.below (below1' w2 _) (Nat.le_refl _)) ?_ HBS.out hs12 (by simp) hgrow5 ?_ ?_
        · obtain ⟨h1, h2, h3, h4⟩ := HROWS.out i hi
          exact ⟨h1, h2.below (below1' w2 _) hs12, h3, h4⟩
        · intro hne k o e h
          rcases HR2'.out with h0 | ⟨b', e', h1, _, _⟩
          · exact hne h0
          · rw [e] at e'
            simp only [Option.some.injEq, Addr.mk.injEq] at e'
            have h2 : k = g := by simpa [Value.ownBlock] using h.symm
            omega
        · rcases hloc5 with h | h
          · exact .inl (by rw [h]; rfl)
          · exact .inr (by rw [h]; rfl)
        · have h := hown5
          rw [HLN.out, HQ.out, ← HTT.out]
          exact h
      refine ⟨⟨L ++ [it], _, cnt1, m + 1, g5, cap5, rfl, by have := HCLT.out; omega, by show _ = _; rw [List.length_append, HLN.out]; rfl, hR5, HCO1.out, hL5.wide (by have := hgrow5.size; simp at this; omega), ?_, ?_⟩, ?_⟩
      · have h1 : Below B w (w2.alloc (.cells #[.slice a2 W cap2, .int .i64 tt] 35)) := HB1.out.trans (hb25.mono (by have := HBS.out; omega))
        exact h1.grown hgrow5 (by have := HBS.out; have := hb25.size; omega) (fun j hj => by simp [Value.ownBlock] at hj; omega)
      · exact HP1.out.of_block (hg15.block _ HP1.out.lt (by simp; omega))
      · rw [hR5.left_eq, HLE.out]; exact HCLT.out
end Go.Proofs.Ytijbngdafgmpaaa
