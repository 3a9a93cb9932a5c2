/-
  Any drawn graph: spec.l04Any, DrawTurned, DrawGraphText.
-/
import Derived.Test.YtelikebpddhncaaDrG
import Derived.Test.YtelikebpddhncaaGTrI
import Derived.Deep.DeepCutAuto
namespace Go.Proofs.Ytelikebpddhncaa
open Go.RowKit

/-- the draw's graph in its box P, ahead of its return through B -/
structure AnyS (w W : World) (p n cap : Nat) (ao : Option Addr) (B M P : Nat) (s : Int) (a : Option Addr) (nL cL : Nat) (L : List Ed) : Prop where
  kept : KeptBut p w W
  cur : CurL p ao n cap W
  box : Blk W P 2 (fun i => if i = 0 then .int .i64 s else .slice a nL cL)
  res : Blk W B 2 (fun i => if i = 0 then .int .i64 0 else .slice none 0 0)
  own : EdgesIn M W.heap.size W a L
  len : L.length = nL
  lt : p < w.heap.size ∧ w.heap.size = B ∧ B < M ∧ M ≤ P
theorem AnyS.fin {w W : World} {p n cap : Nat} {ao : Option Addr} {B M P : Nat} {s : Int} {a : Option Addr} {nL cL : Nat} {L : List Ed} {u v : Value} (h : AnyS w W p n cap ao B M P s a nL cL L) :
    EdgesIn w.heap.size ((W.setCell ⟨B, 0, none⟩ u).setCell ⟨B, 1, none⟩ v).heap.size ((W.setCell ⟨B, 0, none⟩ u).setCell ⟨B, 1, none⟩ v) a L ∧ CurL p ao n cap ((W.setCell ⟨B, 0, none⟩ u).setCell ⟨B, 1, none⟩ v) ∧ KeptBut p w ((W.setCell ⟨B, 0, none⟩ u).setCell ⟨B, 1, none⟩ v) := by
  obtain ⟨h1, h2, h3, h4⟩ := h.lt
  refine ⟨?_, ?_, ?_⟩
  · refine (h.own.kept (p := fun k => k = B) (((KeptP.refl (fun k => k = B) W).setCell (g := B) rfl _).setCell (g := B) rfl _) (Nat.le_refl _) (fun k h1 _ e => by omega)).wide (by omega) (by simp)
  · exact h.cur.below (((Below.refl B W).setCell (Nat.le_refl _) _).setCell (Nat.le_refl _) _) (by omega)
  · exact (h.kept.setOut (by omega) _).setOut (by omega) _
theorem any_put0 {w W : World} {p n cap : Nat} {ao : Option Addr} {B M P : Nat} {s : Int} {a : Option Addr} {nL cL : Nat} {L : List Ed} {o : Obj} (h : AnyS w W p n cap ao B M P s a nL cL L) (hi : EdgesIn M P W a L) (z : Int) :
    AnyS w ((W.alloc o).setCell ⟨P, 0, none⟩ (.int .i64 z)) p n cap ao B M P z a nL cL L := by
  obtain ⟨h1, h2, h3, h4⟩ := h.lt
  have hP := h.box.lt
  refine ⟨(h.kept.below (below1 W _)).setOut (by omega) _, (h.cur.below (below1 W _) h.cur.lt).below ((Below.refl P _).setCell (Nat.le_refl _) _) (by omega), ?_, ?_, ?_, h.len, h.lt⟩
  · exact ((h.box.alloc o).set 0 (by omega) _).congr (fun i hi => by rcases (show i = 0 ∨ i = 1 by omega) with rfl | rfl <;> simp)
  · exact (h.res.alloc o).of_block (Below.heap_setCell _ ⟨P, 0, none⟩ _ B (by show B ≠ P; omega))
  · exact ((hi.below (below1 W o) (by omega)).kept (p := fun k => k = P) ((KeptP.refl (fun k => k = P) _).setCell (g := P) rfl _) (by simp; omega) (fun k _ h2 e => by omega)).wide (Nat.le_refl _) (by simp; omega)
theorem own_off {M hi P j g : Nat} {w : World} {L : List Ed} (h : EdgesOwn M hi w (some ⟨g, 0, none⟩) L) (hg : g ≠ P) (v : Value) : EdgesOwn M hi (w.setCell ⟨P, j, none⟩ v) (some ⟨g, 0, none⟩) L := by
  rcases h with h | ⟨b, e, h1, h2, h3⟩
  · exact .inl h
  · obtain rfl : g = b := by simpa using e
    exact .inr ⟨g, rfl, h1, h2, Blk.of_block h3 (Below.heap_setCell _ ⟨P, j, none⟩ _ g hg)⟩
theorem any_put1 {w W w4 : World} {p n cap : Nat} {ao : Option Addr} {B M P : Nat} {s : Int} {a : Option Addr} {nL cL g4 n4 cap4 : Nat} {L L' : List Ed} {u : Value} (h : AnyS w W p n cap ao B M P s a nL cL L)
    (h4 : M ≤ g4 ∧ g4 ≠ P ∧ w4.ownsRow M 42 3 (.slice (some ⟨g4, 0, none⟩) n4 cap4) n4 (ecells L') ∧ Below M W w4 ∧ Blk w4 P 2 (fun i => if i = 0 then .int .i64 s else u)) (hn : L'.length = n4) :
    AnyS w (w4.setCell ⟨P, 1, none⟩ (.slice (some ⟨g4, 0, none⟩) n4 cap4)) p n cap ao B M P s (some ⟨g4, 0, none⟩) n4 cap4 L' := by
  obtain ⟨h1, h2, h3, h5⟩ := h.lt
  obtain ⟨q1, q2, q3, q4, q5⟩ := h4
  have hb : Below M W (w4.setCell ⟨P, 1, none⟩ (.slice (some ⟨g4, 0, none⟩) n4 cap4)) := q4.setCell h5 _
  refine ⟨⟨hb.os.trans h.kept.os, hb.tape.trans h.kept.tape, hb.output.trans h.kept.output, Nat.le_trans h.kept.size hb.size, fun k hk hg => (hb.block k (by omega)).trans (h.kept.block k hk hg)⟩, h.cur.below hb (by omega), ?_, ?_, ?_, hn, h.lt⟩
  · exact (q5.set 1 (by omega) _).congr (fun i hi => by rcases (show i = 0 ∨ i = 1 by omega) with rfl | rfl <;> simp)
  · exact h.res.of_block (hb.block B h3)
  · exact (own_off (own_in q3 hn) q2 _).toIn.wide (Nat.le_refl _) (by simp)
theorem own_drew {w : World} {B e s n : Nat} {v : Value} {xs : List Value} (h : w.ownsRow B e s v n xs) : w.drew.ownsRow B e s v n xs := h
theorem own_undrew {w : World} {B e s n : Nat} {v : Value} {xs : List Value} (h : w.ownsRow B e s v n xs) : w.ownsRow B e s v n xs := h
theorem grown_undrew {w w4 : World} {v : Option Nat} (h : (w.drew).grownBy w4 v) : w.grownBy w4 v := ⟨h.os, h.tape, h.output, h.size, h.block⟩
theorem any_app {w W w4 : World} {p n cap : Nat} {ao : Option Addr} {B M P : Nat} {s : Int} {a : Option Addr} {nL cL g4 n4 cap4 : Nat} {L : List Ed} {xe : Ed} {o : Obj} {xs : List Value} (h : AnyS w W p n cap ao B M P s a nL cL L)
    (hv : ∀ k, (Value.slice a nL cL).ownBlock = some k → M ≤ k ∧ k < P) (hl : M ≤ W.heap.size) (hx : ecells (L ++ [xe]) = xs) (ho : w4.ownsRow M 42 3 (.slice (some ⟨g4, 0, none⟩) n4 cap4) n4 xs) (hg : (W.alloc o).grownBy w4 (Value.slice a nL cL).ownBlock) (hc : (Value.slice a nL cL).ownBlock = some g4 ∨ g4 = W.heap.size + 1) :
    M ≤ g4 ∧ g4 ≠ P ∧ w4.ownsRow M 42 3 (.slice (some ⟨g4, 0, none⟩) n4 cap4) n4 (ecells (L ++ [xe])) ∧ Below M W w4 ∧ Blk w4 P 2 (fun i => if i = 0 then .int .i64 s else .slice a nL cL) := by
  have hP := h.box.lt
  refine ⟨(ho.lt g4 rfl).1, ?_, by rw [hx]; exact ho, ((Below.refl M W).alloc hl o).grown hg (by simp; omega) (fun k hk => (hv k hk).1), ?_⟩
  · rcases hc with h | h
    · have := hv g4 h; omega
    · omega
  · refine (h.box.alloc o).of_block (hg.block P (by simp; omega) (fun e => ?_))
    have := hv P e.symm
    omega

theorem pick5 (W : World) (x : Int) : ∃ z, (W.alloc (.cells #[.int .i64 0, .int .i64 1, .int .i64 12, .int .i64 13, .int .i64 (-9223372036854775808)] 3)).cell? ⟨W.heap.size, (x % 5).toNat, none⟩ = some (.int .i64 z) := by
  rw [cell_of_row _ _ (x % 5).toNat _ 3 (0, 0) (heap_alloc_new W _)]
  rcases (show (x % 5).toNat = 0 ∨ (x % 5).toNat = 1 ∨ (x % 5).toNat = 2 ∨ (x % 5).toNat = 3 ∨ (x % 5).toNat = 4 by omega) with h | h | h | h | h <;> rw [h] <;> exact ⟨_, rfl⟩
set_option maxHeartbeats 8000000 in
set_option maxRecDepth 100000 in
theorem l04Any_any (w : World) (p n cap : Nat) (ao : Option Addr) (hc : CurL p ao n cap w) :
    Calls Try.prog 81 #[.pointer (some ⟨p, 0, none⟩)] w fun e w' => ∃ (s : Int) (a : Option Addr) (nL cL : Nat) (L : List Ed), e = .returned (gv s a nL cL) ∧ Hid (L.length = nL) ∧ Hid (EdgesIn w.heap.size w'.heap.size w' a L) ∧ Hid (nL ≤ 11) ∧ Hid (CurL p ao n cap w') ∧ Hid (KeptBut p w w') := by
  obtain ⟨i0, hi0, hz0, hz1, hz2⟩ := info_parts Try.info42
  have HPW : Hid (p < w.heap.size) := hc.lt
  obtain ⟨B, HB⟩ : ∃ B, Hid (w.heap.size = B) := ⟨_, rfl⟩
  have HC : Hid (CurL p ao n cap w) := hc
  clear hc
  go_enter Try.func81, Try.ntmps81
  go_wp2_with fail
  rw [HB.out]
  generalize hW : World.alloc _ _ = W0
  have HC1 : Hid (CurL p ao n cap W0) := by show CurL _ _ _ _ _; rw [← hW]; exact HC.out.below (below1 w _) HPW.out
  have HK1 : Hid (KeptBut p w W0) := by show KeptBut _ _ _; rw [← hW]; exact (KeptBut.refl p w).below (below1 w _)
  have HR1 : Hid (Blk W0 B 2 (fun i => if i = 0 then .int .i64 0 else .slice none 0 0)) := by show Blk _ _ _ _; rw [← hW]; exact blk_two w B HB.out.symm _ _ _
  have HNE : Hid (B ≠ p) := by show B ≠ p; have := HPW.out; have := HB.out; omega
  clear hW
  refine (HC1.out.draw 12 (by omega) (by omega)).mono ?_
  rintro e w1 ⟨k, rfl, hk0, hk1, HC2, HK2⟩
  have HR2 : Hid (Blk w1 B 2 (fun i => if i = 0 then .int .i64 0 else .slice none 0 0)) := HR1.out.keptBut HK2.out HNE.out
  have HKK2 : Hid (KeptBut p w w1) := HK1.out.trans HK2.out
  clear HC1 HK1 HR1 HK2
  go_wp2_with fail
  refine (HC2.out.draw 60 (by omega) (by omega)).mono ?_
  rintro e w2 ⟨x, rfl, hx0, hx1, HC3, HK3⟩
  have HR3 : Hid (Blk w2 B 2 (fun i => if i = 0 then .int .i64 0 else .slice none 0 0)) := HR2.out.keptBut HK3.out HNE.out
  have HKK3 : Hid (KeptBut p w w2) := HKK2.out.trans HK3.out
  clear HC2 HKK2 HR2 HK3
  go_wp2_with fail
  refine (l04Graph_any w2 p n cap ao HC3.out).mono ?_
  rintro e w3 ⟨s, a, nL, cL, L, rfl, HLN, HE, HGD, HC4, HK4⟩
  have HR4 : Hid (Blk w3 B 2 (fun i => if i = 0 then .int .i64 0 else .slice none 0 0)) := HR3.out.keptBut HK4.out HNE.out
  have HKK4 : Hid (KeptBut p w w3) := HKK3.out.trans HK4.out
  have HNL : Hid (1 ≤ nL ∧ nL ≤ 10) := by
    have h1 := HGD.out.1.2.1; have h2 := HGD.out.1.2.2 (by omega); have h3 := HLN.out
    refine ⟨?_, by omega⟩
    rcases L with _ | ⟨y, L⟩
    · exact absurd rfl h2
    · simp at h3; omega
  clear HC3 HKK3 HR3 HK4
  go_wp2_with fail
  refine (l04Copy_any _ _ s a nL cL L w3 HE.out (Nat.le_refl _) HLN.out (by have := HNL.out; omega)).mono ?_
  rintro e w5 ⟨a5, c5, rfl, HO5, HB5⟩
  obtain ⟨M, HM⟩ : ∃ M, Hid (w3.heap.size = M) := ⟨_, rfl⟩
  obtain ⟨P, HP⟩ : ∃ P, Hid (w5.heap.size = P) := ⟨_, rfl⟩
  go_upto_region 4 with fail
  rw [HP.out]
  obtain ⟨W, HW⟩ : ∃ W, Hid (W = w5.alloc (.cells #[.int .i64 s, .slice a5 nL c5] 37)) := ⟨_, rfl⟩
  rw [← HW.out]
  have HB5' : Hid (Below M w3 w5) := by rw [← HM.out]; exact HB5.out
  have hmp : B < M ∧ M ≤ P := ⟨by have := HR4.out.lt; have := HM.out; omega, by have := HB5.out.size; have := HM.out; have := HP.out; omega⟩
  have HO5' : Hid (w5.ownsRow M 42 3 (.slice a5 nL c5) nL (ecells L)) := by rw [← HM.out]; exact HO5.out
  have HVP : Hid (∀ k, (Value.slice a5 nL c5).ownBlock = some k → M ≤ k ∧ k < P) := fun k hk => by rw [← HP.out]; exact HO5'.out.lt k hk
  have HOW : Hid (W.ownsRow M 42 3 (.slice a5 nL c5) nL (ecells L)) := by rw [HW.out]; exact HO5'.out.alloc _
  have HIN : Hid (EdgesIn M P W a5 L) := by rw [HW.out, ← HP.out]; exact (own_in HO5'.out HLN.out).toIn.below (below1 w5 _) (Nat.le_refl _)
  have HLT : Hid (M ≤ W.heap.size) := by show _ ≤ _; rw [HW.out]; simp; have := HP.out; omega
  have HAW : Hid (AnyS w W p n cap ao B M P s a5 nL c5 L) := by
    refine ⟨?_, ?_, ?_, ?_, HIN.out.wide (Nat.le_refl _) ?_, HLN.out, ⟨HPW.out, HB.out, hmp⟩⟩
    · rw [HW.out]; exact (HKK4.out.below HB5.out).below (below1 w5 _)
    · rw [HW.out]; exact (HC4.out.below HB5.out HC4.out.lt).below (below1 w5 _) (HC4.out.below HB5.out HC4.out.lt).lt
    · rw [HW.out]; exact blk_two w5 P HP.out.symm _ _ _
    · rw [HW.out]; exact (HR4.out.of_block (HB5.out.block _ HR4.out.lt)).alloc _
    · rw [HW.out]; simp; have := HP.out; omega
  clear HW HO5 HO5' HB5 HB5' HR4 HKK4 HC4 HE hmp HC HPW HNE
  by_cases e0 : k = 0
  · subst e0
    obtain ⟨t0, t1⟩ := blk_pair_cells HAW.out.box
    have tf0 := (HAW.out.box.alloc (.cells #[.int .i64 0, .int .i64 1, .int .i64 12, .int .i64 13, .int .i64 (-9223372036854775808)] 3)).frozen 0
    obtain ⟨tt0, _⟩ := blk_pair_cells (HAW.out.box.alloc (.cells #[.int .i64 0, .int .i64 1, .int .i64 12, .int .i64 13, .int .i64 (-9223372036854775808)] 3))
    have hr0 : 0 ≤ x % 5 := by omega
    have hr1 : x % 5 < 5 := by omega
    obtain ⟨z, hz⟩ : ∃ z, (W.alloc (.cells #[.int .i64 0, .int .i64 1, .int .i64 12, .int .i64 13, .int .i64 (-9223372036854775808)] 3)).cell? ⟨W.heap.size, (x % 5).toNat, none⟩ = some (.int .i64 z) := pick5 W x
    go_upto_region 12 with fail
    obtain ⟨WF, HWF⟩ : ∃ WF, Hid (WF = (W.alloc (.cells #[.int .i64 0, .int .i64 1, .int .i64 12, .int .i64 13, .int .i64 (-9223372036854775808)] 3)).setCell ⟨P, 0, none⟩ (.int .i64 z)) := ⟨_, rfl⟩
    rw [← HWF.out]
    have HA : Hid (AnyS w WF p n cap ao B M P z a5 (nL) c5 (L)) := by rw [HWF.out]; exact any_put0 HAW.out HIN.out z
    clear HWF
    obtain ⟨d0, d1⟩ := blk_pair_cells HA.out.box
    obtain ⟨r0, r1⟩ := blk_pair_cells HA.out.res
    have rf0 := HA.out.res.frozen 0
    have rf1 := HA.out.res.frozen 1
    go_wp2
    refine bodyPost_ret (v := .agg #[.int .i64 z, .slice a5 (nL) c5]) (by simp [results, Try.results81, go_sem, r0, r1]) rfl ?_
    exact ⟨_, _, _, _, L, rfl, by first | exact HLN | (show _ = _; rw [List.length_append, HLN.out]; rfl), HA.out.fin.1, by show _ ≤ _; have := HGD.out.1.2.1; have := HLN.out; omega, HA.out.fin.2.1, HA.out.fin.2.2⟩
  · by_cases e1 : k = 1
    · subst e1
      obtain ⟨t0, t1⟩ := blk_pair_cells HAW.out.box
      go_wp2_with (at_builtin; refine wpList_append_lies _ rfl (.tmp 25) (.tmp 35) 35 rfl M 42 i0 _ 3 24 Try.underlying35 hi0 hz0 hz1 hz2 rfl (by decide) _ nL (ecells L) rfl (HOW.out.alloc _) ⟨W.heap.size, 0, none⟩ 1 1 [.int .i64 _, .int .u8 _, .int .i64 _] rfl rfl (news_three W _ _ _ _) (by simp [Value.oneCell']) (by decide) (by unfold maxLen; have := HNL.out; omega) (by have := HNL.out; omega) (by have := HLT.out; simp; omega) _ rfl ?_)
      intro g4 cap4 w4 hown4 hgrow4 hloc4 _
      obtain ⟨xe, HXE⟩ : ∃ xe : Ed, Hid (M ≤ g4 ∧ g4 ≠ P ∧ w4.ownsRow M 42 3 (.slice (some ⟨g4, 0, none⟩) (nL + 1) cap4) (nL + 1) (ecells (L ++ [xe])) ∧ Below M W w4 ∧ Blk w4 P 2 (fun i => if i = 0 then .int .i64 s else .slice a5 nL c5)) := ⟨(_, _, _), any_app HAW.out HVP.out HLT.out (ecells_snoc L (_, _, _)) hown4 hgrow4 (by simpa using hloc4)⟩
      clear hown4 hgrow4 hloc4 t0 t1
      obtain ⟨u0, u1⟩ := blk_pair_cells HXE.out.2.2.2.2
      have uf1 := HXE.out.2.2.2.2.frozen 1
      go_upto_region 12 with fail
      obtain ⟨WF, HWF⟩ : ∃ WF, Hid (WF = w4.setCell ⟨P, 1, none⟩ (.slice (some ⟨g4, 0, none⟩) (nL + 1) cap4)) := ⟨_, rfl⟩
      rw [← HWF.out]
      have HA : Hid (AnyS w WF p n cap ao B M P s (some ⟨g4, 0, none⟩) (nL + 1) cap4 (L ++ [xe])) := by rw [HWF.out]; exact any_put1 HAW.out HXE.out (by rw [List.length_append, HLN.out]; rfl)
      clear HWF
      obtain ⟨d0, d1⟩ := blk_pair_cells HA.out.box
      obtain ⟨r0, r1⟩ := blk_pair_cells HA.out.res
      have rf0 := HA.out.res.frozen 0
      have rf1 := HA.out.res.frozen 1
      go_wp2
      refine bodyPost_ret (v := .agg #[.int .i64 s, .slice (some ⟨g4, 0, none⟩) (nL + 1) cap4]) (by simp [results, Try.results81, go_sem, r0, r1]) rfl ?_
      exact ⟨_, _, _, _, L ++ [xe], rfl, by first | exact HLN | (show _ = _; rw [List.length_append, HLN.out]; rfl), HA.out.fin.1, by show _ ≤ _; have := HGD.out.1.2.1; have := HLN.out; omega, HA.out.fin.2.1, HA.out.fin.2.2⟩
    · by_cases e2 : k = 2
      · subst e2
        obtain ⟨b, o, rfl, _, _, hx⟩ := HIN.out.edge (k := 0) (by have := HNL.out; have := HLN.out; omega)
        obtain ⟨xx, HXX⟩ : ∃ xx : Ed, Hid (xx = eat L 0) := ⟨_, rfl⟩
        rw [← HXX.out] at hx
        obtain ⟨e0, e1, e2⟩ := xx
        obtain ⟨p0, p1, p2⟩ := hx
        simp only [Nat.zero_mul, Nat.add_zero] at p0 p1 p2
        obtain ⟨_, t1⟩ := blk_pair_cells HAW.out.box
        have hln0 : (0 : Int) < (nL : Int) := by have := HNL.out; omega
        have t1a : ∀ q, (W.alloc q).cell? ⟨P, 1, none⟩ = some (.slice (some ⟨b, o, none⟩) nL c5) := fun q => cell_below t1 (below1 W q) (lt_of_cell t1)
        have t1b : ∀ q, (W.alloc q).drew.cell? ⟨P, 1, none⟩ = some (.slice (some ⟨b, o, none⟩) nL c5) := fun q => t1a q
        have t1c : ∀ q, (W.drew.alloc q).cell? ⟨P, 1, none⟩ = some (.slice (some ⟨b, o, none⟩) nL c5) := fun q => t1a q
        go_wp2_with fail
        refine wp_region_held_drew (S := fun _ => True) (by kernel_rfl) trivial (fun hHeld => ?_)
        refine wpAnyH_take (i := 0) (oi := { dst := some 44, op := Go.Op.fieldAddr 37 (Go.Operand.tmp 5) 1, type := 0, pos := "l04_graph.go:152", after := #[], guard := none }) (v := ?_) rfl (by kernel_rfl) (by kernel_rfl) (by kernel_rfl) (fun _ _ _ h => h) (Or.inl ⟨by kernel_rfl, ?_⟩) (by assumption) ?_
        rotate_left
        · intro w hSw; (try dsimp only at hSw); go_simp; try with_reducible rfl
        simp only [Act.put, List.setIfInBounds_toArray, List.set_cons_zero, List.set_cons_succ]
        refine wpAnyH_take (i := 2) (oi := { dst := some 46, op := Go.Op.fieldAddr 37 (Go.Operand.tmp 5) 1, type := 0, pos := "l04_graph.go:152", after := #[], guard := none }) (v := ?_) rfl (by kernel_rfl) (by kernel_rfl) (by kernel_rfl) (fun _ _ _ h => h) (Or.inl ⟨by kernel_rfl, ?_⟩) (by assumption) ?_
        rotate_left
        · intro w hSw; (try dsimp only at hSw); go_simp; try with_reducible rfl
        simp only [Act.put, List.setIfInBounds_toArray, List.set_cons_zero, List.set_cons_succ]
        refine wpAnyH_ready (rs := [1, 3]) (by kernel_rfl) (by simp) ?_
        refine AllReadyH.cons (o := { dst := some 45, op := Go.Op.load 35 (Go.Operand.tmp 44), type := 35, pos := "l04_graph.go:152", after := #[{ on := 0, ground := Go.Ground.data }], guard := none }) rfl (fun K hK => ?_) ?_
        · go_simp
          refine hK.out _ _ trivial (fun hHeld => ?_)
          clear hK K
          try simp only [Act.put, List.setIfInBounds_toArray, List.set_cons_zero, List.set_cons_succ]
          refine wpAnyH_ready (rs := [3]) (by kernel_rfl) (by simp) ?_
          refine AllReadyH.cons (o := { dst := some 47, op := Go.Op.load 35 (Go.Operand.tmp 46), type := 35, pos := "l04_graph.go:152", after := #[{ on := 2, ground := Go.Ground.data }], guard := none }) rfl (fun K hK => ?_) ?_
          · go_simp
            refine hK.out _ _ trivial (fun hHeld => ?_)
            clear hK K
            try simp only [Act.put, List.setIfInBounds_toArray, List.set_cons_zero, List.set_cons_succ]
            refine wpAnyH_take (i := 4) (oi := { dst := some 48, op := Go.Op.indexAddr 35 (Go.Operand.tmp 47) (Go.Operand.const (Go.Value.int Go.IntKind.i64 0)), type := 0, pos := "l04_graph.go:152", after := #[{ on := 3, ground := Go.Ground.data }], guard := none }) (v := ?_) rfl (by kernel_rfl) (by kernel_rfl) (by kernel_rfl) (fun _ _ _ h => h) (Or.inl ⟨by kernel_rfl, ?_⟩) (by assumption) ?_
            rotate_left
            · intro w hSw; (try dsimp only at hSw); go_simp; try with_reducible rfl
            simp only [Act.put, List.setIfInBounds_toArray, List.set_cons_zero, List.set_cons_succ]
            refine wpAnyH_ready (rs := [5]) (by kernel_rfl) (by simp) ?_
            refine AllReadyH.cons (o := { dst := some 49, op := Go.Op.load 42 (Go.Operand.tmp 48), type := 42, pos := "l04_graph.go:152", after := #[{ on := 4, ground := Go.Ground.data }], guard := none }) rfl (fun K hK => ?_) ?_
            · go_simp
              refine hK.out _ _ trivial (fun hHeld => ?_)
              clear hK K
              try simp only [Act.put, List.setIfInBounds_toArray, List.set_cons_zero, List.set_cons_succ]
              refine wpAnyH_ready (rs := [6]) (by kernel_rfl) (by simp) ?_
              refine AllReadyH.cons (o := { dst := some 50, op := Go.Op.buildSlice 35 1 #[(0, Go.Operand.tmp 49)], type := 35, pos := "l04_graph.go:152", after := #[{ on := 5, ground := Go.Ground.data }], guard := none }) rfl (fun K hK => ?_) ?_
              · go_simp
                refine hK.out _ _ trivial (fun hHeld => ?_)
                clear hK K
                try simp only [Act.put, List.setIfInBounds_toArray, List.set_cons_zero, List.set_cons_succ]
                refine wpAnyH_ready (rs := [7]) (by kernel_rfl) (by simp) ?_
                refine AllReadyH.cons (o := { dst := some 51, op := Go.Op.call { callee := Go.Callee.builtin Go.Builtin.append, args := #[Go.Operand.tmp 45, Go.Operand.tmp 50], argTypes := #[35, 35] }, type := 35, pos := "l04_graph.go:152", after := #[{ on := 1, ground := Go.Ground.data }, { on := 6, ground := Go.Ground.data }], guard := none }) rfl (fun K hK => ?_) ?_
                · refine step_append_lies _ rfl (.tmp 45) (.tmp 50) 35 rfl M 42 i0 _ 3 24 Try.underlying35 hi0 hz0 hz1 hz2 rfl (by decide) (.slice (some ⟨b, o, none⟩) nL c5) nL (ecells L) rfl (own_drew (HOW.out.alloc _)) ⟨W.heap.size, 0, none⟩ 1 1 [.int .i64 e0, .int .u8 e1, .int .i64 e2] rfl rfl (news_three W _ _ _ 42) (by simp [Value.oneCell']) (by decide) (by unfold maxLen; have := HNL.out; omega) (by have := HNL.out; omega) (by have := HLT.out; simp; omega) _ rfl ?_
                  intro g4 cap4 w4 hown4 hgrow4 hloc4 _
                  have HP4 : Hid (M ≤ g4 ∧ g4 ≠ P ∧ w4.ownsRow M 42 3 (.slice (some ⟨g4, 0, none⟩) (nL + 1) cap4) (nL + 1) (ecells (L ++ [(e0, e1, e2)])) ∧ Below M W w4 ∧ Blk w4 P 2 (fun i => if i = 0 then .int .i64 s else (.slice (some ⟨b, o, none⟩) nL c5))) := any_app HAW.out HVP.out HLT.out (o := .cells #[.int .i64 e0, .int .u8 e1, .int .i64 e2] 42) (ecells_snoc L (e0, e1, e2)) (own_undrew hown4) (grown_undrew hgrow4) (by simpa using hloc4)
                  clear hown4 hgrow4 hloc4 t1 t1a t1b t1c p0 p1 p2
                  refine hK.out _ _ trivial (fun hHeld => ?_)
                  clear hK K
                  try simp only [Act.put, List.setIfInBounds_toArray, List.set_cons_zero, List.set_cons_succ]
                  refine wpAnyH_take (i := 8) (oi := { dst := some 52, op := Go.Op.fieldAddr 37 (Go.Operand.tmp 5) 1, type := 0, pos := "l04_graph.go:152", after := #[{ on := 0, ground := Go.Ground.phase }, { on := 1, ground := Go.Ground.phase }, { on := 2, ground := Go.Ground.phase }, { on := 3, ground := Go.Ground.phase }, { on := 4, ground := Go.Ground.phase }, { on := 5, ground := Go.Ground.phase }, { on := 6, ground := Go.Ground.phase }, { on := 7, ground := Go.Ground.phase }], guard := none }) (v := ?_) rfl (by kernel_rfl) (by kernel_rfl) (by kernel_rfl) (fun _ _ _ h => h) (Or.inl ⟨by kernel_rfl, ?_⟩) (by assumption) ?_
                  rotate_left
                  · intro w hSw; (try dsimp only at hSw); go_simp; try with_reducible rfl
                  simp only [Act.put, List.setIfInBounds_toArray, List.set_cons_zero, List.set_cons_succ]
                  refine wpAnyH_ready (rs := [9]) (by kernel_rfl) (by simp) ?_
                  refine AllReadyH.cons (o := { dst := none, op := Go.Op.store 35 (Go.Operand.tmp 52) (Go.Operand.tmp 51), type := 0, pos := "l04_graph.go:152", after := #[{ on := 8, ground := Go.Ground.data }, { on := 7, ground := Go.Ground.data }, { on := 7, ground := Go.Ground.chain }, { on := 0, ground := Go.Ground.phase }, { on := 1, ground := Go.Ground.phase }, { on := 2, ground := Go.Ground.phase }, { on := 3, ground := Go.Ground.phase }, { on := 4, ground := Go.Ground.phase }, { on := 5, ground := Go.Ground.phase }, { on := 6, ground := Go.Ground.phase }, { on := 7, ground := Go.Ground.phase }], guard := none }) rfl (fun K hK => ?_) ?_
                  · obtain ⟨u0, u1⟩ := blk_pair_cells HP4.out.2.2.2.2
                    have uf1 := HP4.out.2.2.2.2.frozen 1
                    go_simp
                    refine hK.out _ _ trivial (fun hHeld => ?_)
                    clear hK K
                    try simp only [Act.put, List.setIfInBounds_toArray, List.set_cons_zero, List.set_cons_succ]
                    refine wpAnyH_done (by kernel_rfl) ?_ _
                    clear hHeld u0 u1 uf1
                    go_upto_region 12 with fail
                    obtain ⟨WF, HWF⟩ : ∃ WF, Hid (WF = w4.setCell ⟨P, 1, none⟩ (.slice (some ⟨g4, 0, none⟩) (nL + 1) cap4)) := ⟨_, rfl⟩
                    rw [← HWF.out]
                    have HA : Hid (AnyS w WF p n cap ao B M P s (some ⟨g4, 0, none⟩) (nL + 1) cap4 (L ++ [(e0, e1, e2)])) := by rw [HWF.out]; exact any_put1 HAW.out HP4.out (by rw [List.length_append, HLN.out]; rfl)
                    clear HWF
                    obtain ⟨d0, d1⟩ := blk_pair_cells HA.out.box
                    obtain ⟨r0, r1⟩ := blk_pair_cells HA.out.res
                    have rf0 := HA.out.res.frozen 0
                    have rf1 := HA.out.res.frozen 1
                    go_wp2
                    refine bodyPost_ret (v := .agg #[.int .i64 s, .slice (some ⟨g4, 0, none⟩) (nL + 1) cap4]) (by simp [results, Try.results81, go_sem, r0, r1]) rfl ?_
                    exact ⟨_, _, _, _, L ++ [(e0, e1, e2)], rfl, by first | exact HLN | (show _ = _; rw [List.length_append, HLN.out]; rfl), HA.out.fin.1, by show _ ≤ _; have := HGD.out.1.2.1; have := HLN.out; omega, HA.out.fin.2.1, HA.out.fin.2.2⟩
                  exact AllReadyH.nil
                exact AllReadyH.nil
              exact AllReadyH.nil
            exact AllReadyH.nil
          exact AllReadyH.nil
        refine AllReadyH.cons (o := { dst := some 47, op := Go.Op.load 35 (Go.Operand.tmp 46), type := 35, pos := "l04_graph.go:152", after := #[{ on := 2, ground := Go.Ground.data }], guard := none }) rfl (fun K hK => ?_) ?_
        · go_simp
          refine hK.out _ _ trivial (fun hHeld => ?_)
          clear hK K
          try simp only [Act.put, List.setIfInBounds_toArray, List.set_cons_zero, List.set_cons_succ]
          refine wpAnyH_take (i := 4) (oi := { dst := some 48, op := Go.Op.indexAddr 35 (Go.Operand.tmp 47) (Go.Operand.const (Go.Value.int Go.IntKind.i64 0)), type := 0, pos := "l04_graph.go:152", after := #[{ on := 3, ground := Go.Ground.data }], guard := none }) (v := ?_) rfl (by kernel_rfl) (by kernel_rfl) (by kernel_rfl) (fun _ _ _ h => h) (Or.inl ⟨by kernel_rfl, ?_⟩) (by assumption) ?_
          rotate_left
          · intro w hSw; (try dsimp only at hSw); go_simp; try with_reducible rfl
          simp only [Act.put, List.setIfInBounds_toArray, List.set_cons_zero, List.set_cons_succ]
          refine wpAnyH_ready (rs := [1, 5]) (by kernel_rfl) (by simp) ?_
          refine AllReadyH.cons (o := { dst := some 45, op := Go.Op.load 35 (Go.Operand.tmp 44), type := 35, pos := "l04_graph.go:152", after := #[{ on := 0, ground := Go.Ground.data }], guard := none }) rfl (fun K hK => ?_) ?_
          · go_simp
            refine hK.out _ _ trivial (fun hHeld => ?_)
            clear hK K
            try simp only [Act.put, List.setIfInBounds_toArray, List.set_cons_zero, List.set_cons_succ]
            refine wpAnyH_ready (rs := [5]) (by kernel_rfl) (by simp) ?_
            refine AllReadyH.cons (o := { dst := some 49, op := Go.Op.load 42 (Go.Operand.tmp 48), type := 42, pos := "l04_graph.go:152", after := #[{ on := 4, ground := Go.Ground.data }], guard := none }) rfl (fun K hK => ?_) ?_
            · go_simp
              refine hK.out _ _ trivial (fun hHeld => ?_)
              clear hK K
              try simp only [Act.put, List.setIfInBounds_toArray, List.set_cons_zero, List.set_cons_succ]
              refine wpAnyH_ready (rs := [6]) (by kernel_rfl) (by simp) ?_
              refine AllReadyH.cons (o := { dst := some 50, op := Go.Op.buildSlice 35 1 #[(0, Go.Operand.tmp 49)], type := 35, pos := "l04_graph.go:152", after := #[{ on := 5, ground := Go.Ground.data }], guard := none }) rfl (fun K hK => ?_) ?_
              · go_simp
                refine hK.out _ _ trivial (fun hHeld => ?_)
                clear hK K
                try simp only [Act.put, List.setIfInBounds_toArray, List.set_cons_zero, List.set_cons_succ]
                refine wpAnyH_ready (rs := [7]) (by kernel_rfl) (by simp) ?_
                refine AllReadyH.cons (o := { dst := some 51, op := Go.Op.call { callee := Go.Callee.builtin Go.Builtin.append, args := #[Go.Operand.tmp 45, Go.Operand.tmp 50], argTypes := #[35, 35] }, type := 35, pos := "l04_graph.go:152", after := #[{ on := 1, ground := Go.Ground.data }, { on := 6, ground := Go.Ground.data }], guard := none }) rfl (fun K hK => ?_) ?_
                · refine step_append_lies _ rfl (.tmp 45) (.tmp 50) 35 rfl M 42 i0 _ 3 24 Try.underlying35 hi0 hz0 hz1 hz2 rfl (by decide) (.slice (some ⟨b, o, none⟩) nL c5) nL (ecells L) rfl (own_drew (HOW.out.alloc _)) ⟨W.heap.size, 0, none⟩ 1 1 [.int .i64 e0, .int .u8 e1, .int .i64 e2] rfl rfl (news_three W _ _ _ 42) (by simp [Value.oneCell']) (by decide) (by unfold maxLen; have := HNL.out; omega) (by have := HNL.out; omega) (by have := HLT.out; simp; omega) _ rfl ?_
                  intro g4 cap4 w4 hown4 hgrow4 hloc4 _
                  have HP4 : Hid (M ≤ g4 ∧ g4 ≠ P ∧ w4.ownsRow M 42 3 (.slice (some ⟨g4, 0, none⟩) (nL + 1) cap4) (nL + 1) (ecells (L ++ [(e0, e1, e2)])) ∧ Below M W w4 ∧ Blk w4 P 2 (fun i => if i = 0 then .int .i64 s else (.slice (some ⟨b, o, none⟩) nL c5))) := any_app HAW.out HVP.out HLT.out (o := .cells #[.int .i64 e0, .int .u8 e1, .int .i64 e2] 42) (ecells_snoc L (e0, e1, e2)) (own_undrew hown4) (grown_undrew hgrow4) (by simpa using hloc4)
                  clear hown4 hgrow4 hloc4 t1 t1a t1b t1c p0 p1 p2
                  refine hK.out _ _ trivial (fun hHeld => ?_)
                  clear hK K
                  try simp only [Act.put, List.setIfInBounds_toArray, List.set_cons_zero, List.set_cons_succ]
                  refine wpAnyH_take (i := 8) (oi := { dst := some 52, op := Go.Op.fieldAddr 37 (Go.Operand.tmp 5) 1, type := 0, pos := "l04_graph.go:152", after := #[{ on := 0, ground := Go.Ground.phase }, { on := 1, ground := Go.Ground.phase }, { on := 2, ground := Go.Ground.phase }, { on := 3, ground := Go.Ground.phase }, { on := 4, ground := Go.Ground.phase }, { on := 5, ground := Go.Ground.phase }, { on := 6, ground := Go.Ground.phase }, { on := 7, ground := Go.Ground.phase }], guard := none }) (v := ?_) rfl (by kernel_rfl) (by kernel_rfl) (by kernel_rfl) (fun _ _ _ h => h) (Or.inl ⟨by kernel_rfl, ?_⟩) (by assumption) ?_
                  rotate_left
                  · intro w hSw; (try dsimp only at hSw); go_simp; try with_reducible rfl
                  simp only [Act.put, List.setIfInBounds_toArray, List.set_cons_zero, List.set_cons_succ]
                  refine wpAnyH_ready (rs := [9]) (by kernel_rfl) (by simp) ?_
                  refine AllReadyH.cons (o := { dst := none, op := Go.Op.store 35 (Go.Operand.tmp 52) (Go.Operand.tmp 51), type := 0, pos := "l04_graph.go:152", after := #[{ on := 8, ground := Go.Ground.data }, { on := 7, ground := Go.Ground.data }, { on := 7, ground := Go.Ground.chain }, { on := 0, ground := Go.Ground.phase }, { on := 1, ground := Go.Ground.phase }, { on := 2, ground := Go.Ground.phase }, { on := 3, ground := Go.Ground.phase }, { on := 4, ground := Go.Ground.phase }, { on := 5, ground := Go.Ground.phase }, { on := 6, ground := Go.Ground.phase }, { on := 7, ground := Go.Ground.phase }], guard := none }) rfl (fun K hK => ?_) ?_
                  · obtain ⟨u0, u1⟩ := blk_pair_cells HP4.out.2.2.2.2
                    have uf1 := HP4.out.2.2.2.2.frozen 1
                    go_simp
                    refine hK.out _ _ trivial (fun hHeld => ?_)
                    clear hK K
                    try simp only [Act.put, List.setIfInBounds_toArray, List.set_cons_zero, List.set_cons_succ]
                    refine wpAnyH_done (by kernel_rfl) ?_ _
                    clear hHeld u0 u1 uf1
                    go_upto_region 12 with fail
                    obtain ⟨WF, HWF⟩ : ∃ WF, Hid (WF = w4.setCell ⟨P, 1, none⟩ (.slice (some ⟨g4, 0, none⟩) (nL + 1) cap4)) := ⟨_, rfl⟩
                    rw [← HWF.out]
                    have HA : Hid (AnyS w WF p n cap ao B M P s (some ⟨g4, 0, none⟩) (nL + 1) cap4 (L ++ [(e0, e1, e2)])) := by rw [HWF.out]; exact any_put1 HAW.out HP4.out (by rw [List.length_append, HLN.out]; rfl)
                    clear HWF
                    obtain ⟨d0, d1⟩ := blk_pair_cells HA.out.box
                    obtain ⟨r0, r1⟩ := blk_pair_cells HA.out.res
                    have rf0 := HA.out.res.frozen 0
                    have rf1 := HA.out.res.frozen 1
                    go_wp2
                    refine bodyPost_ret (v := .agg #[.int .i64 s, .slice (some ⟨g4, 0, none⟩) (nL + 1) cap4]) (by simp [results, Try.results81, go_sem, r0, r1]) rfl ?_
                    exact ⟨_, _, _, _, L ++ [(e0, e1, e2)], rfl, by first | exact HLN | (show _ = _; rw [List.length_append, HLN.out]; rfl), HA.out.fin.1, by show _ ≤ _; have := HGD.out.1.2.1; have := HLN.out; omega, HA.out.fin.2.1, HA.out.fin.2.2⟩
                  exact AllReadyH.nil
                exact AllReadyH.nil
              exact AllReadyH.nil
            exact AllReadyH.nil
          refine AllReadyH.cons (o := { dst := some 49, op := Go.Op.load 42 (Go.Operand.tmp 48), type := 42, pos := "l04_graph.go:152", after := #[{ on := 4, ground := Go.Ground.data }], guard := none }) rfl (fun K hK => ?_) ?_
          · go_simp
            refine hK.out _ _ trivial (fun hHeld => ?_)
            clear hK K
            try simp only [Act.put, List.setIfInBounds_toArray, List.set_cons_zero, List.set_cons_succ]
            refine wpAnyH_ready (rs := [1, 6]) (by kernel_rfl) (by simp) ?_
            refine AllReadyH.cons (o := { dst := some 45, op := Go.Op.load 35 (Go.Operand.tmp 44), type := 35, pos := "l04_graph.go:152", after := #[{ on := 0, ground := Go.Ground.data }], guard := none }) rfl (fun K hK => ?_) ?_
            · go_simp
              refine hK.out _ _ trivial (fun hHeld => ?_)
              clear hK K
              try simp only [Act.put, List.setIfInBounds_toArray, List.set_cons_zero, List.set_cons_succ]
              refine wpAnyH_ready (rs := [6]) (by kernel_rfl) (by simp) ?_
              refine AllReadyH.cons (o := { dst := some 50, op := Go.Op.buildSlice 35 1 #[(0, Go.Operand.tmp 49)], type := 35, pos := "l04_graph.go:152", after := #[{ on := 5, ground := Go.Ground.data }], guard := none }) rfl (fun K hK => ?_) ?_
              · go_simp
                refine hK.out _ _ trivial (fun hHeld => ?_)
                clear hK K
                try simp only [Act.put, List.setIfInBounds_toArray, List.set_cons_zero, List.set_cons_succ]
                refine wpAnyH_ready (rs := [7]) (by kernel_rfl) (by simp) ?_
                refine AllReadyH.cons (o := { dst := some 51, op := Go.Op.call { callee := Go.Callee.builtin Go.Builtin.append, args := #[Go.Operand.tmp 45, Go.Operand.tmp 50], argTypes := #[35, 35] }, type := 35, pos := "l04_graph.go:152", after := #[{ on := 1, ground := Go.Ground.data }, { on := 6, ground := Go.Ground.data }], guard := none }) rfl (fun K hK => ?_) ?_
                · refine step_append_lies _ rfl (.tmp 45) (.tmp 50) 35 rfl M 42 i0 _ 3 24 Try.underlying35 hi0 hz0 hz1 hz2 rfl (by decide) (.slice (some ⟨b, o, none⟩) nL c5) nL (ecells L) rfl (own_drew (HOW.out.alloc _)) ⟨W.heap.size, 0, none⟩ 1 1 [.int .i64 e0, .int .u8 e1, .int .i64 e2] rfl rfl (news_three W _ _ _ 42) (by simp [Value.oneCell']) (by decide) (by unfold maxLen; have := HNL.out; omega) (by have := HNL.out; omega) (by have := HLT.out; simp; omega) _ rfl ?_
                  intro g4 cap4 w4 hown4 hgrow4 hloc4 _
                  have HP4 : Hid (M ≤ g4 ∧ g4 ≠ P ∧ w4.ownsRow M 42 3 (.slice (some ⟨g4, 0, none⟩) (nL + 1) cap4) (nL + 1) (ecells (L ++ [(e0, e1, e2)])) ∧ Below M W w4 ∧ Blk w4 P 2 (fun i => if i = 0 then .int .i64 s else (.slice (some ⟨b, o, none⟩) nL c5))) := any_app HAW.out HVP.out HLT.out (o := .cells #[.int .i64 e0, .int .u8 e1, .int .i64 e2] 42) (ecells_snoc L (e0, e1, e2)) (own_undrew hown4) (grown_undrew hgrow4) (by simpa using hloc4)
                  clear hown4 hgrow4 hloc4 t1 t1a t1b t1c p0 p1 p2
                  refine hK.out _ _ trivial (fun hHeld => ?_)
                  clear hK K
                  try simp only [Act.put, List.setIfInBounds_toArray, List.set_cons_zero, List.set_cons_succ]
                  refine wpAnyH_take (i := 8) (oi := { dst := some 52, op := Go.Op.fieldAddr 37 (Go.Operand.tmp 5) 1, type := 0, pos := "l04_graph.go:152", after := #[{ on := 0, ground := Go.Ground.phase }, { on := 1, ground := Go.Ground.phase }, { on := 2, ground := Go.Ground.phase }, { on := 3, ground := Go.Ground.phase }, { on := 4, ground := Go.Ground.phase }, { on := 5, ground := Go.Ground.phase }, { on := 6, ground := Go.Ground.phase }, { on := 7, ground := Go.Ground.phase }], guard := none }) (v := ?_) rfl (by kernel_rfl) (by kernel_rfl) (by kernel_rfl) (fun _ _ _ h => h) (Or.inl ⟨by kernel_rfl, ?_⟩) (by assumption) ?_
                  rotate_left
                  · intro w hSw; (try dsimp only at hSw); go_simp; try with_reducible rfl
                  simp only [Act.put, List.setIfInBounds_toArray, List.set_cons_zero, List.set_cons_succ]
                  refine wpAnyH_ready (rs := [9]) (by kernel_rfl) (by simp) ?_
                  refine AllReadyH.cons (o := { dst := none, op := Go.Op.store 35 (Go.Operand.tmp 52) (Go.Operand.tmp 51), type := 0, pos := "l04_graph.go:152", after := #[{ on := 8, ground := Go.Ground.data }, { on := 7, ground := Go.Ground.data }, { on := 7, ground := Go.Ground.chain }, { on := 0, ground := Go.Ground.phase }, { on := 1, ground := Go.Ground.phase }, { on := 2, ground := Go.Ground.phase }, { on := 3, ground := Go.Ground.phase }, { on := 4, ground := Go.Ground.phase }, { on := 5, ground := Go.Ground.phase }, { on := 6, ground := Go.Ground.phase }, { on := 7, ground := Go.Ground.phase }], guard := none }) rfl (fun K hK => ?_) ?_
                  · obtain ⟨u0, u1⟩ := blk_pair_cells HP4.out.2.2.2.2
                    have uf1 := HP4.out.2.2.2.2.frozen 1
                    go_simp
                    refine hK.out _ _ trivial (fun hHeld => ?_)
                    clear hK K
                    try simp only [Act.put, List.setIfInBounds_toArray, List.set_cons_zero, List.set_cons_succ]
                    refine wpAnyH_done (by kernel_rfl) ?_ _
                    clear hHeld u0 u1 uf1
                    go_upto_region 12 with fail
                    obtain ⟨WF, HWF⟩ : ∃ WF, Hid (WF = w4.setCell ⟨P, 1, none⟩ (.slice (some ⟨g4, 0, none⟩) (nL + 1) cap4)) := ⟨_, rfl⟩
                    rw [← HWF.out]
                    have HA : Hid (AnyS w WF p n cap ao B M P s (some ⟨g4, 0, none⟩) (nL + 1) cap4 (L ++ [(e0, e1, e2)])) := by rw [HWF.out]; exact any_put1 HAW.out HP4.out (by rw [List.length_append, HLN.out]; rfl)
                    clear HWF
                    obtain ⟨d0, d1⟩ := blk_pair_cells HA.out.box
                    obtain ⟨r0, r1⟩ := blk_pair_cells HA.out.res
                    have rf0 := HA.out.res.frozen 0
                    have rf1 := HA.out.res.frozen 1
                    go_wp2
                    refine bodyPost_ret (v := .agg #[.int .i64 s, .slice (some ⟨g4, 0, none⟩) (nL + 1) cap4]) (by simp [results, Try.results81, go_sem, r0, r1]) rfl ?_
                    exact ⟨_, _, _, _, L ++ [(e0, e1, e2)], rfl, by first | exact HLN | (show _ = _; rw [List.length_append, HLN.out]; rfl), HA.out.fin.1, by show _ ≤ _; have := HGD.out.1.2.1; have := HLN.out; omega, HA.out.fin.2.1, HA.out.fin.2.2⟩
                  exact AllReadyH.nil
                exact AllReadyH.nil
              exact AllReadyH.nil
            refine AllReadyH.cons (o := { dst := some 50, op := Go.Op.buildSlice 35 1 #[(0, Go.Operand.tmp 49)], type := 35, pos := "l04_graph.go:152", after := #[{ on := 5, ground := Go.Ground.data }], guard := none }) rfl (fun K hK => ?_) ?_
            · go_simp
              refine hK.out _ _ trivial (fun hHeld => ?_)
              clear hK K
              try simp only [Act.put, List.setIfInBounds_toArray, List.set_cons_zero, List.set_cons_succ]
              refine wpAnyH_ready (rs := [1]) (by kernel_rfl) (by simp) ?_
              refine AllReadyH.cons (o := { dst := some 45, op := Go.Op.load 35 (Go.Operand.tmp 44), type := 35, pos := "l04_graph.go:152", after := #[{ on := 0, ground := Go.Ground.data }], guard := none }) rfl (fun K hK => ?_) ?_
              · go_simp
                refine hK.out _ _ trivial (fun hHeld => ?_)
                clear hK K
                try simp only [Act.put, List.setIfInBounds_toArray, List.set_cons_zero, List.set_cons_succ]
                refine wpAnyH_ready (rs := [7]) (by kernel_rfl) (by simp) ?_
                refine AllReadyH.cons (o := { dst := some 51, op := Go.Op.call { callee := Go.Callee.builtin Go.Builtin.append, args := #[Go.Operand.tmp 45, Go.Operand.tmp 50], argTypes := #[35, 35] }, type := 35, pos := "l04_graph.go:152", after := #[{ on := 1, ground := Go.Ground.data }, { on := 6, ground := Go.Ground.data }], guard := none }) rfl (fun K hK => ?_) ?_
                · refine step_append_lies _ rfl (.tmp 45) (.tmp 50) 35 rfl M 42 i0 _ 3 24 Try.underlying35 hi0 hz0 hz1 hz2 rfl (by decide) (.slice (some ⟨b, o, none⟩) nL c5) nL (ecells L) rfl (own_drew (HOW.out.alloc _)) ⟨W.heap.size, 0, none⟩ 1 1 [.int .i64 e0, .int .u8 e1, .int .i64 e2] rfl rfl (news_three W _ _ _ 42) (by simp [Value.oneCell']) (by decide) (by unfold maxLen; have := HNL.out; omega) (by have := HNL.out; omega) (by have := HLT.out; simp; omega) _ rfl ?_
                  intro g4 cap4 w4 hown4 hgrow4 hloc4 _
                  have HP4 : Hid (M ≤ g4 ∧ g4 ≠ P ∧ w4.ownsRow M 42 3 (.slice (some ⟨g4, 0, none⟩) (nL + 1) cap4) (nL + 1) (ecells (L ++ [(e0, e1, e2)])) ∧ Below M W w4 ∧ Blk w4 P 2 (fun i => if i = 0 then .int .i64 s else (.slice (some ⟨b, o, none⟩) nL c5))) := any_app HAW.out HVP.out HLT.out (o := .cells #[.int .i64 e0, .int .u8 e1, .int .i64 e2] 42) (ecells_snoc L (e0, e1, e2)) (own_undrew hown4) (grown_undrew hgrow4) (by simpa using hloc4)
                  clear hown4 hgrow4 hloc4 t1 t1a t1b t1c p0 p1 p2
                  refine hK.out _ _ trivial (fun hHeld => ?_)
                  clear hK K
                  try simp only [Act.put, List.setIfInBounds_toArray, List.set_cons_zero, List.set_cons_succ]
                  refine wpAnyH_take (i := 8) (oi := { dst := some 52, op := Go.Op.fieldAddr 37 (Go.Operand.tmp 5) 1, type := 0, pos := "l04_graph.go:152", after := #[{ on := 0, ground := Go.Ground.phase }, { on := 1, ground := Go.Ground.phase }, { on := 2, ground := Go.Ground.phase }, { on := 3, ground := Go.Ground.phase }, { on := 4, ground := Go.Ground.phase }, { on := 5, ground := Go.Ground.phase }, { on := 6, ground := Go.Ground.phase }, { on := 7, ground := Go.Ground.phase }], guard := none }) (v := ?_) rfl (by kernel_rfl) (by kernel_rfl) (by kernel_rfl) (fun _ _ _ h => h) (Or.inl ⟨by kernel_rfl, ?_⟩) (by assumption) ?_
                  rotate_left
                  · intro w hSw; (try dsimp only at hSw); go_simp; try with_reducible rfl
                  simp only [Act.put, List.setIfInBounds_toArray, List.set_cons_zero, List.set_cons_succ]
                  refine wpAnyH_ready (rs := [9]) (by kernel_rfl) (by simp) ?_
                  refine AllReadyH.cons (o := { dst := none, op := Go.Op.store 35 (Go.Operand.tmp 52) (Go.Operand.tmp 51), type := 0, pos := "l04_graph.go:152", after := #[{ on := 8, ground := Go.Ground.data }, { on := 7, ground := Go.Ground.data }, { on := 7, ground := Go.Ground.chain }, { on := 0, ground := Go.Ground.phase }, { on := 1, ground := Go.Ground.phase }, { on := 2, ground := Go.Ground.phase }, { on := 3, ground := Go.Ground.phase }, { on := 4, ground := Go.Ground.phase }, { on := 5, ground := Go.Ground.phase }, { on := 6, ground := Go.Ground.phase }, { on := 7, ground := Go.Ground.phase }], guard := none }) rfl (fun K hK => ?_) ?_
                  · obtain ⟨u0, u1⟩ := blk_pair_cells HP4.out.2.2.2.2
                    have uf1 := HP4.out.2.2.2.2.frozen 1
                    go_simp
                    refine hK.out _ _ trivial (fun hHeld => ?_)
                    clear hK K
                    try simp only [Act.put, List.setIfInBounds_toArray, List.set_cons_zero, List.set_cons_succ]
                    refine wpAnyH_done (by kernel_rfl) ?_ _
                    clear hHeld u0 u1 uf1
                    go_upto_region 12 with fail
                    obtain ⟨WF, HWF⟩ : ∃ WF, Hid (WF = w4.setCell ⟨P, 1, none⟩ (.slice (some ⟨g4, 0, none⟩) (nL + 1) cap4)) := ⟨_, rfl⟩
                    rw [← HWF.out]
                    have HA : Hid (AnyS w WF p n cap ao B M P s (some ⟨g4, 0, none⟩) (nL + 1) cap4 (L ++ [(e0, e1, e2)])) := by rw [HWF.out]; exact any_put1 HAW.out HP4.out (by rw [List.length_append, HLN.out]; rfl)
                    clear HWF
                    obtain ⟨d0, d1⟩ := blk_pair_cells HA.out.box
                    obtain ⟨r0, r1⟩ := blk_pair_cells HA.out.res
                    have rf0 := HA.out.res.frozen 0
                    have rf1 := HA.out.res.frozen 1
                    go_wp2
                    refine bodyPost_ret (v := .agg #[.int .i64 s, .slice (some ⟨g4, 0, none⟩) (nL + 1) cap4]) (by simp [results, Try.results81, go_sem, r0, r1]) rfl ?_
                    exact ⟨_, _, _, _, L ++ [(e0, e1, e2)], rfl, by first | exact HLN | (show _ = _; rw [List.length_append, HLN.out]; rfl), HA.out.fin.1, by show _ ≤ _; have := HGD.out.1.2.1; have := HLN.out; omega, HA.out.fin.2.1, HA.out.fin.2.2⟩
                  exact AllReadyH.nil
                exact AllReadyH.nil
              exact AllReadyH.nil
            exact AllReadyH.nil
          exact AllReadyH.nil
        exact AllReadyH.nil

      · obtain ⟨t0, t1⟩ := blk_pair_cells HAW.out.box
        go_upto_region 12 with fail
        obtain ⟨WF, HWF⟩ : ∃ WF, Hid (WF = W) := ⟨_, rfl⟩
        rw [← HWF.out]
        have HA : Hid (AnyS w WF p n cap ao B M P s a5 (nL) c5 (L)) := by rw [HWF.out]; exact HAW.out
        clear HWF
        obtain ⟨d0, d1⟩ := blk_pair_cells HA.out.box
        obtain ⟨r0, r1⟩ := blk_pair_cells HA.out.res
        have rf0 := HA.out.res.frozen 0
        have rf1 := HA.out.res.frozen 1
        go_wp2
        refine bodyPost_ret (v := .agg #[.int .i64 s, .slice a5 (nL) c5]) (by simp [results, Try.results81, go_sem, r0, r1]) rfl ?_
        exact ⟨_, _, _, _, L, rfl, by first | exact HLN | (show _ = _; rw [List.length_append, HLN.out]; rfl), HA.out.fin.1, by show _ ≤ _; have := HGD.out.1.2.1; have := HLN.out; omega, HA.out.fin.2.1, HA.out.fin.2.2⟩
end Go.Proofs.Ytelikebpddhncaa
