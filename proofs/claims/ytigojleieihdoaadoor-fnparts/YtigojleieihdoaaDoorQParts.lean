/-
  Proved: at every code, FnParts answers true: all parts of the graph that is drawn together are it, each edge is in the part of whom its beginning is; Together at drawn graphs is what the model tells; nothing that was in memory is changed. Condition: the table of four steps holds what its initialiser lays (the card ties that to the program's text).
-/
import Derived.Test.YtigojleieihdoaaDoorDrG
import Derived.Test.YtigojleieihdoaaDoorGTrI
import Derived.Deep.DeepCutAuto
import Derived.Test.YtigojleieihdoaaDoorPl
import Derived.Test.YtigojleieihdoaaDoorPrtS
import Derived.Test.YtigojleieihdoaaDoorBig
import Derived.Test.YtigojleieihdoaaDoorGs
import Derived.Test.YtigojleieihdoaaDoorGOk
import Derived.Test.YtigojleieihdoaaDoorGOkS
import Derived.Test.YtigojleieihdoaaDoorGIdx
import Derived.Test.YtigojleieihdoaaDoorNxS
import Derived.Test.YtigojleieihdoaaDoorEdC
import Derived.Test.YtigojleieihdoaaDoorPlc
import Derived.Test.YtigojleieihdoaaDoorTab
import Derived.Below
/-
  Any drawn graph: spec.l04Any, DrawTurned, DrawGraphText.
-/
namespace Go.Proofs.YtigojleieihdoaaDoor
open Go.RowKit

/-- the draw's graph in its box P, ahead of its return through B -/
structure AnyS (w W : World) (p n cap : Nat) (ao : Option Addr) (B M P : Nat) (s : Int) (a : Option Addr) (nL cL : Nat) (L : List Ed) : Prop where
  kept : KeptBut p w W
  cur : CurL p ao n cap W
  box : Blk W P 2 (fun i => if i = 0 then .int .i64 s else .slice a nL cL)
  res : Blk W B 2 (fun i => if i = 0 then .int .i64 0 else .slice none 0 0)
  own : EdgesIn M W.heap.size W a L
  len : L.length = nL
  lt : p < w.heap.size ∧ w.heap.size = B ∧ B < M ∧ M ≤ P
theorem AnyS.fin {w W : World} {p n cap : Nat} {ao : Option Addr} {B M P : Nat} {s : Int} {a : Option Addr} {nL cL : Nat} {L : List Ed} {u v : Value} (h : AnyS w W p n cap ao B M P s a nL cL L) :
    EdgesIn w.heap.size ((W.setCell ⟨B, 0, none⟩ u).setCell ⟨B, 1, none⟩ v).heap.size ((W.setCell ⟨B, 0, none⟩ u).setCell ⟨B, 1, none⟩ v) a L ∧ CurL p ao n cap ((W.setCell ⟨B, 0, none⟩ u).setCell ⟨B, 1, none⟩ v) ∧ KeptBut p w ((W.setCell ⟨B, 0, none⟩ u).setCell ⟨B, 1, none⟩ v) := by
  obtain ⟨h1, h2, h3, h4⟩ := h.lt
  refine ⟨?_, ?_, ?_⟩
  · refine (h.own.kept (p := fun k => k = B) (((KeptP.refl (fun k => k = B) W).setCell (g := B) rfl _).setCell (g := B) rfl _) (Nat.le_refl _) (fun k h1 _ e => by omega)).wide (by omega) (by simp)
  · exact h.cur.below (((Below.refl B W).setCell (Nat.le_refl _) _).setCell (Nat.le_refl _) _) (by omega)
  · exact (h.kept.setOut (by omega) _).setOut (by omega) _
theorem any_put0 {w W : World} {p n cap : Nat} {ao : Option Addr} {B M P : Nat} {s : Int} {a : Option Addr} {nL cL : Nat} {L : List Ed} {o : Obj} (h : AnyS w W p n cap ao B M P s a nL cL L) (hi : EdgesIn M P W a L) (z : Int) :
    AnyS w ((W.alloc o).setCell ⟨P, 0, none⟩ (.int .i64 z)) p n cap ao B M P z a nL cL L := by
  obtain ⟨h1, h2, h3, h4⟩ := h.lt
  have hP := h.box.lt
  refine ⟨(h.kept.below (below1 W _)).setOut (by omega) _, (h.cur.below (below1 W _) h.cur.lt).below ((Below.refl P _).setCell (Nat.le_refl _) _) (by omega), ?_, ?_, ?_, h.len, h.lt⟩
  · exact ((h.box.alloc o).set 0 (by omega) _).congr (fun i hi => by rcases (show i = 0 ∨ i = 1 by omega) with rfl | rfl <;> simp)
  · exact (h.res.alloc o).of_block (Below.heap_setCell _ ⟨P, 0, none⟩ _ B (by show B ≠ P; omega))
  · exact ((hi.below (below1 W o) (by omega)).kept (p := fun k => k = P) ((KeptP.refl (fun k => k = P) _).setCell (g := P) rfl _) (by simp; omega) (fun k _ h2 e => by omega)).wide (Nat.le_refl _) (by simp; omega)
theorem own_off {M hi P j g : Nat} {w : World} {L : List Ed} (h : EdgesOwn M hi w (some ⟨g, 0, none⟩) L) (hg : g ≠ P) (v : Value) : EdgesOwn M hi (w.setCell ⟨P, j, none⟩ v) (some ⟨g, 0, none⟩) L := by
  rcases h with h | ⟨b, e, h1, h2, h3⟩
  · exact .inl h
  · obtain rfl : g = b := by simpa using e
    exact .inr ⟨g, rfl, h1, h2, Blk.of_block h3 (Below.heap_setCell _ ⟨P, j, none⟩ _ g hg)⟩
theorem any_put1 {w W w4 : World} {p n cap : Nat} {ao : Option Addr} {B M P : Nat} {s : Int} {a : Option Addr} {nL cL g4 n4 cap4 : Nat} {L L' : List Ed} {u : Value} (h : AnyS w W p n cap ao B M P s a nL cL L)
    (h4 : M ≤ g4 ∧ g4 ≠ P ∧ w4.ownsRow M 37 3 (.slice (some ⟨g4, 0, none⟩) n4 cap4) n4 (ecells L') ∧ Below M W w4 ∧ Blk w4 P 2 (fun i => if i = 0 then .int .i64 s else u)) (hn : L'.length = n4) :
    AnyS w (w4.setCell ⟨P, 1, none⟩ (.slice (some ⟨g4, 0, none⟩) n4 cap4)) p n cap ao B M P s (some ⟨g4, 0, none⟩) n4 cap4 L' := by
  obtain ⟨h1, h2, h3, h5⟩ := h.lt
  obtain ⟨q1, q2, q3, q4, q5⟩ := h4
  have hb : Below M W (w4.setCell ⟨P, 1, none⟩ (.slice (some ⟨g4, 0, none⟩) n4 cap4)) := q4.setCell h5 _
  refine ⟨⟨hb.os.trans h.kept.os, hb.tape.trans h.kept.tape, hb.output.trans h.kept.output, Nat.le_trans h.kept.size hb.size, fun k hk hg => (hb.block k (by omega)).trans (h.kept.block k hk hg)⟩, h.cur.below hb (by omega), ?_, ?_, ?_, hn, h.lt⟩
  · exact (q5.set 1 (by omega) _).congr (fun i hi => by rcases (show i = 0 ∨ i = 1 by omega) with rfl | rfl <;> simp)
  · exact h.res.of_block (hb.block B h3)
  · exact (own_off (own_in q3 hn) q2 _).toIn.wide (Nat.le_refl _) (by simp)
theorem own_drew {w : World} {B e s n : Nat} {v : Value} {xs : List Value} (h : w.ownsRow B e s v n xs) : w.drew.ownsRow B e s v n xs := h
theorem own_undrew {w : World} {B e s n : Nat} {v : Value} {xs : List Value} (h : w.ownsRow B e s v n xs) : w.ownsRow B e s v n xs := h
theorem grown_undrew {w w4 : World} {v : Option Nat} (h : (w.drew).grownBy w4 v) : w.grownBy w4 v := ⟨h.os, h.tape, h.output, h.size, h.block⟩
theorem any_app {w W w4 : World} {p n cap : Nat} {ao : Option Addr} {B M P : Nat} {s : Int} {a : Option Addr} {nL cL g4 n4 cap4 : Nat} {L : List Ed} {xe : Ed} {o : Obj} {xs : List Value} (h : AnyS w W p n cap ao B M P s a nL cL L)
    (hv : ∀ k, (Value.slice a nL cL).ownBlock = some k → M ≤ k ∧ k < P) (hl : M ≤ W.heap.size) (hx : ecells (L ++ [xe]) = xs) (ho : w4.ownsRow M 37 3 (.slice (some ⟨g4, 0, none⟩) n4 cap4) n4 xs) (hg : (W.alloc o).grownBy w4 (Value.slice a nL cL).ownBlock) (hc : (Value.slice a nL cL).ownBlock = some g4 ∨ g4 = W.heap.size + 1) :
    M ≤ g4 ∧ g4 ≠ P ∧ w4.ownsRow M 37 3 (.slice (some ⟨g4, 0, none⟩) n4 cap4) n4 (ecells (L ++ [xe])) ∧ Below M W w4 ∧ Blk w4 P 2 (fun i => if i = 0 then .int .i64 s else .slice a nL cL) := by
  have hP := h.box.lt
  refine ⟨(ho.lt g4 rfl).1, ?_, by rw [hx]; exact ho, ((Below.refl M W).alloc hl o).grown hg (by simp; omega) (fun k hk => (hv k hk).1), ?_⟩
  · rcases hc with h | h
    · have := hv g4 h; omega
    · omega
  · refine (h.box.alloc o).of_block (hg.block P (by simp; omega) (fun e => ?_))
    have := hv P e.symm
    omega

theorem pick5 (W : World) (x : Int) : ∃ z, (W.alloc (.cells #[.int .i64 0, .int .i64 1, .int .i64 12, .int .i64 13, .int .i64 (-9223372036854775808)] 3)).cell? ⟨W.heap.size, (x % 5).toNat, none⟩ = some (.int .i64 z) := by
  rw [cell_of_row _ _ (x % 5).toNat _ 3 (0, 0) (heap_alloc_new W _)]
  rcases (show (x % 5).toNat = 0 ∨ (x % 5).toNat = 1 ∨ (x % 5).toNat = 2 ∨ (x % 5).toNat = 3 ∨ (x % 5).toNat = 4 by omega) with h | h | h | h | h <;> rw [h] <;> exact ⟨_, rfl⟩
set_option maxHeartbeats 8000000 in
set_option maxRecDepth 100000 in
theorem l04Any_any (w : World) (p n cap : Nat) (ao : Option Addr) (hc : CurL p ao n cap w) :
    Calls Tryd.prog 46 #[.pointer (some ⟨p, 0, none⟩)] w fun e w' => ∃ (s : Int) (a : Option Addr) (nL cL : Nat) (L : List Ed), e = .returned (gv s a nL cL) ∧ Hid (L.length = nL) ∧ Hid (EdgesIn w.heap.size w'.heap.size w' a L) ∧ Hid (nL ≤ 11) ∧ Hid (CurL p ao n cap w') ∧ Hid (KeptBut p w w') := by
  obtain ⟨i0, hi0, hz0, hz1, hz2⟩ := info_parts Tryd.info37
  have HPW : Hid (p < w.heap.size) := hc.lt
  obtain ⟨B, HB⟩ : ∃ B, Hid (w.heap.size = B) := ⟨_, rfl⟩
  have HC : Hid (CurL p ao n cap w) := hc
  clear hc
  go_enter Tryd.func46, Tryd.ntmps46
  go_wp2_with fail
  rw [HB.out]
  generalize hW : World.alloc _ _ = W0
  have HC1 : Hid (CurL p ao n cap W0) := by show CurL _ _ _ _ _; rw [← hW]; exact HC.out.below (below1 w _) HPW.out
  have HK1 : Hid (KeptBut p w W0) := by show KeptBut _ _ _; rw [← hW]; exact (KeptBut.refl p w).below (below1 w _)
  have HR1 : Hid (Blk W0 B 2 (fun i => if i = 0 then .int .i64 0 else .slice none 0 0)) := by show Blk _ _ _ _; rw [← hW]; exact blk_two w B HB.out.symm _ _ _
  have HNE : Hid (B ≠ p) := by show B ≠ p; have := HPW.out; have := HB.out; omega
  clear hW
  refine (HC1.out.draw 12 (by omega) (by omega)).mono ?_
  rintro e w1 ⟨k, rfl, hk0, hk1, HC2, HK2⟩
  have HR2 : Hid (Blk w1 B 2 (fun i => if i = 0 then .int .i64 0 else .slice none 0 0)) := HR1.out.keptBut HK2.out HNE.out
  have HKK2 : Hid (KeptBut p w w1) := HK1.out.trans HK2.out
  clear HC1 HK1 HR1 HK2
  go_wp2_with fail
  refine (HC2.out.draw 60 (by omega) (by omega)).mono ?_
  rintro e w2 ⟨x, rfl, hx0, hx1, HC3, HK3⟩
  have HR3 : Hid (Blk w2 B 2 (fun i => if i = 0 then .int .i64 0 else .slice none 0 0)) := HR2.out.keptBut HK3.out HNE.out
  have HKK3 : Hid (KeptBut p w w2) := HKK2.out.trans HK3.out
  clear HC2 HKK2 HR2 HK3
  go_wp2_with fail
  refine (l04Graph_any w2 p n cap ao HC3.out).mono ?_
  rintro e w3 ⟨s, a, nL, cL, L, rfl, HLN, HE, HGD, HC4, HK4⟩
  have HR4 : Hid (Blk w3 B 2 (fun i => if i = 0 then .int .i64 0 else .slice none 0 0)) := HR3.out.keptBut HK4.out HNE.out
  have HKK4 : Hid (KeptBut p w w3) := HKK3.out.trans HK4.out
  have HNL : Hid (1 ≤ nL ∧ nL ≤ 10) := by
    have h1 := HGD.out.1.2.1; have h2 := HGD.out.1.2.2 (by omega); have h3 := HLN.out
    refine ⟨?_, by omega⟩
    rcases L with _ | ⟨y, L⟩
    · exact absurd rfl h2
    · simp at h3; omega
  clear HC3 HKK3 HR3 HK4
  go_wp2_with fail
  refine (l04Copy_any _ _ s a nL cL L w3 HE.out (Nat.le_refl _) HLN.out (by have := HNL.out; omega)).mono ?_
  rintro e w5 ⟨a5, c5, rfl, HO5, HB5⟩
  obtain ⟨M, HM⟩ : ∃ M, Hid (w3.heap.size = M) := ⟨_, rfl⟩
  obtain ⟨P, HP⟩ : ∃ P, Hid (w5.heap.size = P) := ⟨_, rfl⟩
  go_upto_region 4 with fail
  rw [HP.out]
  obtain ⟨W, HW⟩ : ∃ W, Hid (W = w5.alloc (.cells #[.int .i64 s, .slice a5 nL c5] 26)) := ⟨_, rfl⟩
  rw [← HW.out]
  have HB5' : Hid (Below M w3 w5) := by rw [← HM.out]; exact HB5.out
  have hmp : B < M ∧ M ≤ P := ⟨by have := HR4.out.lt; have := HM.out; omega, by have := HB5.out.size; have := HM.out; have := HP.out; omega⟩
  have HO5' : Hid (w5.ownsRow M 37 3 (.slice a5 nL c5) nL (ecells L)) := by rw [← HM.out]; exact HO5.out
  have HVP : Hid (∀ k, (Value.slice a5 nL c5).ownBlock = some k → M ≤ k ∧ k < P) := fun k hk => by rw [← HP.out]; exact HO5'.out.lt k hk
  have HOW : Hid (W.ownsRow M 37 3 (.slice a5 nL c5) nL (ecells L)) := by rw [HW.out]; exact HO5'.out.alloc _
  have HIN : Hid (EdgesIn M P W a5 L) := by rw [HW.out, ← HP.out]; exact (own_in HO5'.out HLN.out).toIn.below (below1 w5 _) (Nat.le_refl _)
  have HLT : Hid (M ≤ W.heap.size) := by show _ ≤ _; rw [HW.out]; simp; have := HP.out; omega
  have HAW : Hid (AnyS w W p n cap ao B M P s a5 nL c5 L) := by
    refine ⟨?_, ?_, ?_, ?_, HIN.out.wide (Nat.le_refl _) ?_, HLN.out, ⟨HPW.out, HB.out, hmp⟩⟩
    · rw [HW.out]; exact (HKK4.out.below HB5.out).below (below1 w5 _)
    · rw [HW.out]; exact (HC4.out.below HB5.out HC4.out.lt).below (below1 w5 _) (HC4.out.below HB5.out HC4.out.lt).lt
    · rw [HW.out]; exact blk_two w5 P HP.out.symm _ _ _
    · rw [HW.out]; exact (HR4.out.of_block (HB5.out.block _ HR4.out.lt)).alloc _
    · rw [HW.out]; simp; have := HP.out; omega
  clear HW HO5 HO5' HB5 HB5' HR4 HKK4 HC4 HE hmp HC HPW HNE
  by_cases e0 : k = 0
  · subst e0
    obtain ⟨t0, t1⟩ := blk_pair_cells HAW.out.box
    have tf0 := (HAW.out.box.alloc (.cells #[.int .i64 0, .int .i64 1, .int .i64 12, .int .i64 13, .int .i64 (-9223372036854775808)] 3)).frozen 0
    obtain ⟨tt0, _⟩ := blk_pair_cells (HAW.out.box.alloc (.cells #[.int .i64 0, .int .i64 1, .int .i64 12, .int .i64 13, .int .i64 (-9223372036854775808)] 3))
    have hr0 : 0 ≤ x % 5 := by omega
    have hr1 : x % 5 < 5 := by omega
    obtain ⟨z, hz⟩ : ∃ z, (W.alloc (.cells #[.int .i64 0, .int .i64 1, .int .i64 12, .int .i64 13, .int .i64 (-9223372036854775808)] 3)).cell? ⟨W.heap.size, (x % 5).toNat, none⟩ = some (.int .i64 z) := pick5 W x
    go_upto_region 12 with fail
    obtain ⟨WF, HWF⟩ : ∃ WF, Hid (WF = (W.alloc (.cells #[.int .i64 0, .int .i64 1, .int .i64 12, .int .i64 13, .int .i64 (-9223372036854775808)] 3)).setCell ⟨P, 0, none⟩ (.int .i64 z)) := ⟨_, rfl⟩
    rw [← HWF.out]
    have HA : Hid (AnyS w WF p n cap ao B M P z a5 (nL) c5 (L)) := by rw [HWF.out]; exact any_put0 HAW.out HIN.out z
    clear HWF
    obtain ⟨d0, d1⟩ := blk_pair_cells HA.out.box
    obtain ⟨r0, r1⟩ := blk_pair_cells HA.out.res
    have rf0 := HA.out.res.frozen 0
    have rf1 := HA.out.res.frozen 1
    go_wp2
    refine bodyPost_ret (v := .agg #[.int .i64 z, .slice a5 (nL) c5]) (by simp [results, Tryd.results46, go_sem, r0, r1]) rfl ?_
    exact ⟨_, _, _, _, L, rfl, by first | exact HLN | (show _ = _; rw [List.length_append, HLN.out]; rfl), HA.out.fin.1, by show _ ≤ _; have := HGD.out.1.2.1; have := HLN.out; omega, HA.out.fin.2.1, HA.out.fin.2.2⟩
  · by_cases e1 : k = 1
    · subst e1
      obtain ⟨t0, t1⟩ := blk_pair_cells HAW.out.box
      go_wp2_with (at_builtin; refine wpList_append_lies _ rfl (.tmp 25) (.tmp 35) 24 rfl M 37 i0 _ 3 24 Tryd.underlying24 hi0 hz0 hz1 hz2 rfl (by decide) _ nL (ecells L) rfl (HOW.out.alloc _) ⟨W.heap.size, 0, none⟩ 1 1 [.int .i64 _, .int .u8 _, .int .i64 _] rfl rfl (news_three W _ _ _ _) (by simp [Value.oneCell']) (by decide) (by unfold maxLen; have := HNL.out; omega) (by have := HNL.out; omega) (by have := HLT.out; simp; omega) _ rfl ?_)
      intro g4 cap4 w4 hown4 hgrow4 hloc4 _
      obtain ⟨xe, HXE⟩ : ∃ xe : Ed, Hid (M ≤ g4 ∧ g4 ≠ P ∧ w4.ownsRow M 37 3 (.slice (some ⟨g4, 0, none⟩) (nL + 1) cap4) (nL + 1) (ecells (L ++ [xe])) ∧ Below M W w4 ∧ Blk w4 P 2 (fun i => if i = 0 then .int .i64 s else .slice a5 nL c5)) := ⟨(_, _, _), any_app HAW.out HVP.out HLT.out (ecells_snoc L (_, _, _)) hown4 hgrow4 (by simpa using hloc4)⟩
      clear hown4 hgrow4 hloc4 t0 t1
      obtain ⟨u0, u1⟩ := blk_pair_cells HXE.out.2.2.2.2
      have uf1 := HXE.out.2.2.2.2.frozen 1
      go_upto_region 12 with fail
      obtain ⟨WF, HWF⟩ : ∃ WF, Hid (WF = w4.setCell ⟨P, 1, none⟩ (.slice (some ⟨g4, 0, none⟩) (nL + 1) cap4)) := ⟨_, rfl⟩
      rw [← HWF.out]
      have HA : Hid (AnyS w WF p n cap ao B M P s (some ⟨g4, 0, none⟩) (nL + 1) cap4 (L ++ [xe])) := by rw [HWF.out]; exact any_put1 HAW.out HXE.out (by rw [List.length_append, HLN.out]; rfl)
      clear HWF
      obtain ⟨d0, d1⟩ := blk_pair_cells HA.out.box
      obtain ⟨r0, r1⟩ := blk_pair_cells HA.out.res
      have rf0 := HA.out.res.frozen 0
      have rf1 := HA.out.res.frozen 1
      go_wp2
      refine bodyPost_ret (v := .agg #[.int .i64 s, .slice (some ⟨g4, 0, none⟩) (nL + 1) cap4]) (by simp [results, Tryd.results46, go_sem, r0, r1]) rfl ?_
      exact ⟨_, _, _, _, L ++ [xe], rfl, by first | exact HLN | (show _ = _; rw [List.length_append, HLN.out]; rfl), HA.out.fin.1, by show _ ≤ _; have := HGD.out.1.2.1; have := HLN.out; omega, HA.out.fin.2.1, HA.out.fin.2.2⟩
    · by_cases e2 : k = 2
      · subst e2
        obtain ⟨b, o, rfl, _, _, hx⟩ := HIN.out.edge (k := 0) (by have := HNL.out; have := HLN.out; omega)
        obtain ⟨xx, HXX⟩ : ∃ xx : Ed, Hid (xx = eat L 0) := ⟨_, rfl⟩
        rw [← HXX.out] at hx
        obtain ⟨e0, e1, e2⟩ := xx
        obtain ⟨p0, p1, p2⟩ := hx
        simp only [Nat.zero_mul, Nat.add_zero] at p0 p1 p2
        obtain ⟨_, t1⟩ := blk_pair_cells HAW.out.box
        have hln0 : (0 : Int) < (nL : Int) := by have := HNL.out; omega
        have t1a : ∀ q, (W.alloc q).cell? ⟨P, 1, none⟩ = some (.slice (some ⟨b, o, none⟩) nL c5) := fun q => cell_below t1 (below1 W q) (lt_of_cell t1)
        have t1b : ∀ q, (W.alloc q).drew.cell? ⟨P, 1, none⟩ = some (.slice (some ⟨b, o, none⟩) nL c5) := fun q => t1a q
        have t1c : ∀ q, (W.drew.alloc q).cell? ⟨P, 1, none⟩ = some (.slice (some ⟨b, o, none⟩) nL c5) := fun q => t1a q
        go_wp2_with fail
        refine wp_region_held_drew (S := fun _ => True) (by kernel_rfl) trivial (fun hHeld => ?_)
        refine wpAnyH_take (i := 0) (oi := { dst := some 44, op := Go.Op.fieldAddr 26 (Go.Operand.tmp 5) 1, type := 0, pos := "l04_graph.go:152", after := #[], guard := none }) (v := ?_) rfl (by kernel_rfl) (by kernel_rfl) (by kernel_rfl) (fun _ _ _ h => h) (Or.inl ⟨by kernel_rfl, ?_⟩) (by assumption) ?_
        rotate_left
        · intro w hSw; (try dsimp only at hSw); go_simp; try with_reducible rfl
        simp only [Act.put, List.setIfInBounds_toArray, List.set_cons_zero, List.set_cons_succ]
        refine wpAnyH_take (i := 2) (oi := { dst := some 46, op := Go.Op.fieldAddr 26 (Go.Operand.tmp 5) 1, type := 0, pos := "l04_graph.go:152", after := #[], guard := none }) (v := ?_) rfl (by kernel_rfl) (by kernel_rfl) (by kernel_rfl) (fun _ _ _ h => h) (Or.inl ⟨by kernel_rfl, ?_⟩) (by assumption) ?_
        rotate_left
        · intro w hSw; (try dsimp only at hSw); go_simp; try with_reducible rfl
        simp only [Act.put, List.setIfInBounds_toArray, List.set_cons_zero, List.set_cons_succ]
        refine wpAnyH_ready (rs := [1, 3]) (by kernel_rfl) (by simp) ?_
        refine AllReadyH.cons (o := { dst := some 45, op := Go.Op.load 24 (Go.Operand.tmp 44), type := 24, pos := "l04_graph.go:152", after := #[{ on := 0, ground := Go.Ground.data }], guard := none }) rfl (fun K hK => ?_) ?_
        · go_simp
          refine hK.out _ _ trivial (fun hHeld => ?_)
          clear hK K
          try simp only [Act.put, List.setIfInBounds_toArray, List.set_cons_zero, List.set_cons_succ]
          refine wpAnyH_ready (rs := [3]) (by kernel_rfl) (by simp) ?_
          refine AllReadyH.cons (o := { dst := some 47, op := Go.Op.load 24 (Go.Operand.tmp 46), type := 24, pos := "l04_graph.go:152", after := #[{ on := 2, ground := Go.Ground.data }], guard := none }) rfl (fun K hK => ?_) ?_
          · go_simp
            refine hK.out _ _ trivial (fun hHeld => ?_)
            clear hK K
            try simp only [Act.put, List.setIfInBounds_toArray, List.set_cons_zero, List.set_cons_succ]
            refine wpAnyH_take (i := 4) (oi := { dst := some 48, op := Go.Op.indexAddr 24 (Go.Operand.tmp 47) (Go.Operand.const (Go.Value.int Go.IntKind.i64 0)), type := 0, pos := "l04_graph.go:152", after := #[{ on := 3, ground := Go.Ground.data }], guard := none }) (v := ?_) rfl (by kernel_rfl) (by kernel_rfl) (by kernel_rfl) (fun _ _ _ h => h) (Or.inl ⟨by kernel_rfl, ?_⟩) (by assumption) ?_
            rotate_left
            · intro w hSw; (try dsimp only at hSw); go_simp; try with_reducible rfl
            simp only [Act.put, List.setIfInBounds_toArray, List.set_cons_zero, List.set_cons_succ]
            refine wpAnyH_ready (rs := [5]) (by kernel_rfl) (by simp) ?_
            refine AllReadyH.cons (o := { dst := some 49, op := Go.Op.load 37 (Go.Operand.tmp 48), type := 37, pos := "l04_graph.go:152", after := #[{ on := 4, ground := Go.Ground.data }], guard := none }) rfl (fun K hK => ?_) ?_
            · go_simp
              refine hK.out _ _ trivial (fun hHeld => ?_)
              clear hK K
              try simp only [Act.put, List.setIfInBounds_toArray, List.set_cons_zero, List.set_cons_succ]
              refine wpAnyH_ready (rs := [6]) (by kernel_rfl) (by simp) ?_
              refine AllReadyH.cons (o := { dst := some 50, op := Go.Op.buildSlice 24 1 #[(0, Go.Operand.tmp 49)], type := 24, pos := "l04_graph.go:152", after := #[{ on := 5, ground := Go.Ground.data }], guard := none }) rfl (fun K hK => ?_) ?_
              · go_simp
                refine hK.out _ _ trivial (fun hHeld => ?_)
                clear hK K
                try simp only [Act.put, List.setIfInBounds_toArray, List.set_cons_zero, List.set_cons_succ]
                refine wpAnyH_ready (rs := [7]) (by kernel_rfl) (by simp) ?_
                refine AllReadyH.cons (o := { dst := some 51, op := Go.Op.call { callee := Go.Callee.builtin Go.Builtin.append, args := #[Go.Operand.tmp 45, Go.Operand.tmp 50], argTypes := #[24, 24] }, type := 24, pos := "l04_graph.go:152", after := #[{ on := 1, ground := Go.Ground.data }, { on := 6, ground := Go.Ground.data }], guard := none }) rfl (fun K hK => ?_) ?_
                · refine step_append_lies _ rfl (.tmp 45) (.tmp 50) 24 rfl M 37 i0 _ 3 24 Tryd.underlying24 hi0 hz0 hz1 hz2 rfl (by decide) (.slice (some ⟨b, o, none⟩) nL c5) nL (ecells L) rfl (own_drew (HOW.out.alloc _)) ⟨W.heap.size, 0, none⟩ 1 1 [.int .i64 e0, .int .u8 e1, .int .i64 e2] rfl rfl (news_three W _ _ _ 37) (by simp [Value.oneCell']) (by decide) (by unfold maxLen; have := HNL.out; omega) (by have := HNL.out; omega) (by have := HLT.out; simp; omega) _ rfl ?_
                  intro g4 cap4 w4 hown4 hgrow4 hloc4 _
                  have HP4 : Hid (M ≤ g4 ∧ g4 ≠ P ∧ w4.ownsRow M 37 3 (.slice (some ⟨g4, 0, none⟩) (nL + 1) cap4) (nL + 1) (ecells (L ++ [(e0, e1, e2)])) ∧ Below M W w4 ∧ Blk w4 P 2 (fun i => if i = 0 then .int .i64 s else (.slice (some ⟨b, o, none⟩) nL c5))) := any_app HAW.out HVP.out HLT.out (o := .cells #[.int .i64 e0, .int .u8 e1, .int .i64 e2] 37) (ecells_snoc L (e0, e1, e2)) (own_undrew hown4) (grown_undrew hgrow4) (by simpa using hloc4)
                  clear hown4 hgrow4 hloc4 t1 t1a t1b t1c p0 p1 p2
                  refine hK.out _ _ trivial (fun hHeld => ?_)
                  clear hK K
                  try simp only [Act.put, List.setIfInBounds_toArray, List.set_cons_zero, List.set_cons_succ]
                  refine wpAnyH_take (i := 8) (oi := { dst := some 52, op := Go.Op.fieldAddr 26 (Go.Operand.tmp 5) 1, type := 0, pos := "l04_graph.go:152", after := #[{ on := 0, ground := Go.Ground.phase }, { on := 1, ground := Go.Ground.phase }, { on := 2, ground := Go.Ground.phase }, { on := 3, ground := Go.Ground.phase }, { on := 4, ground := Go.Ground.phase }, { on := 5, ground := Go.Ground.phase }, { on := 6, ground := Go.Ground.phase }, { on := 7, ground := Go.Ground.phase }], guard := none }) (v := ?_) rfl (by kernel_rfl) (by kernel_rfl) (by kernel_rfl) (fun _ _ _ h => h) (Or.inl ⟨by kernel_rfl, ?_⟩) (by assumption) ?_
                  rotate_left
                  · intro w hSw; (try dsimp only at hSw); go_simp; try with_reducible rfl
                  simp only [Act.put, List.setIfInBounds_toArray, List.set_cons_zero, List.set_cons_succ]
                  refine wpAnyH_ready (rs := [9]) (by kernel_rfl) (by simp) ?_
                  refine AllReadyH.cons (o := { dst := none, op := Go.Op.store 24 (Go.Operand.tmp 52) (Go.Operand.tmp 51), type := 0, pos := "l04_graph.go:152", after := #[{ on := 8, ground := Go.Ground.data }, { on := 7, ground := Go.Ground.data }, { on := 7, ground := Go.Ground.chain }, { on := 0, ground := Go.Ground.phase }, { on := 1, ground := Go.Ground.phase }, { on := 2, ground := Go.Ground.phase }, { on := 3, ground := Go.Ground.phase }, { on := 4, ground := Go.Ground.phase }, { on := 5, ground := Go.Ground.phase }, { on := 6, ground := Go.Ground.phase }, { on := 7, ground := Go.Ground.phase }], guard := none }) rfl (fun K hK => ?_) ?_
                  · obtain ⟨u0, u1⟩ := blk_pair_cells HP4.out.2.2.2.2
                    have uf1 := HP4.out.2.2.2.2.frozen 1
                    go_simp
                    refine hK.out _ _ trivial (fun hHeld => ?_)
                    clear hK K
                    try simp only [Act.put, List.setIfInBounds_toArray, List.set_cons_zero, List.set_cons_succ]
                    refine wpAnyH_done (by kernel_rfl) ?_ _
                    clear hHeld u0 u1 uf1
                    go_upto_region 12 with fail
                    obtain ⟨WF, HWF⟩ : ∃ WF, Hid (WF = w4.setCell ⟨P, 1, none⟩ (.slice (some ⟨g4, 0, none⟩) (nL + 1) cap4)) := ⟨_, rfl⟩
                    rw [← HWF.out]
                    have HA : Hid (AnyS w WF p n cap ao B M P s (some ⟨g4, 0, none⟩) (nL + 1) cap4 (L ++ [(e0, e1, e2)])) := by rw [HWF.out]; exact any_put1 HAW.out HP4.out (by rw [List.length_append, HLN.out]; rfl)
                    clear HWF
                    obtain ⟨d0, d1⟩ := blk_pair_cells HA.out.box
                    obtain ⟨r0, r1⟩ := blk_pair_cells HA.out.res
                    have rf0 := HA.out.res.frozen 0
                    have rf1 := HA.out.res.frozen 1
                    go_wp2
                    refine bodyPost_ret (v := .agg #[.int .i64 s, .slice (some ⟨g4, 0, none⟩) (nL + 1) cap4]) (by simp [results, Tryd.results46, go_sem, r0, r1]) rfl ?_
                    exact ⟨_, _, _, _, L ++ [(e0, e1, e2)], rfl, by first | exact HLN | (show _ = _; rw [List.length_append, HLN.out]; rfl), HA.out.fin.1, by show _ ≤ _; have := HGD.out.1.2.1; have := HLN.out; omega, HA.out.fin.2.1, HA.out.fin.2.2⟩
                  exact AllReadyH.nil
                exact AllReadyH.nil
              exact AllReadyH.nil
            exact AllReadyH.nil
          exact AllReadyH.nil
        refine AllReadyH.cons (o := { dst := some 47, op := Go.Op.load 24 (Go.Operand.tmp 46), type := 24, pos := "l04_graph.go:152", after := #[{ on := 2, ground := Go.Ground.data }], guard := none }) rfl (fun K hK => ?_) ?_
        · go_simp
          refine hK.out _ _ trivial (fun hHeld => ?_)
          clear hK K
          try simp only [Act.put, List.setIfInBounds_toArray, List.set_cons_zero, List.set_cons_succ]
          refine wpAnyH_take (i := 4) (oi := { dst := some 48, op := Go.Op.indexAddr 24 (Go.Operand.tmp 47) (Go.Operand.const (Go.Value.int Go.IntKind.i64 0)), type := 0, pos := "l04_graph.go:152", after := #[{ on := 3, ground := Go.Ground.data }], guard := none }) (v := ?_) rfl (by kernel_rfl) (by kernel_rfl) (by kernel_rfl) (fun _ _ _ h => h) (Or.inl ⟨by kernel_rfl, ?_⟩) (by assumption) ?_
          rotate_left
          · intro w hSw; (try dsimp only at hSw); go_simp; try with_reducible rfl
          simp only [Act.put, List.setIfInBounds_toArray, List.set_cons_zero, List.set_cons_succ]
          refine wpAnyH_ready (rs := [1, 5]) (by kernel_rfl) (by simp) ?_
          refine AllReadyH.cons (o := { dst := some 45, op := Go.Op.load 24 (Go.Operand.tmp 44), type := 24, pos := "l04_graph.go:152", after := #[{ on := 0, ground := Go.Ground.data }], guard := none }) rfl (fun K hK => ?_) ?_
          · go_simp
            refine hK.out _ _ trivial (fun hHeld => ?_)
            clear hK K
            try simp only [Act.put, List.setIfInBounds_toArray, List.set_cons_zero, List.set_cons_succ]
            refine wpAnyH_ready (rs := [5]) (by kernel_rfl) (by simp) ?_
            refine AllReadyH.cons (o := { dst := some 49, op := Go.Op.load 37 (Go.Operand.tmp 48), type := 37, pos := "l04_graph.go:152", after := #[{ on := 4, ground := Go.Ground.data }], guard := none }) rfl (fun K hK => ?_) ?_
            · go_simp
              refine hK.out _ _ trivial (fun hHeld => ?_)
              clear hK K
              try simp only [Act.put, List.setIfInBounds_toArray, List.set_cons_zero, List.set_cons_succ]
              refine wpAnyH_ready (rs := [6]) (by kernel_rfl) (by simp) ?_
              refine AllReadyH.cons (o := { dst := some 50, op := Go.Op.buildSlice 24 1 #[(0, Go.Operand.tmp 49)], type := 24, pos := "l04_graph.go:152", after := #[{ on := 5, ground := Go.Ground.data }], guard := none }) rfl (fun K hK => ?_) ?_
              · go_simp
                refine hK.out _ _ trivial (fun hHeld => ?_)
                clear hK K
                try simp only [Act.put, List.setIfInBounds_toArray, List.set_cons_zero, List.set_cons_succ]
                refine wpAnyH_ready (rs := [7]) (by kernel_rfl) (by simp) ?_
                refine AllReadyH.cons (o := { dst := some 51, op := Go.Op.call { callee := Go.Callee.builtin Go.Builtin.append, args := #[Go.Operand.tmp 45, Go.Operand.tmp 50], argTypes := #[24, 24] }, type := 24, pos := "l04_graph.go:152", after := #[{ on := 1, ground := Go.Ground.data }, { on := 6, ground := Go.Ground.data }], guard := none }) rfl (fun K hK => ?_) ?_
                · refine step_append_lies _ rfl (.tmp 45) (.tmp 50) 24 rfl M 37 i0 _ 3 24 Tryd.underlying24 hi0 hz0 hz1 hz2 rfl (by decide) (.slice (some ⟨b, o, none⟩) nL c5) nL (ecells L) rfl (own_drew (HOW.out.alloc _)) ⟨W.heap.size, 0, none⟩ 1 1 [.int .i64 e0, .int .u8 e1, .int .i64 e2] rfl rfl (news_three W _ _ _ 37) (by simp [Value.oneCell']) (by decide) (by unfold maxLen; have := HNL.out; omega) (by have := HNL.out; omega) (by have := HLT.out; simp; omega) _ rfl ?_
                  intro g4 cap4 w4 hown4 hgrow4 hloc4 _
                  have HP4 : Hid (M ≤ g4 ∧ g4 ≠ P ∧ w4.ownsRow M 37 3 (.slice (some ⟨g4, 0, none⟩) (nL + 1) cap4) (nL + 1) (ecells (L ++ [(e0, e1, e2)])) ∧ Below M W w4 ∧ Blk w4 P 2 (fun i => if i = 0 then .int .i64 s else (.slice (some ⟨b, o, none⟩) nL c5))) := any_app HAW.out HVP.out HLT.out (o := .cells #[.int .i64 e0, .int .u8 e1, .int .i64 e2] 37) (ecells_snoc L (e0, e1, e2)) (own_undrew hown4) (grown_undrew hgrow4) (by simpa using hloc4)
                  clear hown4 hgrow4 hloc4 t1 t1a t1b t1c p0 p1 p2
                  refine hK.out _ _ trivial (fun hHeld => ?_)
                  clear hK K
                  try simp only [Act.put, List.setIfInBounds_toArray, List.set_cons_zero, List.set_cons_succ]
                  refine wpAnyH_take (i := 8) (oi := { dst := some 52, op := Go.Op.fieldAddr 26 (Go.Operand.tmp 5) 1, type := 0, pos := "l04_graph.go:152", after := #[{ on := 0, ground := Go.Ground.phase }, { on := 1, ground := Go.Ground.phase }, { on := 2, ground := Go.Ground.phase }, { on := 3, ground := Go.Ground.phase }, { on := 4, ground := Go.Ground.phase }, { on := 5, ground := Go.Ground.phase }, { on := 6, ground := Go.Ground.phase }, { on := 7, ground := Go.Ground.phase }], guard := none }) (v := ?_) rfl (by kernel_rfl) (by kernel_rfl) (by kernel_rfl) (fun _ _ _ h => h) (Or.inl ⟨by kernel_rfl, ?_⟩) (by assumption) ?_
                  rotate_left
                  · intro w hSw; (try dsimp only at hSw); go_simp; try with_reducible rfl
                  simp only [Act.put, List.setIfInBounds_toArray, List.set_cons_zero, List.set_cons_succ]
                  refine wpAnyH_ready (rs := [9]) (by kernel_rfl) (by simp) ?_
                  refine AllReadyH.cons (o := { dst := none, op := Go.Op.store 24 (Go.Operand.tmp 52) (Go.Operand.tmp 51), type := 0, pos := "l04_graph.go:152", after := #[{ on := 8, ground := Go.Ground.data }, { on := 7, ground := Go.Ground.data }, { on := 7, ground := Go.Ground.chain }, { on := 0, ground := Go.Ground.phase }, { on := 1, ground := Go.Ground.phase }, { on := 2, ground := Go.Ground.phase }, { on := 3, ground := Go.Ground.phase }, { on := 4, ground := Go.Ground.phase }, { on := 5, ground := Go.Ground.phase }, { on := 6, ground := Go.Ground.phase }, { on := 7, ground := Go.Ground.phase }], guard := none }) rfl (fun K hK => ?_) ?_
                  · obtain ⟨u0, u1⟩ := blk_pair_cells HP4.out.2.2.2.2
                    have uf1 := HP4.out.2.2.2.2.frozen 1
                    go_simp
                    refine hK.out _ _ trivial (fun hHeld => ?_)
                    clear hK K
                    try simp only [Act.put, List.setIfInBounds_toArray, List.set_cons_zero, List.set_cons_succ]
                    refine wpAnyH_done (by kernel_rfl) ?_ _
                    clear hHeld u0 u1 uf1
                    go_upto_region 12 with fail
                    obtain ⟨WF, HWF⟩ : ∃ WF, Hid (WF = w4.setCell ⟨P, 1, none⟩ (.slice (some ⟨g4, 0, none⟩) (nL + 1) cap4)) := ⟨_, rfl⟩
                    rw [← HWF.out]
                    have HA : Hid (AnyS w WF p n cap ao B M P s (some ⟨g4, 0, none⟩) (nL + 1) cap4 (L ++ [(e0, e1, e2)])) := by rw [HWF.out]; exact any_put1 HAW.out HP4.out (by rw [List.length_append, HLN.out]; rfl)
                    clear HWF
                    obtain ⟨d0, d1⟩ := blk_pair_cells HA.out.box
                    obtain ⟨r0, r1⟩ := blk_pair_cells HA.out.res
                    have rf0 := HA.out.res.frozen 0
                    have rf1 := HA.out.res.frozen 1
                    go_wp2
                    refine bodyPost_ret (v := .agg #[.int .i64 s, .slice (some ⟨g4, 0, none⟩) (nL + 1) cap4]) (by simp [results, Tryd.results46, go_sem, r0, r1]) rfl ?_
                    exact ⟨_, _, _, _, L ++ [(e0, e1, e2)], rfl, by first | exact HLN | (show _ = _; rw [List.length_append, HLN.out]; rfl), HA.out.fin.1, by show _ ≤ _; have := HGD.out.1.2.1; have := HLN.out; omega, HA.out.fin.2.1, HA.out.fin.2.2⟩
                  exact AllReadyH.nil
                exact AllReadyH.nil
              exact AllReadyH.nil
            exact AllReadyH.nil
          refine AllReadyH.cons (o := { dst := some 49, op := Go.Op.load 37 (Go.Operand.tmp 48), type := 37, pos := "l04_graph.go:152", after := #[{ on := 4, ground := Go.Ground.data }], guard := none }) rfl (fun K hK => ?_) ?_
          · go_simp
            refine hK.out _ _ trivial (fun hHeld => ?_)
            clear hK K
            try simp only [Act.put, List.setIfInBounds_toArray, List.set_cons_zero, List.set_cons_succ]
            refine wpAnyH_ready (rs := [1, 6]) (by kernel_rfl) (by simp) ?_
            refine AllReadyH.cons (o := { dst := some 45, op := Go.Op.load 24 (Go.Operand.tmp 44), type := 24, pos := "l04_graph.go:152", after := #[{ on := 0, ground := Go.Ground.data }], guard := none }) rfl (fun K hK => ?_) ?_
            · go_simp
              refine hK.out _ _ trivial (fun hHeld => ?_)
              clear hK K
              try simp only [Act.put, List.setIfInBounds_toArray, List.set_cons_zero, List.set_cons_succ]
              refine wpAnyH_ready (rs := [6]) (by kernel_rfl) (by simp) ?_
              refine AllReadyH.cons (o := { dst := some 50, op := Go.Op.buildSlice 24 1 #[(0, Go.Operand.tmp 49)], type := 24, pos := "l04_graph.go:152", after := #[{ on := 5, ground := Go.Ground.data }], guard := none }) rfl (fun K hK => ?_) ?_
              · go_simp
                refine hK.out _ _ trivial (fun hHeld => ?_)
                clear hK K
                try simp only [Act.put, List.setIfInBounds_toArray, List.set_cons_zero, List.set_cons_succ]
                refine wpAnyH_ready (rs := [7]) (by kernel_rfl) (by simp) ?_
                refine AllReadyH.cons (o := { dst := some 51, op := Go.Op.call { callee := Go.Callee.builtin Go.Builtin.append, args := #[Go.Operand.tmp 45, Go.Operand.tmp 50], argTypes := #[24, 24] }, type := 24, pos := "l04_graph.go:152", after := #[{ on := 1, ground := Go.Ground.data }, { on := 6, ground := Go.Ground.data }], guard := none }) rfl (fun K hK => ?_) ?_
                · refine step_append_lies _ rfl (.tmp 45) (.tmp 50) 24 rfl M 37 i0 _ 3 24 Tryd.underlying24 hi0 hz0 hz1 hz2 rfl (by decide) (.slice (some ⟨b, o, none⟩) nL c5) nL (ecells L) rfl (own_drew (HOW.out.alloc _)) ⟨W.heap.size, 0, none⟩ 1 1 [.int .i64 e0, .int .u8 e1, .int .i64 e2] rfl rfl (news_three W _ _ _ 37) (by simp [Value.oneCell']) (by decide) (by unfold maxLen; have := HNL.out; omega) (by have := HNL.out; omega) (by have := HLT.out; simp; omega) _ rfl ?_
                  intro g4 cap4 w4 hown4 hgrow4 hloc4 _
                  have HP4 : Hid (M ≤ g4 ∧ g4 ≠ P ∧ w4.ownsRow M 37 3 (.slice (some ⟨g4, 0, none⟩) (nL + 1) cap4) (nL + 1) (ecells (L ++ [(e0, e1, e2)])) ∧ Below M W w4 ∧ Blk w4 P 2 (fun i => if i = 0 then .int .i64 s else (.slice (some ⟨b, o, none⟩) nL c5))) := any_app HAW.out HVP.out HLT.out (o := .cells #[.int .i64 e0, .int .u8 e1, .int .i64 e2] 37) (ecells_snoc L (e0, e1, e2)) (own_undrew hown4) (grown_undrew hgrow4) (by simpa using hloc4)
                  clear hown4 hgrow4 hloc4 t1 t1a t1b t1c p0 p1 p2
                  refine hK.out _ _ trivial (fun hHeld => ?_)
                  clear hK K
                  try simp only [Act.put, List.setIfInBounds_toArray, List.set_cons_zero, List.set_cons_succ]
                  refine wpAnyH_take (i := 8) (oi := { dst := some 52, op := Go.Op.fieldAddr 26 (Go.Operand.tmp 5) 1, type := 0, pos := "l04_graph.go:152", after := #[{ on := 0, ground := Go.Ground.phase }, { on := 1, ground := Go.Ground.phase }, { on := 2, ground := Go.Ground.phase }, { on := 3, ground := Go.Ground.phase }, { on := 4, ground := Go.Ground.phase }, { on := 5, ground := Go.Ground.phase }, { on := 6, ground := Go.Ground.phase }, { on := 7, ground := Go.Ground.phase }], guard := none }) (v := ?_) rfl (by kernel_rfl) (by kernel_rfl) (by kernel_rfl) (fun _ _ _ h => h) (Or.inl ⟨by kernel_rfl, ?_⟩) (by assumption) ?_
                  rotate_left
                  · intro w hSw; (try dsimp only at hSw); go_simp; try with_reducible rfl
                  simp only [Act.put, List.setIfInBounds_toArray, List.set_cons_zero, List.set_cons_succ]
                  refine wpAnyH_ready (rs := [9]) (by kernel_rfl) (by simp) ?_
                  refine AllReadyH.cons (o := { dst := none, op := Go.Op.store 24 (Go.Operand.tmp 52) (Go.Operand.tmp 51), type := 0, pos := "l04_graph.go:152", after := #[{ on := 8, ground := Go.Ground.data }, { on := 7, ground := Go.Ground.data }, { on := 7, ground := Go.Ground.chain }, { on := 0, ground := Go.Ground.phase }, { on := 1, ground := Go.Ground.phase }, { on := 2, ground := Go.Ground.phase }, { on := 3, ground := Go.Ground.phase }, { on := 4, ground := Go.Ground.phase }, { on := 5, ground := Go.Ground.phase }, { on := 6, ground := Go.Ground.phase }, { on := 7, ground := Go.Ground.phase }], guard := none }) rfl (fun K hK => ?_) ?_
                  · obtain ⟨u0, u1⟩ := blk_pair_cells HP4.out.2.2.2.2
                    have uf1 := HP4.out.2.2.2.2.frozen 1
                    go_simp
                    refine hK.out _ _ trivial (fun hHeld => ?_)
                    clear hK K
                    try simp only [Act.put, List.setIfInBounds_toArray, List.set_cons_zero, List.set_cons_succ]
                    refine wpAnyH_done (by kernel_rfl) ?_ _
                    clear hHeld u0 u1 uf1
                    go_upto_region 12 with fail
                    obtain ⟨WF, HWF⟩ : ∃ WF, Hid (WF = w4.setCell ⟨P, 1, none⟩ (.slice (some ⟨g4, 0, none⟩) (nL + 1) cap4)) := ⟨_, rfl⟩
                    rw [← HWF.out]
                    have HA : Hid (AnyS w WF p n cap ao B M P s (some ⟨g4, 0, none⟩) (nL + 1) cap4 (L ++ [(e0, e1, e2)])) := by rw [HWF.out]; exact any_put1 HAW.out HP4.out (by rw [List.length_append, HLN.out]; rfl)
                    clear HWF
                    obtain ⟨d0, d1⟩ := blk_pair_cells HA.out.box
                    obtain ⟨r0, r1⟩ := blk_pair_cells HA.out.res
                    have rf0 := HA.out.res.frozen 0
                    have rf1 := HA.out.res.frozen 1
                    go_wp2
                    refine bodyPost_ret (v := .agg #[.int .i64 s, .slice (some ⟨g4, 0, none⟩) (nL + 1) cap4]) (by simp [results, Tryd.results46, go_sem, r0, r1]) rfl ?_
                    exact ⟨_, _, _, _, L ++ [(e0, e1, e2)], rfl, by first | exact HLN | (show _ = _; rw [List.length_append, HLN.out]; rfl), HA.out.fin.1, by show _ ≤ _; have := HGD.out.1.2.1; have := HLN.out; omega, HA.out.fin.2.1, HA.out.fin.2.2⟩
                  exact AllReadyH.nil
                exact AllReadyH.nil
              exact AllReadyH.nil
            refine AllReadyH.cons (o := { dst := some 50, op := Go.Op.buildSlice 24 1 #[(0, Go.Operand.tmp 49)], type := 24, pos := "l04_graph.go:152", after := #[{ on := 5, ground := Go.Ground.data }], guard := none }) rfl (fun K hK => ?_) ?_
            · go_simp
              refine hK.out _ _ trivial (fun hHeld => ?_)
              clear hK K
              try simp only [Act.put, List.setIfInBounds_toArray, List.set_cons_zero, List.set_cons_succ]
              refine wpAnyH_ready (rs := [1]) (by kernel_rfl) (by simp) ?_
              refine AllReadyH.cons (o := { dst := some 45, op := Go.Op.load 24 (Go.Operand.tmp 44), type := 24, pos := "l04_graph.go:152", after := #[{ on := 0, ground := Go.Ground.data }], guard := none }) rfl (fun K hK => ?_) ?_
              · go_simp
                refine hK.out _ _ trivial (fun hHeld => ?_)
                clear hK K
                try simp only [Act.put, List.setIfInBounds_toArray, List.set_cons_zero, List.set_cons_succ]
                refine wpAnyH_ready (rs := [7]) (by kernel_rfl) (by simp) ?_
                refine AllReadyH.cons (o := { dst := some 51, op := Go.Op.call { callee := Go.Callee.builtin Go.Builtin.append, args := #[Go.Operand.tmp 45, Go.Operand.tmp 50], argTypes := #[24, 24] }, type := 24, pos := "l04_graph.go:152", after := #[{ on := 1, ground := Go.Ground.data }, { on := 6, ground := Go.Ground.data }], guard := none }) rfl (fun K hK => ?_) ?_
                · refine step_append_lies _ rfl (.tmp 45) (.tmp 50) 24 rfl M 37 i0 _ 3 24 Tryd.underlying24 hi0 hz0 hz1 hz2 rfl (by decide) (.slice (some ⟨b, o, none⟩) nL c5) nL (ecells L) rfl (own_drew (HOW.out.alloc _)) ⟨W.heap.size, 0, none⟩ 1 1 [.int .i64 e0, .int .u8 e1, .int .i64 e2] rfl rfl (news_three W _ _ _ 37) (by simp [Value.oneCell']) (by decide) (by unfold maxLen; have := HNL.out; omega) (by have := HNL.out; omega) (by have := HLT.out; simp; omega) _ rfl ?_
                  intro g4 cap4 w4 hown4 hgrow4 hloc4 _
                  have HP4 : Hid (M ≤ g4 ∧ g4 ≠ P ∧ w4.ownsRow M 37 3 (.slice (some ⟨g4, 0, none⟩) (nL + 1) cap4) (nL + 1) (ecells (L ++ [(e0, e1, e2)])) ∧ Below M W w4 ∧ Blk w4 P 2 (fun i => if i = 0 then .int .i64 s else (.slice (some ⟨b, o, none⟩) nL c5))) := any_app HAW.out HVP.out HLT.out (o := .cells #[.int .i64 e0, .int .u8 e1, .int .i64 e2] 37) (ecells_snoc L (e0, e1, e2)) (own_undrew hown4) (grown_undrew hgrow4) (by simpa using hloc4)
                  clear hown4 hgrow4 hloc4 t1 t1a t1b t1c p0 p1 p2
                  refine hK.out _ _ trivial (fun hHeld => ?_)
                  clear hK K
                  try simp only [Act.put, List.setIfInBounds_toArray, List.set_cons_zero, List.set_cons_succ]
                  refine wpAnyH_take (i := 8) (oi := { dst := some 52, op := Go.Op.fieldAddr 26 (Go.Operand.tmp 5) 1, type := 0, pos := "l04_graph.go:152", after := #[{ on := 0, ground := Go.Ground.phase }, { on := 1, ground := Go.Ground.phase }, { on := 2, ground := Go.Ground.phase }, { on := 3, ground := Go.Ground.phase }, { on := 4, ground := Go.Ground.phase }, { on := 5, ground := Go.Ground.phase }, { on := 6, ground := Go.Ground.phase }, { on := 7, ground := Go.Ground.phase }], guard := none }) (v := ?_) rfl (by kernel_rfl) (by kernel_rfl) (by kernel_rfl) (fun _ _ _ h => h) (Or.inl ⟨by kernel_rfl, ?_⟩) (by assumption) ?_
                  rotate_left
                  · intro w hSw; (try dsimp only at hSw); go_simp; try with_reducible rfl
                  simp only [Act.put, List.setIfInBounds_toArray, List.set_cons_zero, List.set_cons_succ]
                  refine wpAnyH_ready (rs := [9]) (by kernel_rfl) (by simp) ?_
                  refine AllReadyH.cons (o := { dst := none, op := Go.Op.store 24 (Go.Operand.tmp 52) (Go.Operand.tmp 51), type := 0, pos := "l04_graph.go:152", after := #[{ on := 8, ground := Go.Ground.data }, { on := 7, ground := Go.Ground.data }, { on := 7, ground := Go.Ground.chain }, { on := 0, ground := Go.Ground.phase }, { on := 1, ground := Go.Ground.phase }, { on := 2, ground := Go.Ground.phase }, { on := 3, ground := Go.Ground.phase }, { on := 4, ground := Go.Ground.phase }, { on := 5, ground := Go.Ground.phase }, { on := 6, ground := Go.Ground.phase }, { on := 7, ground := Go.Ground.phase }], guard := none }) rfl (fun K hK => ?_) ?_
                  · obtain ⟨u0, u1⟩ := blk_pair_cells HP4.out.2.2.2.2
                    have uf1 := HP4.out.2.2.2.2.frozen 1
                    go_simp
                    refine hK.out _ _ trivial (fun hHeld => ?_)
                    clear hK K
                    try simp only [Act.put, List.setIfInBounds_toArray, List.set_cons_zero, List.set_cons_succ]
                    refine wpAnyH_done (by kernel_rfl) ?_ _
                    clear hHeld u0 u1 uf1
                    go_upto_region 12 with fail
                    obtain ⟨WF, HWF⟩ : ∃ WF, Hid (WF = w4.setCell ⟨P, 1, none⟩ (.slice (some ⟨g4, 0, none⟩) (nL + 1) cap4)) := ⟨_, rfl⟩
                    rw [← HWF.out]
                    have HA : Hid (AnyS w WF p n cap ao B M P s (some ⟨g4, 0, none⟩) (nL + 1) cap4 (L ++ [(e0, e1, e2)])) := by rw [HWF.out]; exact any_put1 HAW.out HP4.out (by rw [List.length_append, HLN.out]; rfl)
                    clear HWF
                    obtain ⟨d0, d1⟩ := blk_pair_cells HA.out.box
                    obtain ⟨r0, r1⟩ := blk_pair_cells HA.out.res
                    have rf0 := HA.out.res.frozen 0
                    have rf1 := HA.out.res.frozen 1
                    go_wp2
                    refine bodyPost_ret (v := .agg #[.int .i64 s, .slice (some ⟨g4, 0, none⟩) (nL + 1) cap4]) (by simp [results, Tryd.results46, go_sem, r0, r1]) rfl ?_
                    exact ⟨_, _, _, _, L ++ [(e0, e1, e2)], rfl, by first | exact HLN | (show _ = _; rw [List.length_append, HLN.out]; rfl), HA.out.fin.1, by show _ ≤ _; have := HGD.out.1.2.1; have := HLN.out; omega, HA.out.fin.2.1, HA.out.fin.2.2⟩
                  exact AllReadyH.nil
                exact AllReadyH.nil
              exact AllReadyH.nil
            exact AllReadyH.nil
          exact AllReadyH.nil
        exact AllReadyH.nil

      · obtain ⟨t0, t1⟩ := blk_pair_cells HAW.out.box
        go_upto_region 12 with fail
        obtain ⟨WF, HWF⟩ : ∃ WF, Hid (WF = W) := ⟨_, rfl⟩
        rw [← HWF.out]
        have HA : Hid (AnyS w WF p n cap ao B M P s a5 (nL) c5 (L)) := by rw [HWF.out]; exact HAW.out
        clear HWF
        obtain ⟨d0, d1⟩ := blk_pair_cells HA.out.box
        obtain ⟨r0, r1⟩ := blk_pair_cells HA.out.res
        have rf0 := HA.out.res.frozen 0
        have rf1 := HA.out.res.frozen 1
        go_wp2
        refine bodyPost_ret (v := .agg #[.int .i64 s, .slice a5 (nL) c5]) (by simp [results, Tryd.results46, go_sem, r0, r1]) rfl ?_
        exact ⟨_, _, _, _, L, rfl, by first | exact HLN | (show _ = _; rw [List.length_append, HLN.out]; rfl), HA.out.fin.1, by show _ ≤ _; have := HGD.out.1.2.1; have := HLN.out; omega, HA.out.fin.2.1, HA.out.fin.2.2⟩
end Go.Proofs.YtigojleieihdoaaDoor

/-
  Drawn lists of graphs: spec.DrawTogether.
-/
namespace Go.Proofs.YtigojleieihdoaaDoor
open Go.RowKit

/-- the draw of a list: the cursor p, the graph in box P, the list from M on -/
structure DS (w wr : World) (p P M : Nat) (ao : Option Addr) (n0 cap0 : Nat) (s : Int) (a : Option Addr) (nL cL : Nat) (L : List Ed) (v : Value) (k : Nat) (T : List Pe) (G : List Gr) : Prop where
  bel : Below w.heap.size w wr
  cur : CurL p ao n0 cap0 wr
  box : Blk wr P 2 (fun i => if i = 0 then .int .i64 s else .slice a nL cL)
  eg : EdgesIn (p + 1) P wr a L
  pl : PL M wr.heap.size wr v k M T G
  lt : w.heap.size ≤ p ∧ p < P ∧ P < M ∧ M ≤ wr.heap.size
theorem PL.top {lo hi k M : Nat} {w : World} {v : Value} {T : List Pe} {G : List Gr} (h : PL lo hi w v k M T G) : PL lo w.heap.size w v k M T G := ⟨h.row, h.pts.wide (Nat.le_refl _) h.hh, h.off, h.len, Nat.le_refl _⟩
theorem DS.below {w wr w1 : World} {p P M : Nat} {ao : Option Addr} {n0 cap0 : Nat} {s : Int} {a : Option Addr} {nL cL : Nat} {L : List Ed} {v : Value} {k : Nat} {T : List Pe} {G : List Gr} (h : DS w wr p P M ao n0 cap0 s a nL cL L v k T G) (hb : Below wr.heap.size wr w1) : DS w w1 p P M ao n0 cap0 s a nL cL L v k T G := by
  obtain ⟨h1, h2, h3, h4⟩ := h.lt
  exact ⟨h.bel.trans (hb.mono h.bel.size), h.cur.below hb (by omega), h.box.of_block (hb.block _ h.box.lt), h.eg.below hb (by omega), (h.pl.below hb).top, ⟨h1, h2, h3, Nat.le_trans h4 hb.size⟩⟩
theorem DS.keptBut {w wr w1 : World} {p P M : Nat} {ao : Option Addr} {n0 cap0 : Nat} {s : Int} {a : Option Addr} {nL cL : Nat} {L : List Ed} {v : Value} {k : Nat} {T : List Pe} {G : List Gr} (h : DS w wr p P M ao n0 cap0 s a nL cL L v k T G) (hc : CurL p ao n0 cap0 w1) (hb : KeptBut p wr w1) : DS w w1 p P M ao n0 cap0 s a nL cL L v k T G := by
  obtain ⟨h1, h2, h3, h4⟩ := h.lt
  exact ⟨h.bel.trans (hb.to_below h1 h.bel.size), hc, h.box.keptBut hb (by omega), h.eg.keptBut hb (by omega) (by omega), (h.pl.keptBut hb (by omega) (by omega)).top, ⟨h1, h2, h3, Nat.le_trans h4 hb.size⟩⟩
theorem DS.grow {w wr w2 : World} {p P M : Nat} {ao : Option Addr} {n0 cap0 : Nat} {s : Int} {a : Option Addr} {nL cL : Nat} {L : List Ed} {v v2 : Value} {k k2 : Nat} {T T2 : List Pe} {G G2 : List Gr} (h : DS w wr p P M ao n0 cap0 s a nL cL L v k T G) (hb : Below M wr w2) (hp : PL M w2.heap.size w2 v2 k2 M T2 G2) : DS w w2 p P M ao n0 cap0 s a nL cL L v2 k2 T2 G2 := by
  obtain ⟨h1, h2, h3, h4⟩ := h.lt
  exact ⟨h.bel.trans (hb.mono (by omega)), h.cur.below hb (by omega), h.box.of_block (hb.block _ (by omega)), h.eg.below hb (by omega), hp, ⟨h1, h2, h3, Nat.le_trans h4 hb.size⟩⟩

set_option maxHeartbeats 4000000 in
set_option maxRecDepth 100000 in
theorem drawTogether_any (w : World) (n cap : Nat) (ao : Option Addr) (hn : n ≤ 1048576) (hc : CodeIn w ao n) :
    Calls Tryd.prog 17 #[.slice ao n cap] w fun e w' => ∃ (a : Option Addr) (nG cG : Nat) (G : List Gr), e = .returned (.slice a nG cG) ∧ Hid (G.length = nG ∧ nG ≤ 5) ∧ Hid (GrsIn 0 w'.heap.size w' a G) ∧ Hid ((catTo G G.length).length ≤ 1048576) ∧ Hid (Below w.heap.size w w') := by
  have HC : Hid (CodeIn w ao n) := hc
  obtain ⟨i0, hi0, hz0, hz1, hz2⟩ := info_parts Tryd.info26
  clear hc
  go_enter Tryd.func17, Tryd.ntmps17
  go_wp2_with fail
  refine (new_any w ao n cap hn HC.out).mono ?_
  rintro e w1 ⟨rfl, hc1, hb1⟩
  obtain ⟨p, HP⟩ : ∃ p, Hid (p = w.heap.size) := ⟨_, rfl⟩
  have HC1 : Hid (CurL p ao n cap w1) := by rw [HP.out]; exact ⟨hc1, cur_start HC.out⟩
  have HB1 : Hid (Below w.heap.size w w1) := hb1
  rw [← HP.out]
  clear hc1 hb1
  go_wp2_with fail
  refine (HC1.out.draw 8 (by omega) (by omega)).mono ?_
  rintro e w2 ⟨kk, rfl, hk0, hk1, HC2, HK2⟩
  go_wp2_with fail
  refine (HC2.out.draw 4 (by omega) (by omega)).mono ?_
  rintro e w3 ⟨x, rfl, hx0, hx1, HC3, HK3⟩
  have HKK : Hid (KeptBut p w1 w3) := HK2.out.trans HK3.out
  clear HC1 HC2 HK2 HK3
  go_wp2_with fail
  refine (l04Graph_any w3 p n cap ao HC3.out).mono ?_
  rintro e w4 ⟨s, a, nL, cL, L, rfl, HLN, HE, HGD, HC4, HK4⟩
  have HKK4 : Hid (KeptBut p w1 w4) := HKK.out.trans HK4.out
  have HP3 : Hid (p < w3.heap.size) := HC3.out.lt
  obtain ⟨P, HPP⟩ : ∃ P, Hid (P = w4.heap.size) := ⟨_, rfl⟩
  obtain ⟨M, HMM⟩ : ∃ M, Hid (M = P + 1) := ⟨_, rfl⟩
  obtain ⟨W5, HW5⟩ : ∃ W5, Hid (W5 = w4.alloc (.cells #[.int .i64 s, .slice a nL cL] 26)) := ⟨_, rfl⟩
  obtain ⟨W6, HW6⟩ : ∃ W6, Hid (W6 = W5.alloc (.cells #[] 26)) := ⟨_, rfl⟩
  have HM5 : Hid (W5.heap.size = M) := by rw [HW5.out, HMM.out, HPP.out]; show _ = _; simp
  have hnL : nL ≤ 10 := by rw [← HLN.out]; exact HGD.out.1.2.1
  have HOK : Hid (okG s L = true) := HGD.out.1.1
  obtain ⟨nw, HNW⟩ : ∃ nw : Nat, Hid ((nw : Int) = 1 + x) := ⟨(1 + x).toNat, by show _ = _; omega⟩
  have hw1 : 1 ≤ nw := by have := HNW.out; omega
  have hw4 : nw ≤ 4 := by have := HNW.out; omega
  have HDS : Hid (DS w W6 p P M ao n cap s a nL cL L (.slice (some ⟨M, 0, none⟩) 0 0) 0 [] []) := by
    have hp4 := HC4.out.lt
    have h34 : w3.heap.size ≤ w4.heap.size := HK4.out.size
    have hp3 := HP3.out
    have hpl : PL M W5.heap.size W6 (.slice (some ⟨M, 0, none⟩) 0 0) 0 M [] [] := by
      rw [HW6.out, ← HM5.out]; exact PL.made (Nat.le_refl _) (Nat.le_refl _)
    have hb56 : Below W5.heap.size W5 W6 := by rw [HW6.out]; exact below1 _ _
    have hb45 : Below w4.heap.size w4 W5 := by rw [HW5.out]; exact below1 _ _
    have hb46 : Below w4.heap.size w4 W6 := hb45.trans (hb56.mono hb45.size)
    have hpm := HMM.out
    have hpp := HPP.out
    refine ⟨?_, HC4.out.below hb46 hp4, ?_, ?_, hpl.top, ⟨by rw [HP.out]; exact Nat.le_refl _, by omega, by omega, ?_⟩⟩
    · have h14 : Below w.heap.size w w4 := HB1.out.trans (HKK4.out.to_below (by rw [HP.out]; exact Nat.le_refl _) HB1.out.size)
      exact h14.trans (hb46.mono h14.size)
    · have : Blk W5 P 2 (fun i => if i = 0 then .int .i64 s else .slice a nL cL) := by rw [HW5.out]; exact blk_two w4 P HPP.out _ _ _
      exact this.of_block (hb56.block _ this.lt)
    · exact (HE.out.below hb46 (Nat.le_refl _)).wide (by omega) (by omega)
    · have := hb56.size; have := HM5.out; omega
  clear HE HGD HC3 HC4 HK4 HKK HKK4 HB1 HP3
  go_wp2
  rw [← HPP.out, ← HMM.out, ← HW5.out, ← HW6.out, ← HNW.out]
  clear HPP HMM HW5 HW6 HM5 HNW
  go_loopw [8, 7] (fun i v wr => ∃ (k : Nat) (T : List Pe), i = .int .i64 k ∧ k ≤ nw ∧ Hid (DS w wr p P M ao n cap s a nL cL L v k T (partsG s L (nw : Int) k))) (fun i _ _ => nw - (intOf i).toNat)
  case atStart => exact ⟨0, [], rfl, by omega, HDS⟩
  case round =>
    obtain ⟨k, T, rfl, hk, HD⟩ := hrel
    by_cases hlt : k < nw
    · have hlt1 : (k : Int) < (nw : Int) := by omega
      obtain ⟨c0, c1⟩ := blk_pair_cells HD.out.box
      go_wp2_with fail
      refine (specPartOf_any (p + 1) P s a nL cL L (k : Int) (nw : Int) wr HD.out.eg (by have := HD.out.lt; omega) HLN.out (by omega)).mono ?_
      rintro e w7 ⟨a7, n7, c7, rfl, HN7, HO7, HB7⟩
      have HD7 : Hid (DS w w7 p P M ao n cap s a nL cL L _ k T (partsG s L (nw : Int) k)) := HD.out.below HB7.out
      obtain ⟨PL7, HPL⟩ : ∃ PL7, Hid (PL7 = partL s L (k : Int) (nw : Int)) := ⟨_, rfl⟩
      rw [← HPL.out] at HN7 HO7
      have HOF : Hid (PL7 = [] ∨ ∃ b o, a7 = some ⟨b, o, none⟩ ∧ ¬ Value.ownBlock _ = some b) := HD.out.pl.fresh (Nat.le_refl _) HO7.out.toIn
      have HE7 : Hid (EdgesIn M w7.heap.size w7 a7 PL7) := HO7.out.toIn.wide (by have := HD.out.lt; omega) (Nat.le_refl _)
      have hM7 : M ≤ w7.heap.size := HD7.out.lt.2.2.2
      clear c0 c1 HO7
      go_wp2_with (at_builtin; refine wpList_append_lies _ rfl (.tmp 24) (.tmp 29) 34 rfl M 26 i0 _ 2 32 Tryd.underlying34 hi0 hz0 hz1 hz2 rfl (by decide) _ k (pcells T) rfl (HD7.out.pl.row.alloc _) ⟨w7.heap.size, 0, none⟩ 1 1 [.int .i64 s, .slice a7 n7 c7] rfl rfl (news_two' w7 _ _ _) (by simp [Value.oneCell']) (by decide) (by unfold maxLen; omega) (by omega) (by have := HD7.out.pl.row; simp; omega) _ rfl ?_)
      intro g8 cap8 w8 hown8 hgrow8 hloc8 _
      have HP8 : Hid (PL M w7.heap.size w8 (.slice (some ⟨g8, 0, none⟩) (k + 1) cap8) (k + 1) M (T ++ [(s, a7, n7, c7)]) (partsG s L (nw : Int) (k + 1))) := by
        rw [partsG_snoc, ← HPL.out]
        refine HD7.out.pl.app HN7.out HE7.out (Nat.le_refl _) (Nat.le_refl _) HOF.out hown8 hgrow8 ?_
        rcases hloc8 with h | h
        · exact .inl h
        · right; omega
      have HB8 : Hid (Below M w7 w8) := ((Below.refl M w7).alloc hM7 _).grown hgrow8 (by simp; omega) (fun k hk => (HD7.out.pl.row.lt k hk).1)
      have HD8 : Hid (DS w w8 p P M ao n cap s a nL cL L (.slice (some ⟨g8, 0, none⟩) (k + 1) cap8) (k + 1) (T ++ [(s, a7, n7, c7)]) (partsG s L (nw : Int) (k + 1))) := HD7.out.grow HB8.out HP8.out.top
      clear hown8 hgrow8 hloc8
      go_wp2
      go_roundw
      case rel => exact ⟨k + 1, T ++ [(s, a7, n7, c7)], by go_num, by omega, HD8⟩
      case measure => simp [intOf]; omega
    · obtain rfl : k = nw := by omega
      by_cases h0 : kk = 0
      · subst h0
        have HBE : Hid (Below w.heap.size w (wr.alloc (.cells #[] 26))) := HD.out.bel.alloc HD.out.bel.size _
        go_wp2
        go_ret
        exact ⟨_, 0, 0, [], rfl, ⟨rfl, by omega⟩, .inl rfl, by show _ ≤ _; simp [catTo], HBE⟩
      · have hd0 : (kk == 0) = false := by simpa using h0
        have hd0' : decide (kk = 0) = false := decide_eq_false h0
        by_cases h1 : kk = 1
        · subst h1
          go_wp2_with fail
          refine (l04Any_any wr p n cap ao HD.out.cur).mono ?_
          rintro e w7 ⟨s7, a7, n7, c7, L7, rfl, HN7, HE7', HN11, HC7, HK7⟩
          have HD7 : Hid (DS w w7 p P M ao n cap s a nL cL L _ k T (partsG s L (k : Int) k)) := HD.out.keptBut HC7.out HK7.out
          have HOF : Hid (L7 = [] ∨ ∃ b o, a7 = some ⟨b, o, none⟩ ∧ ¬ Value.ownBlock _ = some b) := HD.out.pl.fresh (Nat.le_refl _) HE7'.out
          have HE7 : Hid (EdgesIn M w7.heap.size w7 a7 L7) := HE7'.out.wide (by have := HD.out.lt; omega) (Nat.le_refl _)
          have hM7 : M ≤ w7.heap.size := HD7.out.lt.2.2.2
          clear HE7'
          go_wp2_with (at_builtin; refine wpList_append_lies _ rfl (.tmp 37) (.tmp 40) 34 rfl M 26 i0 _ 2 32 Tryd.underlying34 hi0 hz0 hz1 hz2 rfl (by decide) _ k (pcells T) rfl (HD7.out.pl.row.alloc _) ⟨w7.heap.size, 0, none⟩ 1 1 [.int .i64 s7, .slice a7 n7 c7] rfl rfl (news_two' w7 _ _ _) (by simp [Value.oneCell']) (by decide) (by unfold maxLen; omega) (by omega) (by have := HD7.out.pl.row; simp; omega) _ rfl ?_)
          intro g8 cap8 w8 hown8 hgrow8 hloc8 _
          have HP8 : Hid (PL M w7.heap.size w8 (.slice (some ⟨g8, 0, none⟩) (k + 1) cap8) (k + 1) M (T ++ [(s7, a7, n7, c7)]) (partsG s L (k : Int) k ++ [(s7, L7)])) := by
            refine HD7.out.pl.app HN7.out HE7.out (Nat.le_refl _) (Nat.le_refl _) HOF.out hown8 hgrow8 ?_
            rcases hloc8 with h | h
            · exact .inl h
            · right; omega
          have HB8 : Hid (Below M w7 w8) := ((Below.refl M w7).alloc hM7 _).grown hgrow8 (by simp; omega) (fun k hk => (HD7.out.pl.row.lt k hk).1)
          have HBE : Hid (Below w.heap.size w w8) := HD7.out.bel.trans (HB8.out.mono (by have := HD7.out.lt; omega))
          have HLN8 : Hid ((partsG s L (k : Int) k ++ [(s7, L7)]).length = k + 1 ∧ k + 1 ≤ 5) := ⟨HP8.out.len, by omega⟩
          have HCT : Hid ((catTo (partsG s L (k : Int) k ++ [(s7, L7)]) (partsG s L (k : Int) k ++ [(s7, L7)]).length).length ≤ 1048576) := by
            have h5 := cat_le (G := partsG s L (k : Int) k ++ [(s7, L7)]) (m := 11) (fun i hi => ?_) _ (Nat.le_refl _)
            · have := HLN8.out
              show _ ≤ _
              rw [this.1] at h5 ⊢
              omega
            · rw [HLN8.out.1] at hi
              by_cases e : i < k
              · rw [gat_app (by rw [partsG_len]; exact e), partsG_at e]
                have := partL_len s L (i : Int) (k : Int)
                have := HLN.out
                show (partL s L (i : Int) (k : Int)).length ≤ 11
                omega
              · have e2 : i = (partsG s L (k : Int) k).length := by rw [partsG_len]; omega
                rw [e2, gat_last]
                show L7.length ≤ 11
                have := HN7.out; have := HN11.out; omega
          obtain ⟨a9, cap9, hv9, hg9⟩ := HP8.out.grs
          simp only [Value.slice.injEq] at hv9
          obtain ⟨rfl, _, rfl⟩ := hv9
          have HG9 : Hid (GrsIn 0 w8.heap.size w8 (some ⟨g8, 0, none⟩) (partsG s L (k : Int) k ++ [(s7, L7)])) := hg9
          clear hown8 hgrow8 hloc8 hg9
          go_wp2
          go_ret
          exact ⟨_, _, _, _, rfl, HLN8, HG9, HCT, HBE⟩
        · have hd1 : (kk == 1) = false := by simpa using h1
          have hd1' : decide (kk = 1) = false := decide_eq_false h1
          obtain ⟨a9, cap9, hv9, hg9⟩ := HD.out.pl.grs
          have HG9 : Hid (GrsIn 0 wr.heap.size wr a9 (partsG s L (k : Int) k)) := hg9
          have HCT : Hid ((catTo (partsG s L (k : Int) k) (partsG s L (k : Int) k).length).length ≤ 1048576) := by
            show _ ≤ _
            rw [partsG_len, cat_parts _ _ HOK.out k (Nat.le_refl _), pSum_all hw1]
            have := HLN.out
            omega
          have HBE : Hid (Below w.heap.size w wr) := HD.out.bel
          subst hv9
          clear hg9
          go_wp2
          go_ret
          exact ⟨a9, k, cap9, _, rfl, ⟨partsG_len _ _ _ _, by omega⟩, HG9, HCT, HBE⟩
end Go.Proofs.YtigojleieihdoaaDoor

/-
  Graphs put together: impl.Together.
-/
namespace Go.Proofs.YtigojleieihdoaaDoor
open Go.RowKit

set_option maxHeartbeats 8000000 in
set_option maxRecDepth 100000 in
theorem together_any (lo hi : Nat) (a : Option Addr) (n cap : Nat) (G : List Gr) (w : World) (ha : GrsIn lo hi w a G) (hh : hi ≤ w.heap.size) (hn : G.length = n) (hm : n ≤ 1048576) (ht : (catTo G G.length).length ≤ 1048576) :
    Calls Tryd.prog 16 #[.slice a n cap] w fun e w' => ∃ (a' : Option Addr) (n' cap' : Nat), e = .returned (.tuple #[gv (togS G) a' n' cap', .bool (togB G)]) ∧ Hid ((togE G).length = n') ∧ Hid (EdgesOwn w.heap.size w'.heap.size w' a' (togE G)) ∧ Hid (Below w.heap.size w w') := by
  have HN : Hid (G.length = n) := hn
  have HA : Hid (GrsIn lo hi w a G) := ha
  have HH : Hid (hi ≤ w.heap.size) := hh
  have HTT : Hid ((catTo G G.length).length ≤ 1048576) := ht
  obtain ⟨i0, hi0, hz0, hz1, hz2⟩ := info_parts Tryd.info37
  clear ha hh hn ht
  obtain ⟨B, HB⟩ : ∃ B, Hid (w.heap.size = B) := ⟨_, rfl⟩
  by_cases h0 : n = 0
  · subst h0
    have HG : Hid (G = []) := List.length_eq_zero_iff.1 HN.out
    have HF : Hid (togB G = false) := by rw [HG.out]; exact togB_none
    have HR0 : Hid (Blk (w.alloc (.cells #[.int .i64 0, .slice none 0 0] 26)) B 2 (fun i => if i = 0 then .int .i64 0 else .slice none 0 0)) := blk_two w B HB.out.symm _ _ _
    obtain ⟨W, HW⟩ : ∃ W, Hid (W = w.alloc (.cells #[.int .i64 0, .slice none 0 0] 26)) := ⟨_, rfl⟩
    have HBW : Hid (Below w.heap.size w W) := by rw [HW.out]; exact below1 w _
    rw [← HW.out] at HR0
    go_enter Tryd.func16, Tryd.ntmps16
    go_upto_region 1 with fail
    rw [HB.out, ← HW.out]
    clear HW
    obtain ⟨r0, r1⟩ := blk_pair_cells HR0.out
    have rf0 := Blk.frozen HR0.out 0
    have rf1 := Blk.frozen HR0.out 1
    go_wp2
    refine bodyPost_ret (v := .tuple #[.agg #[.int .i64 0, .slice none 0 0], .bool false]) (by simp [results, Tryd.results16, go_sem, r0, r1]) rfl ?_
    have hbl : Below w.heap.size w W := HBW.out
    refine ⟨none, 0, 0, by rw [togS_no HF.out, HF.out], by rw [togE_no HF.out]; rfl, by rw [togE_no HF.out]; exact .inl rfl, ?_⟩
    show Below _ _ _
    exact (hbl.setCell (p := ⟨B, 0, none⟩) (by show w.heap.size ≤ B; have := HB.out; omega) _).setCell (p := ⟨B, 1, none⟩) (by show w.heap.size ≤ B; have := HB.out; omega) _
  have hne : ¬ (n : Int) = 0 := by omega
  have hne2 : ((n : Int) == 0) = false := by simp; omega
  have hne3 : decide ((n : Int) = 0) = false := by simp; omega
  have h0n : (0 : Int) < (n : Int) := by omega
  obtain ⟨s0, HS0⟩ : ∃ s0, Hid (s0 = (gat G 0).1) := ⟨_, rfl⟩
  obtain ⟨b, o, rfl, hbh, hg0⟩ := HA.out.graph (k := 0) (by rw [HN.out]; omega)
  obtain ⟨a9, c9, g0, _, _⟩ := hg0
  rw [← HS0.out] at g0
  have g0' : w.cell? ⟨b, o, none⟩ = some (.int .i64 s0) := by simpa using g0
  have g0w : (w.alloc (.cells #[.int .i64 0, .slice none 0 0] 26)).cell? ⟨b, o, none⟩ = some (.int .i64 s0) := cell_below g0' (below1 w _) (lt_of_cell g0')
  obtain ⟨W1, HW1⟩ : ∃ W1, Hid (W1 = (w.alloc (.cells #[.int .i64 0, .slice none 0 0] 26)).alloc (.cells #[.int .i64 s0, .slice none 0 0] 26)) := ⟨_, rfl⟩
  have HTI : Hid (TI w W1 B s0 none 0 0 []) := by
    rw [HW1.out]
    exact ⟨below2 w _ _, (blk_two w B HB.out.symm _ _ _).alloc _, blk_two _ (B + 1) (by simp [HB.out]) _ _ _, World.ownsRow_nil _ _ _ _, rfl, HB.out, by simp; have := HB.out; omega⟩
  clear g0 g0' hbh
  go_enter Tryd.func16, Tryd.ntmps16
  go_wp2
  rw [HB.out, ← HW1.out]
  clear HW1 g0w
  go_loopw [18] (fun i wr => ∃ (k m : Nat) (a' : Option Addr) (cap' : Nat), i = .int .i64 k ∧ k ≤ n ∧ Hid (TI w wr B s0 a' m cap' (catTo G k)) ∧ Hid (∀ i, i < k → okG (gat G i).1 (gat G i).2 = true ∧ (gat G i).1 = s0)) (fun i _ => n - (intOf i).toNat)
  case atStart => exact ⟨0, 0, none, 0, rfl, by omega, HTI, fun i hi => absurd hi (by omega)⟩
  case round =>
    obtain ⟨k, m, a', cap', rfl, hk, HT, HAL⟩ := hrel
    by_cases hlt : k < n
    · have hlt1 : (k : Int) < (n : Int) := by omega
      have hlt0 : (0 : Int) ≤ (k : Int) := by omega
      have hkl : k < G.length := by rw [HN.out]; exact hlt
      have HGR : Hid (GrsIn lo hi wr (some ⟨b, o, none⟩) G) := HA.out.below HT.out.bel HH.out
      obtain ⟨b2, o2, eq2, hb2, hgk⟩ := HGR.out.graph hkl
      simp only [Option.some.injEq, Addr.mk.injEq, and_true] at eq2
      obtain ⟨rfl, rfl⟩ := eq2
      obtain ⟨ak, ck, q0, q1, hek⟩ := hgk
      obtain ⟨gk, HGK⟩ : ∃ gk : Gr, Hid (gk = gat G k) := ⟨_, rfl⟩
      rw [← HGK.out] at q0 q1 hek
      have HST : Hid (catTo G (k + 1) = catTo G k ++ gk.2) := by show _ = _; rw [catTo_step hkl, HGK.out]
      have HTL : Hid ((catTo G (k + 1)).length ≤ 1048576) := Nat.le_trans (catTo_le (by rw [HN.out]; omega)) HTT.out
      obtain ⟨sk, lk⟩ := gk
      dsimp only at q0 q1 hek
      obtain ⟨nk, HNK⟩ : ∃ nk, Hid (lk.length = nk) := ⟨_, rfl⟩
      rw [HNK.out] at q1
      have hmn : m + nk ≤ 1048576 := by
        have h1 := HTL.out
        rw [HST.out, List.length_append, HT.out.len] at h1
        have h2 := HNK.out
        dsimp only at h1
        omega
      obtain ⟨r, HR⟩ : ∃ r, Hid (r = okG sk lk) := ⟨_, rfl⟩
      obtain ⟨E, HE⟩ : ∃ E, Hid (wr.heap.size = E) := ⟨_, rfl⟩
      obtain ⟨W, HW⟩ : ∃ W, Hid (W = wr.alloc (.cells #[.int .i64 sk, .slice ak nk ck] 26)) := ⟨_, rfl⟩
      have HWB : Hid (Below wr.heap.size wr W) := by rw [HW.out]; exact below1 _ _
      have HGB : Hid (Blk W E 2 (fun i => if i = 0 then .int .i64 sk else .slice ak nk ck)) := by rw [HW.out]; exact blk_two wr E HE.out.symm _ _ _
      have HTW : Hid (TI w W B s0 a' m cap' (catTo G k)) := HT.out.below HWB.out
      have HEW : Hid (EdgesIn lo hi W ak lk) := hek.below HWB.out (Nat.le_trans HH.out HT.out.bel.size)
      have HHW : Hid (hi ≤ W.heap.size) := Nat.le_trans HH.out HTW.out.bel.size
      obtain ⟨c0, c1⟩ := blk_pair_cells HGB.out
      go_upto_region 7 with fail
      rw [HE.out, ← HW.out]
      clear HW q0 q1 hek HT HWB HGR HE
      go_wp2_with fail
      refine (graphOk_any lo hi sk ak nk ck lk r W HEW.out HHW.out HNK.out (by omega) HR.out).mono ?_
      rintro e w3 ⟨rfl, B3⟩
      have HT3 : Hid (TI w w3 B s0 a' m cap' (catTo G k)) := HTW.out.below B3.out
      have HG3 : Hid (Blk w3 E 2 (fun i => if i = 0 then .int .i64 sk else .slice ak nk ck)) := HGB.out.of_block (B3.out.block _ HGB.out.lt)
      have HE3 : Hid (EdgesIn lo hi w3 ak lk) := HEW.out.below B3.out HHW.out
      clear c0 c1 B3 HTW HGB HEW HHW
      obtain ⟨c0, c1⟩ := blk_pair_cells HG3.out
      obtain ⟨t0, t1⟩ := blk_pair_cells HT3.out.box
      rcases Bool.eq_false_or_eq_true r with hr | hr
      · subst hr
        by_cases hs : sk = s0
        · subst hs
          have hrow := HT3.out.row
          go_wp2_with (at_builtin; refine wpList_append_row _ rfl (.tmp 34) (.tmp 36) 24 rfl (B + 2) 37 i0 _ 3 24 Tryd.underlying24 hi0 hz0 hz1 hz2 rfl (by decide) (.slice a' m cap') m (ecells (catTo G k)) rfl hrow ak nk ck (ecells lk) rfl (edgesIn_none HE3.out HNK.out) (by rw [ecells_len, HNK.out]) (ecells_at HE3.out) (ecells_one lk) (by unfold maxLen; omega) (by omega) HT3.out.lt.2 ?_)
          intro v4 w4 hown4 hgrow4
          have HB4 : Hid (Below (B + 2) w3 w4) := (Below.refl (B + 2) w3).grown hgrow4 HT3.out.lt.2 (fun k hk => (HT3.out.row.lt k hk).1)
          rw [← ecells_app, ← HST.out] at hown4
          have HL4 : Hid ((catTo G (k + 1)).length = m + nk) := by show _ = _; rw [HST.out, List.length_append, HT3.out.len, HNK.out]
          obtain ⟨a4, cap4, hv4, _⟩ := edges_own hown4 HL4.out
          subst hv4
          have HO4 : Hid (w4.ownsRow (B + 2) 37 3 (.slice a4 (m + nk) cap4) (m + nk) (ecells (catTo G (k + 1)))) := hown4
          have HX4 : Hid (Blk w4 (B + 1) 2 (fun i => if i = 0 then .int .i64 sk else .slice a' m cap')) := HT3.out.box.of_block (HB4.out.block _ (by omega))
          clear hown4 hgrow4 hrow c0 c1 t0 t1
          obtain ⟨u0, u1⟩ := blk_pair_cells HX4.out
          have uf1 := Blk.frozen HX4.out 1
          go_wp2
          go_roundw
          case rel =>
            refine ⟨k + 1, m + nk, a4, cap4, by go_num, by omega, HT3.out.put HB4.out HO4.out HL4.out, fun i hi => ?_⟩
            by_cases e : i = k
            · subst e; rw [← HGK.out]; exact ⟨HR.out.symm, rfl⟩
            · exact HAL.out i (by omega)
          case measure => simp [intOf]; omega
        · have hd : (sk == s0) = false := by simpa using hs
          have hd2 : decide (sk = s0) = false := decide_eq_false hs
          have HF : Hid (togB G = false) := togB_bad hkl (.inr (by rw [← HGK.out, ← HS0.out]; exact hs))
          obtain ⟨r0, r1⟩ := blk_pair_cells HT3.out.res
          have rf0 := Blk.frozen HT3.out.res 0
          have rf1 := Blk.frozen HT3.out.res 1
          go_wp2
          refine bodyPost_ret (v := .tuple #[.agg #[.int .i64 0, .slice none 0 0], .bool false]) (by simp [results, Tryd.results16, go_sem, r0, r1]) rfl ?_
          have hbl : Below w.heap.size w w3 := HT3.out.bel
          refine ⟨none, 0, 0, by rw [togS_no HF.out, HF.out], by rw [togE_no HF.out]; rfl, by rw [togE_no HF.out]; exact .inl rfl, ?_⟩
          show Below _ _ _
          exact (hbl.setCell (p := ⟨B, 0, none⟩) (by show w.heap.size ≤ B; have := HB.out; omega) _).setCell (p := ⟨B, 1, none⟩) (by show w.heap.size ≤ B; have := HB.out; omega) _
      · subst hr
        have HF : Hid (togB G = false) := togB_bad hkl (.inl (by rw [← HGK.out]; exact HR.out.symm))
        obtain ⟨r0, r1⟩ := blk_pair_cells HT3.out.res
        have rf0 := Blk.frozen HT3.out.res 0
        have rf1 := Blk.frozen HT3.out.res 1
        go_wp2
        refine bodyPost_ret (v := .tuple #[.agg #[.int .i64 0, .slice none 0 0], .bool false]) (by simp [results, Tryd.results16, go_sem, r0, r1]) rfl ?_
        have hbl : Below w.heap.size w w3 := HT3.out.bel
        refine ⟨none, 0, 0, by rw [togS_no HF.out, HF.out], by rw [togE_no HF.out]; rfl, by rw [togE_no HF.out]; exact .inl rfl, ?_⟩
        show Below _ _ _
        exact (hbl.setCell (p := ⟨B, 0, none⟩) (by show w.heap.size ≤ B; have := HB.out; omega) _).setCell (p := ⟨B, 1, none⟩) (by show w.heap.size ≤ B; have := HB.out; omega) _
    · obtain rfl : k = n := by omega
      have HGD : Hid (togB G = okG s0 (togL G)) := by
        show _ = _
        rw [HS0.out]
        exact togB_good (by rw [HN.out]; omega) (fun i hi => by rw [HN.out] at hi; rw [← HS0.out]; exact HAL.out i hi)
      have HCT : Hid (catTo G k = catTo G G.length) := by show _ = _; rw [HN.out]
      have HTM : Hid (m ≤ 1048576) := by show _ ≤ _; rw [← HT.out.len, HCT.out]; exact HTT.out
      have HCAP : Hid (m ≤ cap') := owns_capE HT.out.row
      obtain ⟨t0, t1⟩ := blk_pair_cells HT.out.box
      have htm := HTM.out
      go_wp2_with fail
      refine (sortOwn_any (B + 2) wr.heap.size m cap' a' (catTo G k) wr HT.out.own (Nat.le_refl _) HT.out.len HTM.out).mono ?_
      rintro e w4 ⟨rfl, L4, HP4, HE4, HK4⟩
      have HX4 : Hid (Blk w4 (B + 1) 2 (fun i => if i = 0 then .int .i64 s0 else .slice a' m cap')) := HK4.out.blk HT.out.box (by omega)
      have HR4 : Hid (Blk w4 B 2 (fun i => if i = 0 then .int .i64 0 else .slice none 0 0)) := HK4.out.blk HT.out.res (by omega)
      have HB4 : Hid (Below w.heap.size w w4) := HT.out.bel.trans (HK4.out.to_below HT.out.bel.size (fun k hk => by have := HB.out; omega))
      have HN4 : Hid (L4.length = m) := by show _ = _; rw [HP4.out.1.length_eq]; exact HT.out.len
      have HDL : Hid (dedL L4 = togL G) := by show _ = _; unfold togL; rw [← HCT.out]; exact dedL_is HP4.out.1 HP4.out.2
      obtain ⟨hz, HHZ⟩ : ∃ hz, Hid (wr.heap.size = hz) := ⟨_, rfl⟩
      have HS4 : Hid (hz ≤ w4.heap.size) := by rw [← HHZ.out]; exact HK4.out.size
      rw [HHZ.out] at HE4
      clear t0 t1 HK4 HP4 HT HAL HTI
      obtain ⟨t0, t1⟩ := blk_pair_cells HX4.out
      go_wp2_with fail
      refine (compactOwn_any (B + 2) hz m cap' a' L4 w4 HE4.out HN4.out HTM.out HCAP.out).mono ?_
      rintro e w5 ⟨m5, rfl, HM5, HE5, HK5⟩
      rw [HDL.out] at HM5 HE5
      have HX5 : Hid (Blk w5 (B + 1) 2 (fun i => if i = 0 then .int .i64 s0 else .slice a' m cap')) := HK5.out.blk HX4.out (by omega)
      have HR5 : Hid (Blk w5 B 2 (fun i => if i = 0 then .int .i64 0 else .slice none 0 0)) := HK5.out.blk HR4.out (by omega)
      have HB5 : Hid (Below w.heap.size w w5) := HB4.out.trans (HK5.out.to_below HB4.out.size (fun k hk => by have := HB.out; omega))
      have HS5 : Hid (hz ≤ w5.heap.size) := Nat.le_trans HS4.out HK5.out.size
      clear t0 t1 HK5 HX4 HR4 HB4 HE4 HS4 HN4 HDL
      obtain ⟨t0, t1⟩ := blk_pair_cells HX5.out
      have tf1 := Blk.frozen HX5.out 1
      obtain ⟨W6, HW6⟩ : ∃ W6, Hid (W6 = w5.setCell ⟨B + 1, 1, none⟩ (.slice a' m5 cap')) := ⟨_, rfl⟩
      have HX6 : Hid (Blk W6 (B + 1) 2 (fun i => if i = 0 then .int .i64 s0 else .slice a' m5 cap')) := by rw [HW6.out]; exact box_put1 HX5.out _
      have HR6 : Hid (Blk W6 B 2 (fun i => if i = 0 then .int .i64 0 else .slice none 0 0)) := by rw [HW6.out]; exact HR5.out.of_block (Below.heap_setCell _ ⟨B + 1, 1, none⟩ _ B (by show B ≠ B + 1; omega))
      have HB6 : Hid (Below w.heap.size w W6) := by rw [HW6.out]; exact HB5.out.setCell (p := ⟨B + 1, 1, none⟩) (by show w.heap.size ≤ B + 1; have := HB.out; omega) _
      have HE6 : Hid (EdgesOwn (B + 2) hz W6 a' (togL G)) := by rw [HW6.out]; exact HE5.out.setCell (by omega) _
      have HS6 : Hid (hz ≤ W6.heap.size) := by rw [HW6.out]; show hz ≤ (World.setCell _ _ _).heap.size; have := HS5.out; simp; omega
      have hm5 : m5 ≤ 1048576 := by
        have h1 := putOn_len (catTo G G.length) []
        have h2 := HM5.out
        have h3 := HTT.out
        unfold togL at h2
        simp at h1
        omega
      obtain ⟨r, HRR⟩ : ∃ r, Hid (r = okG s0 (togL G)) := ⟨_, rfl⟩
      go_upto_region 13 with fail
      rw [← HW6.out]
      clear t0 t1 tf1 HW6 HX5 HR5 HB5 HE5 HS5
      obtain ⟨t0, t1⟩ := blk_pair_cells HX6.out
      go_wp2_with fail
      refine (graphOk_any (B + 2) hz s0 a' m5 cap' (togL G) r W6 HE6.out.toIn HS6.out HM5.out hm5 HRR.out).mono ?_
      rintro e w7 ⟨rfl, B7⟩
      have HXE : Hid (Blk w7 (B + 1) 2 (fun i => if i = 0 then .int .i64 s0 else .slice a' m5 cap')) := HX6.out.of_block (B7.out.block _ HX6.out.lt)
      have HRE : Hid (Blk w7 B 2 (fun i => if i = 0 then .int .i64 0 else .slice none 0 0)) := HR6.out.of_block (B7.out.block _ HR6.out.lt)
      have HBE : Hid (Below w.heap.size w w7) := HB6.out.trans (B7.out.mono HB6.out.size)
      have HEO : Hid (EdgesOwn (B + 2) hz w7 a' (togL G)) := HE6.out.below B7.out HS6.out
      have HSE : Hid (hz ≤ w7.heap.size) := Nat.le_trans HS6.out B7.out.size
      have HM := HM5
      clear t0 t1 B7 HX6 HR6 HB6 HE6 HS6
      rcases Bool.eq_false_or_eq_true r with hr | hr
      · subst hr
        have HF : Hid (togB G = true) := by show _ = _; rw [HGD.out]; exact HRR.out.symm
        obtain ⟨r0, r1⟩ := blk_pair_cells HRE.out
        have rf0 := Blk.frozen HRE.out 0
        have rf1 := Blk.frozen HRE.out 1
        obtain ⟨d0, d1⟩ := blk_pair_cells HXE.out
        go_wp2
        refine bodyPost_ret (v := .tuple #[.agg #[.int .i64 s0, .slice a' m5 cap'], .bool true]) (by simp [results, Tryd.results16, go_sem, r0, r1]) rfl ?_
        refine ⟨a', m5, cap', by rw [togS_yes HF.out, HF.out, ← HS0.out], by rw [togE_yes HF.out]; exact HM, ?_, ?_⟩
        · rw [togE_yes HF.out]
          show EdgesOwn _ _ _ _ _
          exact ((HEO.out.setCell (b := B) (j := 0) (by omega) _).setCell (b := B) (j := 1) (by omega) _).wide (by have := HB.out; omega) (by simpa using HSE.out)
        · show Below _ _ _
          exact (HBE.out.setCell (p := ⟨B, 0, none⟩) (by show w.heap.size ≤ B; have := HB.out; omega) _).setCell (p := ⟨B, 1, none⟩) (by show w.heap.size ≤ B; have := HB.out; omega) _
      · subst hr
        have HF : Hid (togB G = false) := by show _ = _; rw [HGD.out]; exact HRR.out.symm
        obtain ⟨r0, r1⟩ := blk_pair_cells HRE.out
        have rf0 := Blk.frozen HRE.out 0
        have rf1 := Blk.frozen HRE.out 1
        go_wp2
        refine bodyPost_ret (v := .tuple #[.agg #[.int .i64 0, .slice none 0 0], .bool false]) (by simp [results, Tryd.results16, go_sem, r0, r1]) rfl ?_
        have hbl : Below w.heap.size w w7 := HBE.out
        refine ⟨none, 0, 0, by rw [togS_no HF.out, HF.out], by rw [togE_no HF.out]; rfl, by rw [togE_no HF.out]; exact .inl rfl, ?_⟩
        show Below _ _ _
        exact (hbl.setCell (p := ⟨B, 0, none⟩) (by show w.heap.size ≤ B; have := HB.out; omega) _).setCell (p := ⟨B, 1, none⟩) (by show w.heap.size ≤ B; have := HB.out; omega) _
end Go.Proofs.YtigojleieihdoaaDoor

/-
  Graphs put together, by the model: spec.Together.
-/
namespace Go.Proofs.YtigojleieihdoaaDoor
open Go.RowKit

set_option maxHeartbeats 8000000 in
set_option maxRecDepth 100000 in
theorem specTogether_any (lo hi : Nat) (a : Option Addr) (n cap : Nat) (G : List Gr) (w : World) (ha : GrsIn lo hi w a G) (hh : hi ≤ w.heap.size) (hn : G.length = n) (hm : n ≤ 1048576) (ht : (catTo G G.length).length ≤ 1048576) :
    Calls Tryd.prog 18 #[.slice a n cap] w fun e w' => ∃ (a' : Option Addr) (n' cap' : Nat), e = .returned (.tuple #[gv (togS G) a' n' cap', .bool (togB G)]) ∧ Hid ((togE G).length = n') ∧ Hid (EdgesOwn w.heap.size w'.heap.size w' a' (togE G)) ∧ Hid (Below w.heap.size w w') := by
  have HN : Hid (G.length = n) := hn
  have HA : Hid (GrsIn lo hi w a G) := ha
  have HH : Hid (hi ≤ w.heap.size) := hh
  have HTT : Hid ((catTo G G.length).length ≤ 1048576) := ht
  obtain ⟨i0, hi0, hz0, hz1, hz2⟩ := info_parts Tryd.info37
  clear ha hh hn ht
  obtain ⟨B, HB⟩ : ∃ B, Hid (w.heap.size = B) := ⟨_, rfl⟩
  by_cases h0 : n = 0
  · subst h0
    have HG : Hid (G = []) := List.length_eq_zero_iff.1 HN.out
    have HF : Hid (togB G = false) := by rw [HG.out]; exact togB_none
    have HR0 : Hid (Blk (w.alloc (.cells #[.int .i64 0, .slice none 0 0] 26)) B 2 (fun i => if i = 0 then .int .i64 0 else .slice none 0 0)) := blk_two w B HB.out.symm _ _ _
    obtain ⟨W, HW⟩ : ∃ W, Hid (W = w.alloc (.cells #[.int .i64 0, .slice none 0 0] 26)) := ⟨_, rfl⟩
    have HBW : Hid (Below w.heap.size w W) := by rw [HW.out]; exact below1 w _
    rw [← HW.out] at HR0
    go_enter Tryd.func18, Tryd.ntmps18
    go_upto_region 1 with fail
    rw [HB.out, ← HW.out]
    clear HW
    obtain ⟨r0, r1⟩ := blk_pair_cells HR0.out
    have rf0 := Blk.frozen HR0.out 0
    have rf1 := Blk.frozen HR0.out 1
    go_wp2
    refine bodyPost_ret (v := .tuple #[.agg #[.int .i64 0, .slice none 0 0], .bool false]) (by simp [results, Tryd.results18, go_sem, r0, r1]) rfl ?_
    have hbl : Below w.heap.size w W := HBW.out
    refine ⟨none, 0, 0, by rw [togS_no HF.out, HF.out], by rw [togE_no HF.out]; rfl, by rw [togE_no HF.out]; exact .inl rfl, ?_⟩
    show Below _ _ _
    exact (hbl.setCell (p := ⟨B, 0, none⟩) (by show w.heap.size ≤ B; have := HB.out; omega) _).setCell (p := ⟨B, 1, none⟩) (by show w.heap.size ≤ B; have := HB.out; omega) _
  have hne : ¬ (n : Int) = 0 := by omega
  have hne2 : ((n : Int) == 0) = false := by simp; omega
  have hne3 : decide ((n : Int) = 0) = false := by simp; omega
  have h0n : (0 : Int) < (n : Int) := by omega
  obtain ⟨s0, HS0⟩ : ∃ s0, Hid (s0 = (gat G 0).1) := ⟨_, rfl⟩
  obtain ⟨b, o, rfl, hbh, hg0⟩ := HA.out.graph (k := 0) (by rw [HN.out]; omega)
  obtain ⟨a9, c9, g0, _, _⟩ := hg0
  rw [← HS0.out] at g0
  have g0' : w.cell? ⟨b, o, none⟩ = some (.int .i64 s0) := by simpa using g0
  have g0w : (w.alloc (.cells #[.int .i64 0, .slice none 0 0] 26)).cell? ⟨b, o, none⟩ = some (.int .i64 s0) := cell_below g0' (below1 w _) (lt_of_cell g0')
  obtain ⟨W1, HW1⟩ : ∃ W1, Hid (W1 = (w.alloc (.cells #[.int .i64 0, .slice none 0 0] 26)).alloc (.cells #[.int .i64 s0, .slice none 0 0] 26)) := ⟨_, rfl⟩
  have HTI : Hid (TI w W1 B s0 none 0 0 []) := by
    rw [HW1.out]
    exact ⟨below2 w _ _, (blk_two w B HB.out.symm _ _ _).alloc _, blk_two _ (B + 1) (by simp [HB.out]) _ _ _, World.ownsRow_nil _ _ _ _, rfl, HB.out, by simp; have := HB.out; omega⟩
  clear g0 g0' hbh
  go_enter Tryd.func18, Tryd.ntmps18
  go_wp2
  rw [HB.out, ← HW1.out]
  clear HW1 g0w
  go_loopw [5] (fun i wr => ∃ (k m : Nat) (a' : Option Addr) (cap' : Nat), i = .int .i64 k ∧ k ≤ n ∧ Hid (TI w wr B s0 a' m cap' (putOn [] (catTo G k))) ∧ Hid (∀ i, i < k → okG (gat G i).1 (gat G i).2 = true ∧ (gat G i).1 = s0)) (fun i _ => n - (intOf i).toNat)
  case atStart => exact ⟨0, 0, none, 0, rfl, by omega, HTI, fun i hi => absurd hi (by omega)⟩
  case round =>
    obtain ⟨k, m, a', cap', rfl, hk, HT, HAL⟩ := hrel
    by_cases hlt : k < n
    · have hlt1 : (k : Int) < (n : Int) := by omega
      have hlt0 : (0 : Int) ≤ (k : Int) := by omega
      have hkl : k < G.length := by rw [HN.out]; exact hlt
      obtain ⟨b2, o2, eq2, hb2, hgk⟩ := HA.out.graph hkl
      simp only [Option.some.injEq, Addr.mk.injEq, and_true] at eq2
      obtain ⟨rfl, rfl⟩ := eq2
      obtain ⟨ak, ck, q0, q1, hek⟩ := hgk
      obtain ⟨gk, HGK⟩ : ∃ gk : Gr, Hid (gk = gat G k) := ⟨_, rfl⟩
      rw [← HGK.out] at q0 q1 hek
      have HST : Hid (catTo G (k + 1) = catTo G k ++ gk.2) := by show _ = _; rw [catTo_step hkl, HGK.out]
      have HTL : Hid ((catTo G (k + 1)).length ≤ 1048576) := Nat.le_trans (catTo_le (by rw [HN.out]; omega)) HTT.out
      obtain ⟨sk, lk⟩ := gk
      dsimp only at q0 q1 hek
      obtain ⟨nk, HNK⟩ : ∃ nk, Hid (lk.length = nk) := ⟨_, rfl⟩
      rw [HNK.out] at q1
      have HLB : Hid ((catTo G k).length + nk ≤ 1048576) := by
        have h1 := HTL.out
        rw [HST.out, List.length_append] at h1
        have h2 := HNK.out
        show _ ≤ _
        dsimp only at h1
        omega
      have hnk : nk ≤ 1048576 := by have := HLB.out; omega
      have HEK : Hid (EdgesIn lo hi w ak lk) := hek
      have HQ1 : Hid (w.cell? ⟨b, o + k * 2 + 1, none⟩ = some (.slice ak nk ck)) := q1
      have hbw : b < w.heap.size := lt_of_cell q1
      have q0' := cell_below q0 HT.out.bel hbw
      have q1' := cell_below q1 HT.out.bel hbw
      clear q0 q1 hek
      have q0 := q0'
      have q1 := q1'
      clear q0' q1'
      obtain ⟨r, HR⟩ : ∃ r, Hid (r = okG sk lk) := ⟨_, rfl⟩
      obtain ⟨t0, _⟩ := blk_pair_cells HT.out.box
      rcases Bool.eq_false_or_eq_true r with hr | hr
      · subst hr
        have HC1 : Hid (∀ w0, Below wr.heap.size wr w0 → Calls Tryd.prog 47 #[gv sk ak nk ck] w0 fun e w' => e = .returned (.bool true) ∧ Hid (Below wr.heap.size wr w') ∧ (w'.cell? ⟨b, o + k * 2, none⟩ = some (.int .i64 sk) ∧ w'.cell? ⟨b, o + k * 2 + 1, none⟩ = some (.slice ak nk ck) ∧ w'.cell? ⟨B + 1, 0, none⟩ = some (.int .i64 s0))) := fun w0 h =>
          (specGOk_any lo hi sk ak nk ck lk true w0 (HEK.out.below (HT.out.bel.trans (h.mono HT.out.bel.size)) HH.out) (Nat.le_trans HH.out (HT.out.bel.trans (h.mono HT.out.bel.size)).size) HNK.out (by omega) HR.out).mono fun _ w' ⟨h1, h4⟩ =>
            have h5 := h.trans (h4.out.mono h.size)
            ⟨h1, h5, cell_below q0 h5 (lt_of_cell q0), cell_below q1 h5 (lt_of_cell q1), cell_below t0 h5 (lt_of_cell t0)⟩
        by_cases hs : sk = s0
        · subst hs
          go_wp2_with fail
          refine wp_region_held_drew (S := fun w' => w'.cell? ⟨b, o + k * 2, none⟩ = some (.int .i64 sk) ∧ w'.cell? ⟨b, o + k * 2 + 1, none⟩ = some (.slice ak nk ck) ∧ w'.cell? ⟨B + 1, 0, none⟩ = some (.int .i64 sk)) (by kernel_rfl) ⟨q0, q1, t0⟩ (fun hHeld => ?_)
          clear q0 q1 t0
          refine wpAnyH_take (i := 0) (oi := { dst := some 22, op := Go.Op.move (Go.Operand.tmp 0), type := 34, pos := "l05_share.go:44", after := #[], guard := none }) (v := ?_) rfl (by kernel_rfl) (by kernel_rfl) (by kernel_rfl) (fun _ _ _ h => h) (Or.inl ⟨by kernel_rfl, ?_⟩) (by assumption) ?_
          rotate_left
          · intro w hSw; (try dsimp only at hSw); go_simp; try with_reducible rfl
          simp only [Act.put, List.setIfInBounds_toArray, List.set_cons_zero, List.set_cons_succ]
          refine wpAnyH_take (i := 1) (oi := { dst := some 23, op := Go.Op.move (Go.Operand.tmp 5), type := 3, pos := "l05_share.go:44", after := #[], guard := none }) (v := ?_) rfl (by kernel_rfl) (by kernel_rfl) (by kernel_rfl) (fun _ _ _ h => h) (Or.inl ⟨by kernel_rfl, ?_⟩) (by assumption) ?_
          rotate_left
          · intro w hSw; (try dsimp only at hSw); go_simp; try with_reducible rfl
          simp only [Act.put, List.setIfInBounds_toArray, List.set_cons_zero, List.set_cons_succ]
          refine wpAnyH_take (i := 2) (oi := { dst := some 24, op := Go.Op.indexAddr 34 (Go.Operand.tmp 22) (Go.Operand.tmp 23), type := 0, pos := "l05_share.go:44", after := #[{ on := 0, ground := Go.Ground.data }, { on := 1, ground := Go.Ground.data }], guard := none }) (v := ?_) rfl (by kernel_rfl) (by kernel_rfl) (by kernel_rfl) (fun _ _ _ h => h) (Or.inl ⟨by kernel_rfl, ?_⟩) (by assumption) ?_
          rotate_left
          · intro w hSw; (try dsimp only at hSw); go_simp; try with_reducible rfl
          simp only [Act.put, List.setIfInBounds_toArray, List.set_cons_zero, List.set_cons_succ]
          refine wpAnyH_take (i := 3) (oi := { dst := some 25, op := Go.Op.load 26 (Go.Operand.tmp 24), type := 26, pos := "l05_share.go:44", after := #[{ on := 2, ground := Go.Ground.data }], guard := none }) (v := ?_) rfl (by kernel_rfl) (by kernel_rfl) (by kernel_rfl) (fun _ _ _ h => h) (Or.inl ⟨by kernel_rfl, ?_⟩) (by assumption) ?_
          rotate_left
          · intro w hSw; (try dsimp only at hSw); go_simp; try with_reducible rfl
          simp only [Act.put, List.setIfInBounds_toArray, List.set_cons_zero, List.set_cons_succ]
          refine wpAnyH_ready (rs := [4]) (by kernel_rfl) (by simp) ?_
          refine AllReadyH.cons (o := { dst := some 26, op := Go.Op.call { callee := Go.Callee.value (Go.Operand.func 47), args := #[Go.Operand.tmp 25], argTypes := #[26] }, type := 4, pos := "l05_share.go:44", after := #[{ on := 3, ground := Go.Ground.data }], guard := none }) rfl (fun K hK => ?_) ?_
          · go_simp
            go_wp2_with (go_at_call 47; refine (HC1.out _ ((Below.refl _ _).drew)).mono ?_; rintro e w3 ⟨rfl, B3, hk3⟩)
            refine hK.out _ _ hk3 (fun hHeld => ?_)
            clear hK K
            try simp only [Act.put, List.setIfInBounds_toArray, List.set_cons_zero, List.set_cons_succ]
            refine wpAnyH_take (i := 5) (oi := { dst := some 27, op := Go.Op.unOp Go.UnOp.not 4 (Go.Operand.tmp 26), type := 4, pos := "l05_share.go:44", after := #[{ on := 4, ground := Go.Ground.data }], guard := none }) (v := ?_) rfl (by kernel_rfl) (by kernel_rfl) (by kernel_rfl) (fun _ _ _ h => h) (Or.inl ⟨by kernel_rfl, ?_⟩) (by assumption) ?_
            rotate_left
            · intro w hSw; (try dsimp only at hSw); go_simp; try with_reducible rfl
            simp only [Act.put, List.setIfInBounds_toArray, List.set_cons_zero, List.set_cons_succ]
            refine wpAnyH_take (i := 6) (oi := { dst := some 28, op := Go.Op.move (Go.Operand.tmp 27), type := 4, pos := "l05_share.go:44", after := #[{ on := 5, ground := Go.Ground.data }, { on := 4, ground := Go.Ground.chain }], guard := none }) (v := ?_) rfl (by kernel_rfl) (by kernel_rfl) (by kernel_rfl) (fun _ _ _ h => h) (Or.inl ⟨by kernel_rfl, ?_⟩) (by assumption) ?_
            rotate_left
            · intro w hSw; (try dsimp only at hSw); go_simp; try with_reducible rfl
            simp only [Act.put, List.setIfInBounds_toArray, List.set_cons_zero, List.set_cons_succ]
            refine wpAnyH_take (i := 7) (oi := { dst := some 29, op := Go.Op.move (Go.Operand.tmp 0), type := 34, pos := "l05_share.go:44", after := #[{ on := 6, ground := Go.Ground.guard }], guard := some (6, false) }) (v := ?_) rfl (by kernel_rfl) (by kernel_rfl) (by kernel_rfl) (fun _ _ _ h => h) (Or.inl ⟨by kernel_rfl, ?_⟩) (by assumption) ?_
            rotate_left
            · intro w hSw; (try dsimp only at hSw); go_simp; try with_reducible rfl
            simp only [Act.put, List.setIfInBounds_toArray, List.set_cons_zero, List.set_cons_succ]
            refine wpAnyH_take (i := 8) (oi := { dst := some 30, op := Go.Op.move (Go.Operand.tmp 5), type := 3, pos := "l05_share.go:44", after := #[{ on := 6, ground := Go.Ground.guard }], guard := some (6, false) }) (v := ?_) rfl (by kernel_rfl) (by kernel_rfl) (by kernel_rfl) (fun _ _ _ h => h) (Or.inl ⟨by kernel_rfl, ?_⟩) (by assumption) ?_
            rotate_left
            · intro w hSw; (try dsimp only at hSw); go_simp; try with_reducible rfl
            simp only [Act.put, List.setIfInBounds_toArray, List.set_cons_zero, List.set_cons_succ]
            refine wpAnyH_take (i := 9) (oi := { dst := some 31, op := Go.Op.indexAddr 34 (Go.Operand.tmp 29) (Go.Operand.tmp 30), type := 0, pos := "l05_share.go:44", after := #[{ on := 7, ground := Go.Ground.data }, { on := 8, ground := Go.Ground.data }, { on := 6, ground := Go.Ground.guard }], guard := some (6, false) }) (v := ?_) rfl (by kernel_rfl) (by kernel_rfl) (by kernel_rfl) (fun _ _ _ h => h) (Or.inl ⟨by kernel_rfl, ?_⟩) (by assumption) ?_
            rotate_left
            · intro w hSw; (try dsimp only at hSw); go_simp; try with_reducible rfl
            simp only [Act.put, List.setIfInBounds_toArray, List.set_cons_zero, List.set_cons_succ]
            refine wpAnyH_take (i := 10) (oi := { dst := some 32, op := Go.Op.fieldAddr 26 (Go.Operand.tmp 31) 0, type := 0, pos := "l05_share.go:44", after := #[{ on := 9, ground := Go.Ground.data }, { on := 6, ground := Go.Ground.guard }], guard := some (6, false) }) (v := ?_) rfl (by kernel_rfl) (by kernel_rfl) (by kernel_rfl) (fun _ _ _ h => h) (Or.inl ⟨by kernel_rfl, ?_⟩) (by assumption) ?_
            rotate_left
            · intro w hSw; (try dsimp only at hSw); go_simp; try with_reducible rfl
            simp only [Act.put, List.setIfInBounds_toArray, List.set_cons_zero, List.set_cons_succ]
            refine wpAnyH_take (i := 11) (oi := { dst := some 33, op := Go.Op.load 3 (Go.Operand.tmp 32), type := 3, pos := "l05_share.go:44", after := #[{ on := 10, ground := Go.Ground.data }, { on := 6, ground := Go.Ground.guard }], guard := some (6, false) }) (v := ?_) rfl (by kernel_rfl) (by kernel_rfl) (by kernel_rfl) (fun _ _ _ h => h) (Or.inl ⟨by kernel_rfl, ?_⟩) (by assumption) ?_
            rotate_left
            · intro w hSw; (try dsimp only at hSw); go_simp; try with_reducible rfl
            simp only [Act.put, List.setIfInBounds_toArray, List.set_cons_zero, List.set_cons_succ]
            refine wpAnyH_take (i := 12) (oi := { dst := some 34, op := Go.Op.fieldAddr 26 (Go.Operand.tmp 4) 0, type := 0, pos := "l05_share.go:44", after := #[{ on := 6, ground := Go.Ground.guard }], guard := some (6, false) }) (v := ?_) rfl (by kernel_rfl) (by kernel_rfl) (by kernel_rfl) (fun _ _ _ h => h) (Or.inl ⟨by kernel_rfl, ?_⟩) (by assumption) ?_
            rotate_left
            · intro w hSw; (try dsimp only at hSw); go_simp; try with_reducible rfl
            simp only [Act.put, List.setIfInBounds_toArray, List.set_cons_zero, List.set_cons_succ]
            refine wpAnyH_take (i := 13) (oi := { dst := some 35, op := Go.Op.load 3 (Go.Operand.tmp 34), type := 3, pos := "l05_share.go:44", after := #[{ on := 12, ground := Go.Ground.data }, { on := 6, ground := Go.Ground.guard }], guard := some (6, false) }) (v := ?_) rfl (by kernel_rfl) (by kernel_rfl) (by kernel_rfl) (fun _ _ _ h => h) (Or.inl ⟨by kernel_rfl, ?_⟩) (by assumption) ?_
            rotate_left
            · intro w hSw; (try dsimp only at hSw); go_simp; try with_reducible rfl
            simp only [Act.put, List.setIfInBounds_toArray, List.set_cons_zero, List.set_cons_succ]
            refine wpAnyH_take (i := 14) (oi := { dst := some 36, op := Go.Op.binOp Go.BinOp.neq 3 (Go.Operand.tmp 33) (Go.Operand.tmp 35) 3, type := 4, pos := "l05_share.go:44", after := #[{ on := 11, ground := Go.Ground.data }, { on := 13, ground := Go.Ground.data }, { on := 6, ground := Go.Ground.guard }], guard := some (6, false) }) (v := ?_) rfl (by kernel_rfl) (by kernel_rfl) (by kernel_rfl) (fun _ _ _ h => h) (Or.inl ⟨by kernel_rfl, ?_⟩) (by assumption) ?_
            rotate_left
            · intro w hSw; (try dsimp only at hSw); go_simp; try with_reducible rfl
            simp only [Act.put, List.setIfInBounds_toArray, List.set_cons_zero, List.set_cons_succ]
            refine wpAnyH_take (i := 15) (oi := { dst := some 37, op := Go.Op.pick (Go.Operand.tmp 28) (Go.Operand.const (Go.Value.bool true)) (Go.Operand.tmp 36), type := 4, pos := "l05_share.go:44", after := #[{ on := 6, ground := Go.Ground.data }, { on := 14, ground := Go.Ground.data }], guard := none }) (v := ?_) rfl (by kernel_rfl) (by kernel_rfl) (by kernel_rfl) (fun _ _ _ h => h) (Or.inl ⟨by kernel_rfl, ?_⟩) (by assumption) ?_
            rotate_left
            · intro w hSw; (try dsimp only at hSw); go_simp; try with_reducible rfl
            simp only [Act.put, List.setIfInBounds_toArray, List.set_cons_zero, List.set_cons_succ]
            refine wpAnyH_done (by kernel_rfl) ?_ _
            clear hHeld hk3
            have HT3 : Hid (TI w w3 B sk a' m cap' (putOn [] (catTo G k))) := HT.out.below B3.out
            clear HT HC1 B3 HTI
            go_wp2
            go_loopw [6] (fun i wq => ∃ (j m1 : Nat) (a1 : Option Addr) (cap1 : Nat), i = .int .i64 j ∧ j ≤ nk ∧ Hid (TI w wq B sk a1 m1 cap1 (putOn (putOn [] (catTo G k)) (lk.take j)))) (fun i _ => nk - (intOf i).toNat)
            case atStart => exact ⟨0, m, a', cap', rfl, by omega, HT3⟩
            case round =>
              obtain ⟨j, m1, a1, cap1, rfl, hj, HTQ⟩ := hrel
              have q1 := cell_below HQ1.out HTQ.out.bel hbw
              by_cases hjl : j < nk
              · have hjl1 : (j : Int) < (nk : Int) := by omega
                have hjl0 : (0 : Int) ≤ (j : Int) := by omega
                obtain ⟨be, oe, rfl, _, _, hx⟩ := (HEK.out.below HTQ.out.bel HH.out).edge (k := j) (by rw [HNK.out]; exact hjl)
                obtain ⟨x, HXX⟩ : ∃ x : Ed, Hid (x = eat lk j) := ⟨_, rfl⟩
                rw [← HXX.out] at hx
                have HSJ : Hid (putOn (putOn [] (catTo G k)) (lk.take (j + 1)) = putE (putOn (putOn [] (catTo G k)) (lk.take j)) x) := by show _ = _; rw [putOn_step _ (by rw [HNK.out]; exact hjl), HXX.out]
                have hm1 : m1 ≤ 1048576 := by
                  have h1 := putOn_len (lk.take j) (putOn [] (catTo G k))
                  have h2 := putOn_len (catTo G k) []
                  have h3 := HTQ.out.len
                  have h4 := HLB.out
                  rw [List.length_take] at h1
                  simp at h2
                  omega
                obtain ⟨x0, x1, x2⟩ := x
                obtain ⟨p0, p1, p2⟩ := hx
                dsimp only at p0 p1 p2
                obtain ⟨_, t1⟩ := blk_pair_cells HTQ.out.box
                have HC2 : Hid (∀ w0, Below wr.heap.size wr w0 → Calls Tryd.prog 48 #[.slice a1 m1 cap1, ev (x0, x1, x2)] w0 fun e w' => ∃ (a3 : Option Addr) (m3 cap3 : Nat), e = .returned (.slice a3 m3 cap3) ∧ Hid ((putE (putOn (putOn [] (catTo G k)) (lk.take j)) (x0, x1, x2)).length = m3) ∧ Hid (w'.ownsRow (B + 2) 37 3 (.slice a3 m3 cap3) m3 (ecells (putE (putOn (putOn [] (catTo G k)) (lk.take j)) (x0, x1, x2)))) ∧ Hid (Below (B + 2) wr w')) := fun w0 h =>
                  (l04Put_any (B + 2) w0.heap.size a1 m1 cap1 _ (x0, x1, x2) w0 (HTQ.out.below h).own.toIn (Nat.le_refl _) HTQ.out.len hm1).mono fun _ w' ⟨a3, m3, cap3, h1, h2, h3, h4⟩ =>
                    ⟨a3, m3, cap3, h1, h2, owns_low h3.out (HTQ.out.below h).lt.2, (h.mono HTQ.out.lt.2).trans (h4.out.mono (HTQ.out.below h).lt.2)⟩
                go_wp2_with fail
                refine wp_region_held_drew (S := fun _ => True) (by kernel_rfl) trivial (fun hHeld => ?_)
                refine wpAnyH_take (i := 0) (oi := { dst := some 49, op := Go.Op.fieldAddr 26 (Go.Operand.tmp 4) 1, type := 0, pos := "l05_share.go:48", after := #[], guard := none }) (v := ?_) rfl (by kernel_rfl) (by kernel_rfl) (by kernel_rfl) (fun _ _ _ h => h) (Or.inl ⟨by kernel_rfl, ?_⟩) (by assumption) ?_
                rotate_left
                · intro w hSw; (try dsimp only at hSw); go_simp; try with_reducible rfl
                simp only [Act.put, List.setIfInBounds_toArray, List.set_cons_zero, List.set_cons_succ]
                refine wpAnyH_take (i := 2) (oi := { dst := some 51, op := Go.Op.move (Go.Operand.tmp 0), type := 34, pos := "l05_share.go:48", after := #[], guard := none }) (v := ?_) rfl (by kernel_rfl) (by kernel_rfl) (by kernel_rfl) (fun _ _ _ h => h) (Or.inl ⟨by kernel_rfl, ?_⟩) (by assumption) ?_
                rotate_left
                · intro w hSw; (try dsimp only at hSw); go_simp; try with_reducible rfl
                simp only [Act.put, List.setIfInBounds_toArray, List.set_cons_zero, List.set_cons_succ]
                refine wpAnyH_take (i := 3) (oi := { dst := some 52, op := Go.Op.move (Go.Operand.tmp 5), type := 3, pos := "l05_share.go:48", after := #[], guard := none }) (v := ?_) rfl (by kernel_rfl) (by kernel_rfl) (by kernel_rfl) (fun _ _ _ h => h) (Or.inl ⟨by kernel_rfl, ?_⟩) (by assumption) ?_
                rotate_left
                · intro w hSw; (try dsimp only at hSw); go_simp; try with_reducible rfl
                simp only [Act.put, List.setIfInBounds_toArray, List.set_cons_zero, List.set_cons_succ]
                refine wpAnyH_take (i := 4) (oi := { dst := some 53, op := Go.Op.indexAddr 34 (Go.Operand.tmp 51) (Go.Operand.tmp 52), type := 0, pos := "l05_share.go:48", after := #[{ on := 2, ground := Go.Ground.data }, { on := 3, ground := Go.Ground.data }], guard := none }) (v := ?_) rfl (by kernel_rfl) (by kernel_rfl) (by kernel_rfl) (fun _ _ _ h => h) (Or.inl ⟨by kernel_rfl, ?_⟩) (by assumption) ?_
                rotate_left
                · intro w hSw; (try dsimp only at hSw); go_simp; try with_reducible rfl
                simp only [Act.put, List.setIfInBounds_toArray, List.set_cons_zero, List.set_cons_succ]
                refine wpAnyH_take (i := 5) (oi := { dst := some 54, op := Go.Op.fieldAddr 26 (Go.Operand.tmp 53) 1, type := 0, pos := "l05_share.go:48", after := #[{ on := 4, ground := Go.Ground.data }], guard := none }) (v := ?_) rfl (by kernel_rfl) (by kernel_rfl) (by kernel_rfl) (fun _ _ _ h => h) (Or.inl ⟨by kernel_rfl, ?_⟩) (by assumption) ?_
                rotate_left
                · intro w hSw; (try dsimp only at hSw); go_simp; try with_reducible rfl
                simp only [Act.put, List.setIfInBounds_toArray, List.set_cons_zero, List.set_cons_succ]
                refine wpAnyH_take (i := 7) (oi := { dst := some 56, op := Go.Op.move (Go.Operand.tmp 6), type := 3, pos := "l05_share.go:48", after := #[], guard := none }) (v := ?_) rfl (by kernel_rfl) (by kernel_rfl) (by kernel_rfl) (fun _ _ _ h => h) (Or.inl ⟨by kernel_rfl, ?_⟩) (by assumption) ?_
                rotate_left
                · intro w hSw; (try dsimp only at hSw); go_simp; try with_reducible rfl
                simp only [Act.put, List.setIfInBounds_toArray, List.set_cons_zero, List.set_cons_succ]
                refine wpAnyH_ready (rs := [1, 6]) (by kernel_rfl) (by simp) ?_
                refine AllReadyH.cons (o := { dst := some 50, op := Go.Op.load 24 (Go.Operand.tmp 49), type := 24, pos := "l05_share.go:48", after := #[{ on := 0, ground := Go.Ground.data }], guard := none }) rfl (fun K hK => ?_) ?_
                · go_simp
                  refine hK.out _ _ trivial (fun hHeld => ?_)
                  clear hK K
                  try simp only [Act.put, List.setIfInBounds_toArray, List.set_cons_zero, List.set_cons_succ]
                  refine wpAnyH_ready (rs := [6]) (by kernel_rfl) (by simp) ?_
                  refine AllReadyH.cons (o := { dst := some 55, op := Go.Op.load 24 (Go.Operand.tmp 54), type := 24, pos := "l05_share.go:48", after := #[{ on := 5, ground := Go.Ground.data }], guard := none }) rfl (fun K hK => ?_) ?_
                  · go_simp
                    refine hK.out _ _ trivial (fun hHeld => ?_)
                    clear hK K
                    try simp only [Act.put, List.setIfInBounds_toArray, List.set_cons_zero, List.set_cons_succ]
                    refine wpAnyH_take (i := 8) (oi := { dst := some 57, op := Go.Op.indexAddr 24 (Go.Operand.tmp 55) (Go.Operand.tmp 56), type := 0, pos := "l05_share.go:48", after := #[{ on := 6, ground := Go.Ground.data }, { on := 7, ground := Go.Ground.data }], guard := none }) (v := ?_) rfl (by kernel_rfl) (by kernel_rfl) (by kernel_rfl) (fun _ _ _ h => h) (Or.inl ⟨by kernel_rfl, ?_⟩) (by assumption) ?_
                    rotate_left
                    · intro w hSw; (try dsimp only at hSw); go_simp; try with_reducible rfl
                    simp only [Act.put, List.setIfInBounds_toArray, List.set_cons_zero, List.set_cons_succ]
                    refine wpAnyH_ready (rs := [9]) (by kernel_rfl) (by simp) ?_
                    refine AllReadyH.cons (o := { dst := some 58, op := Go.Op.load 37 (Go.Operand.tmp 57), type := 37, pos := "l05_share.go:48", after := #[{ on := 8, ground := Go.Ground.data }], guard := none }) rfl (fun K hK => ?_) ?_
                    · go_simp
                      refine hK.out _ _ trivial (fun hHeld => ?_)
                      clear hK K
                      try simp only [Act.put, List.setIfInBounds_toArray, List.set_cons_zero, List.set_cons_succ]
                      refine wpAnyH_ready (rs := [10]) (by kernel_rfl) (by simp) ?_
                      refine AllReadyH.cons (o := { dst := some 59, op := Go.Op.call { callee := Go.Callee.value (Go.Operand.func 48), args := #[Go.Operand.tmp 50, Go.Operand.tmp 58], argTypes := #[24, 37] }, type := 24, pos := "l05_share.go:48", after := #[{ on := 1, ground := Go.Ground.data }, { on := 9, ground := Go.Ground.data }], guard := none }) rfl (fun K hK => ?_) ?_
                      · go_simp
                        go_wp2_with (go_at_call 48; refine (HC2.out _ ((Below.refl _ _).drew)).mono ?_; rintro e w3 ⟨a3, m3, cap3, rfl, HM3, HO3, HB3⟩)
                        have HX3 : Hid (Blk w3 (B + 1) 2 (fun i => if i = 0 then .int .i64 sk else .slice a1 m1 cap1)) := HTQ.out.box.of_block (HB3.out.block _ (by omega))
                        clear p0 p1 p2 t1 q1 HC2
                        refine hK.out _ _ trivial (fun hHeld => ?_)
                        clear hK K
                        try simp only [Act.put, List.setIfInBounds_toArray, List.set_cons_zero, List.set_cons_succ]
                        refine wpAnyH_take (i := 11) (oi := { dst := some 60, op := Go.Op.fieldAddr 26 (Go.Operand.tmp 4) 1, type := 0, pos := "l05_share.go:48", after := #[{ on := 0, ground := Go.Ground.phase }, { on := 1, ground := Go.Ground.phase }, { on := 2, ground := Go.Ground.phase }, { on := 3, ground := Go.Ground.phase }, { on := 4, ground := Go.Ground.phase }, { on := 5, ground := Go.Ground.phase }, { on := 6, ground := Go.Ground.phase }, { on := 7, ground := Go.Ground.phase }, { on := 8, ground := Go.Ground.phase }, { on := 9, ground := Go.Ground.phase }, { on := 10, ground := Go.Ground.phase }], guard := none }) (v := ?_) rfl (by kernel_rfl) (by kernel_rfl) (by kernel_rfl) (fun _ _ _ h => h) (Or.inl ⟨by kernel_rfl, ?_⟩) (by assumption) ?_
                        rotate_left
                        · intro w hSw; (try dsimp only at hSw); go_simp; try with_reducible rfl
                        simp only [Act.put, List.setIfInBounds_toArray, List.set_cons_zero, List.set_cons_succ]
                        refine wpAnyH_ready (rs := [12]) (by kernel_rfl) (by simp) ?_
                        refine AllReadyH.cons (o := { dst := none, op := Go.Op.store 24 (Go.Operand.tmp 60) (Go.Operand.tmp 59), type := 0, pos := "l05_share.go:48", after := #[{ on := 11, ground := Go.Ground.data }, { on := 10, ground := Go.Ground.data }, { on := 10, ground := Go.Ground.chain }, { on := 0, ground := Go.Ground.phase }, { on := 1, ground := Go.Ground.phase }, { on := 2, ground := Go.Ground.phase }, { on := 3, ground := Go.Ground.phase }, { on := 4, ground := Go.Ground.phase }, { on := 5, ground := Go.Ground.phase }, { on := 6, ground := Go.Ground.phase }, { on := 7, ground := Go.Ground.phase }, { on := 8, ground := Go.Ground.phase }, { on := 9, ground := Go.Ground.phase }, { on := 10, ground := Go.Ground.phase }], guard := none }) rfl (fun K hK => ?_) ?_
                        · obtain ⟨u0, u1⟩ := blk_pair_cells HX3.out
                          have uf1 := Blk.frozen HX3.out 1
                          go_simp
                          refine hK.out _ _ trivial (fun hHeld => ?_)
                          clear hK K
                          try simp only [Act.put, List.setIfInBounds_toArray, List.set_cons_zero, List.set_cons_succ]
                          refine wpAnyH_done (by kernel_rfl) ?_ _
                          clear hHeld u0 u1 uf1
                          go_wp2
                          go_roundw
                          case rel => exact ⟨j + 1, m3, a3, cap3, by go_num, by omega, by rw [HSJ.out]; exact HTQ.out.put HB3.out HO3.out HM3.out⟩
                          case measure => simp [intOf]; omega
                        exact AllReadyH.nil
                      exact AllReadyH.nil
                    exact AllReadyH.nil
                  exact AllReadyH.nil
                refine AllReadyH.cons (o := { dst := some 55, op := Go.Op.load 24 (Go.Operand.tmp 54), type := 24, pos := "l05_share.go:48", after := #[{ on := 5, ground := Go.Ground.data }], guard := none }) rfl (fun K hK => ?_) ?_
                · go_simp
                  refine hK.out _ _ trivial (fun hHeld => ?_)
                  clear hK K
                  try simp only [Act.put, List.setIfInBounds_toArray, List.set_cons_zero, List.set_cons_succ]
                  refine wpAnyH_take (i := 8) (oi := { dst := some 57, op := Go.Op.indexAddr 24 (Go.Operand.tmp 55) (Go.Operand.tmp 56), type := 0, pos := "l05_share.go:48", after := #[{ on := 6, ground := Go.Ground.data }, { on := 7, ground := Go.Ground.data }], guard := none }) (v := ?_) rfl (by kernel_rfl) (by kernel_rfl) (by kernel_rfl) (fun _ _ _ h => h) (Or.inl ⟨by kernel_rfl, ?_⟩) (by assumption) ?_
                  rotate_left
                  · intro w hSw; (try dsimp only at hSw); go_simp; try with_reducible rfl
                  simp only [Act.put, List.setIfInBounds_toArray, List.set_cons_zero, List.set_cons_succ]
                  refine wpAnyH_ready (rs := [1, 9]) (by kernel_rfl) (by simp) ?_
                  refine AllReadyH.cons (o := { dst := some 50, op := Go.Op.load 24 (Go.Operand.tmp 49), type := 24, pos := "l05_share.go:48", after := #[{ on := 0, ground := Go.Ground.data }], guard := none }) rfl (fun K hK => ?_) ?_
                  · go_simp
                    refine hK.out _ _ trivial (fun hHeld => ?_)
                    clear hK K
                    try simp only [Act.put, List.setIfInBounds_toArray, List.set_cons_zero, List.set_cons_succ]
                    refine wpAnyH_ready (rs := [9]) (by kernel_rfl) (by simp) ?_
                    refine AllReadyH.cons (o := { dst := some 58, op := Go.Op.load 37 (Go.Operand.tmp 57), type := 37, pos := "l05_share.go:48", after := #[{ on := 8, ground := Go.Ground.data }], guard := none }) rfl (fun K hK => ?_) ?_
                    · go_simp
                      refine hK.out _ _ trivial (fun hHeld => ?_)
                      clear hK K
                      try simp only [Act.put, List.setIfInBounds_toArray, List.set_cons_zero, List.set_cons_succ]
                      refine wpAnyH_ready (rs := [10]) (by kernel_rfl) (by simp) ?_
                      refine AllReadyH.cons (o := { dst := some 59, op := Go.Op.call { callee := Go.Callee.value (Go.Operand.func 48), args := #[Go.Operand.tmp 50, Go.Operand.tmp 58], argTypes := #[24, 37] }, type := 24, pos := "l05_share.go:48", after := #[{ on := 1, ground := Go.Ground.data }, { on := 9, ground := Go.Ground.data }], guard := none }) rfl (fun K hK => ?_) ?_
                      · go_simp
                        go_wp2_with (go_at_call 48; refine (HC2.out _ ((Below.refl _ _).drew)).mono ?_; rintro e w3 ⟨a3, m3, cap3, rfl, HM3, HO3, HB3⟩)
                        have HX3 : Hid (Blk w3 (B + 1) 2 (fun i => if i = 0 then .int .i64 sk else .slice a1 m1 cap1)) := HTQ.out.box.of_block (HB3.out.block _ (by omega))
                        clear p0 p1 p2 t1 q1 HC2
                        refine hK.out _ _ trivial (fun hHeld => ?_)
                        clear hK K
                        try simp only [Act.put, List.setIfInBounds_toArray, List.set_cons_zero, List.set_cons_succ]
                        refine wpAnyH_take (i := 11) (oi := { dst := some 60, op := Go.Op.fieldAddr 26 (Go.Operand.tmp 4) 1, type := 0, pos := "l05_share.go:48", after := #[{ on := 0, ground := Go.Ground.phase }, { on := 1, ground := Go.Ground.phase }, { on := 2, ground := Go.Ground.phase }, { on := 3, ground := Go.Ground.phase }, { on := 4, ground := Go.Ground.phase }, { on := 5, ground := Go.Ground.phase }, { on := 6, ground := Go.Ground.phase }, { on := 7, ground := Go.Ground.phase }, { on := 8, ground := Go.Ground.phase }, { on := 9, ground := Go.Ground.phase }, { on := 10, ground := Go.Ground.phase }], guard := none }) (v := ?_) rfl (by kernel_rfl) (by kernel_rfl) (by kernel_rfl) (fun _ _ _ h => h) (Or.inl ⟨by kernel_rfl, ?_⟩) (by assumption) ?_
                        rotate_left
                        · intro w hSw; (try dsimp only at hSw); go_simp; try with_reducible rfl
                        simp only [Act.put, List.setIfInBounds_toArray, List.set_cons_zero, List.set_cons_succ]
                        refine wpAnyH_ready (rs := [12]) (by kernel_rfl) (by simp) ?_
                        refine AllReadyH.cons (o := { dst := none, op := Go.Op.store 24 (Go.Operand.tmp 60) (Go.Operand.tmp 59), type := 0, pos := "l05_share.go:48", after := #[{ on := 11, ground := Go.Ground.data }, { on := 10, ground := Go.Ground.data }, { on := 10, ground := Go.Ground.chain }, { on := 0, ground := Go.Ground.phase }, { on := 1, ground := Go.Ground.phase }, { on := 2, ground := Go.Ground.phase }, { on := 3, ground := Go.Ground.phase }, { on := 4, ground := Go.Ground.phase }, { on := 5, ground := Go.Ground.phase }, { on := 6, ground := Go.Ground.phase }, { on := 7, ground := Go.Ground.phase }, { on := 8, ground := Go.Ground.phase }, { on := 9, ground := Go.Ground.phase }, { on := 10, ground := Go.Ground.phase }], guard := none }) rfl (fun K hK => ?_) ?_
                        · obtain ⟨u0, u1⟩ := blk_pair_cells HX3.out
                          have uf1 := Blk.frozen HX3.out 1
                          go_simp
                          refine hK.out _ _ trivial (fun hHeld => ?_)
                          clear hK K
                          try simp only [Act.put, List.setIfInBounds_toArray, List.set_cons_zero, List.set_cons_succ]
                          refine wpAnyH_done (by kernel_rfl) ?_ _
                          clear hHeld u0 u1 uf1
                          go_wp2
                          go_roundw
                          case rel => exact ⟨j + 1, m3, a3, cap3, by go_num, by omega, by rw [HSJ.out]; exact HTQ.out.put HB3.out HO3.out HM3.out⟩
                          case measure => simp [intOf]; omega
                        exact AllReadyH.nil
                      exact AllReadyH.nil
                    exact AllReadyH.nil
                  refine AllReadyH.cons (o := { dst := some 58, op := Go.Op.load 37 (Go.Operand.tmp 57), type := 37, pos := "l05_share.go:48", after := #[{ on := 8, ground := Go.Ground.data }], guard := none }) rfl (fun K hK => ?_) ?_
                  · go_simp
                    refine hK.out _ _ trivial (fun hHeld => ?_)
                    clear hK K
                    try simp only [Act.put, List.setIfInBounds_toArray, List.set_cons_zero, List.set_cons_succ]
                    refine wpAnyH_ready (rs := [1]) (by kernel_rfl) (by simp) ?_
                    refine AllReadyH.cons (o := { dst := some 50, op := Go.Op.load 24 (Go.Operand.tmp 49), type := 24, pos := "l05_share.go:48", after := #[{ on := 0, ground := Go.Ground.data }], guard := none }) rfl (fun K hK => ?_) ?_
                    · go_simp
                      refine hK.out _ _ trivial (fun hHeld => ?_)
                      clear hK K
                      try simp only [Act.put, List.setIfInBounds_toArray, List.set_cons_zero, List.set_cons_succ]
                      refine wpAnyH_ready (rs := [10]) (by kernel_rfl) (by simp) ?_
                      refine AllReadyH.cons (o := { dst := some 59, op := Go.Op.call { callee := Go.Callee.value (Go.Operand.func 48), args := #[Go.Operand.tmp 50, Go.Operand.tmp 58], argTypes := #[24, 37] }, type := 24, pos := "l05_share.go:48", after := #[{ on := 1, ground := Go.Ground.data }, { on := 9, ground := Go.Ground.data }], guard := none }) rfl (fun K hK => ?_) ?_
                      · go_simp
                        go_wp2_with (go_at_call 48; refine (HC2.out _ ((Below.refl _ _).drew)).mono ?_; rintro e w3 ⟨a3, m3, cap3, rfl, HM3, HO3, HB3⟩)
                        have HX3 : Hid (Blk w3 (B + 1) 2 (fun i => if i = 0 then .int .i64 sk else .slice a1 m1 cap1)) := HTQ.out.box.of_block (HB3.out.block _ (by omega))
                        clear p0 p1 p2 t1 q1 HC2
                        refine hK.out _ _ trivial (fun hHeld => ?_)
                        clear hK K
                        try simp only [Act.put, List.setIfInBounds_toArray, List.set_cons_zero, List.set_cons_succ]
                        refine wpAnyH_take (i := 11) (oi := { dst := some 60, op := Go.Op.fieldAddr 26 (Go.Operand.tmp 4) 1, type := 0, pos := "l05_share.go:48", after := #[{ on := 0, ground := Go.Ground.phase }, { on := 1, ground := Go.Ground.phase }, { on := 2, ground := Go.Ground.phase }, { on := 3, ground := Go.Ground.phase }, { on := 4, ground := Go.Ground.phase }, { on := 5, ground := Go.Ground.phase }, { on := 6, ground := Go.Ground.phase }, { on := 7, ground := Go.Ground.phase }, { on := 8, ground := Go.Ground.phase }, { on := 9, ground := Go.Ground.phase }, { on := 10, ground := Go.Ground.phase }], guard := none }) (v := ?_) rfl (by kernel_rfl) (by kernel_rfl) (by kernel_rfl) (fun _ _ _ h => h) (Or.inl ⟨by kernel_rfl, ?_⟩) (by assumption) ?_
                        rotate_left
                        · intro w hSw; (try dsimp only at hSw); go_simp; try with_reducible rfl
                        simp only [Act.put, List.setIfInBounds_toArray, List.set_cons_zero, List.set_cons_succ]
                        refine wpAnyH_ready (rs := [12]) (by kernel_rfl) (by simp) ?_
                        refine AllReadyH.cons (o := { dst := none, op := Go.Op.store 24 (Go.Operand.tmp 60) (Go.Operand.tmp 59), type := 0, pos := "l05_share.go:48", after := #[{ on := 11, ground := Go.Ground.data }, { on := 10, ground := Go.Ground.data }, { on := 10, ground := Go.Ground.chain }, { on := 0, ground := Go.Ground.phase }, { on := 1, ground := Go.Ground.phase }, { on := 2, ground := Go.Ground.phase }, { on := 3, ground := Go.Ground.phase }, { on := 4, ground := Go.Ground.phase }, { on := 5, ground := Go.Ground.phase }, { on := 6, ground := Go.Ground.phase }, { on := 7, ground := Go.Ground.phase }, { on := 8, ground := Go.Ground.phase }, { on := 9, ground := Go.Ground.phase }, { on := 10, ground := Go.Ground.phase }], guard := none }) rfl (fun K hK => ?_) ?_
                        · obtain ⟨u0, u1⟩ := blk_pair_cells HX3.out
                          have uf1 := Blk.frozen HX3.out 1
                          go_simp
                          refine hK.out _ _ trivial (fun hHeld => ?_)
                          clear hK K
                          try simp only [Act.put, List.setIfInBounds_toArray, List.set_cons_zero, List.set_cons_succ]
                          refine wpAnyH_done (by kernel_rfl) ?_ _
                          clear hHeld u0 u1 uf1
                          go_wp2
                          go_roundw
                          case rel => exact ⟨j + 1, m3, a3, cap3, by go_num, by omega, by rw [HSJ.out]; exact HTQ.out.put HB3.out HO3.out HM3.out⟩
                          case measure => simp [intOf]; omega
                        exact AllReadyH.nil
                      exact AllReadyH.nil
                    exact AllReadyH.nil
                  exact AllReadyH.nil
                exact AllReadyH.nil

              · obtain rfl : j = nk := by omega
                have HEN : Hid (putOn (putOn [] (catTo G k)) (lk.take j) = putOn [] (catTo G (k + 1))) := by show _ = _; rw [HST.out, putOn_app, ← HNK.out, List.take_length]
                rw [HEN.out] at HTQ
                go_wp2
                go_roundw
                case rel =>
                  refine ⟨k + 1, m1, a1, cap1, by go_num, by omega, HTQ, fun i hi => ?_⟩
                  by_cases e : i = k
                  · subst e; rw [← HGK.out]; exact ⟨HR.out.symm, rfl⟩
                  · exact HAL.out i (by omega)
                case measure => simp [intOf]; omega
          exact AllReadyH.nil

        · have hd : (sk == s0) = false := by simpa using hs
          have hd2 : decide (sk = s0) = false := decide_eq_false hs
          have HF : Hid (togB G = false) := togB_bad hkl (.inr (by rw [← HGK.out, ← HS0.out]; exact hs))
          go_wp2_with fail
          refine wp_region_held_drew (S := fun w' => w'.cell? ⟨b, o + k * 2, none⟩ = some (.int .i64 sk) ∧ w'.cell? ⟨b, o + k * 2 + 1, none⟩ = some (.slice ak nk ck) ∧ w'.cell? ⟨B + 1, 0, none⟩ = some (.int .i64 s0)) (by kernel_rfl) ⟨q0, q1, t0⟩ (fun hHeld => ?_)
          clear q0 q1 t0
          refine wpAnyH_take (i := 0) (oi := { dst := some 22, op := Go.Op.move (Go.Operand.tmp 0), type := 34, pos := "l05_share.go:44", after := #[], guard := none }) (v := ?_) rfl (by kernel_rfl) (by kernel_rfl) (by kernel_rfl) (fun _ _ _ h => h) (Or.inl ⟨by kernel_rfl, ?_⟩) (by assumption) ?_
          rotate_left
          · intro w hSw; (try dsimp only at hSw); go_simp; try with_reducible rfl
          simp only [Act.put, List.setIfInBounds_toArray, List.set_cons_zero, List.set_cons_succ]
          refine wpAnyH_take (i := 1) (oi := { dst := some 23, op := Go.Op.move (Go.Operand.tmp 5), type := 3, pos := "l05_share.go:44", after := #[], guard := none }) (v := ?_) rfl (by kernel_rfl) (by kernel_rfl) (by kernel_rfl) (fun _ _ _ h => h) (Or.inl ⟨by kernel_rfl, ?_⟩) (by assumption) ?_
          rotate_left
          · intro w hSw; (try dsimp only at hSw); go_simp; try with_reducible rfl
          simp only [Act.put, List.setIfInBounds_toArray, List.set_cons_zero, List.set_cons_succ]
          refine wpAnyH_take (i := 2) (oi := { dst := some 24, op := Go.Op.indexAddr 34 (Go.Operand.tmp 22) (Go.Operand.tmp 23), type := 0, pos := "l05_share.go:44", after := #[{ on := 0, ground := Go.Ground.data }, { on := 1, ground := Go.Ground.data }], guard := none }) (v := ?_) rfl (by kernel_rfl) (by kernel_rfl) (by kernel_rfl) (fun _ _ _ h => h) (Or.inl ⟨by kernel_rfl, ?_⟩) (by assumption) ?_
          rotate_left
          · intro w hSw; (try dsimp only at hSw); go_simp; try with_reducible rfl
          simp only [Act.put, List.setIfInBounds_toArray, List.set_cons_zero, List.set_cons_succ]
          refine wpAnyH_take (i := 3) (oi := { dst := some 25, op := Go.Op.load 26 (Go.Operand.tmp 24), type := 26, pos := "l05_share.go:44", after := #[{ on := 2, ground := Go.Ground.data }], guard := none }) (v := ?_) rfl (by kernel_rfl) (by kernel_rfl) (by kernel_rfl) (fun _ _ _ h => h) (Or.inl ⟨by kernel_rfl, ?_⟩) (by assumption) ?_
          rotate_left
          · intro w hSw; (try dsimp only at hSw); go_simp; try with_reducible rfl
          simp only [Act.put, List.setIfInBounds_toArray, List.set_cons_zero, List.set_cons_succ]
          refine wpAnyH_ready (rs := [4]) (by kernel_rfl) (by simp) ?_
          refine AllReadyH.cons (o := { dst := some 26, op := Go.Op.call { callee := Go.Callee.value (Go.Operand.func 47), args := #[Go.Operand.tmp 25], argTypes := #[26] }, type := 4, pos := "l05_share.go:44", after := #[{ on := 3, ground := Go.Ground.data }], guard := none }) rfl (fun K hK => ?_) ?_
          · go_simp
            go_wp2_with (go_at_call 47; refine (HC1.out _ ((Below.refl _ _).drew)).mono ?_; rintro e w3 ⟨rfl, B3, hk3⟩)
            refine hK.out _ _ hk3 (fun hHeld => ?_)
            clear hK K
            try simp only [Act.put, List.setIfInBounds_toArray, List.set_cons_zero, List.set_cons_succ]
            refine wpAnyH_take (i := 5) (oi := { dst := some 27, op := Go.Op.unOp Go.UnOp.not 4 (Go.Operand.tmp 26), type := 4, pos := "l05_share.go:44", after := #[{ on := 4, ground := Go.Ground.data }], guard := none }) (v := ?_) rfl (by kernel_rfl) (by kernel_rfl) (by kernel_rfl) (fun _ _ _ h => h) (Or.inl ⟨by kernel_rfl, ?_⟩) (by assumption) ?_
            rotate_left
            · intro w hSw; (try dsimp only at hSw); go_simp; try with_reducible rfl
            simp only [Act.put, List.setIfInBounds_toArray, List.set_cons_zero, List.set_cons_succ]
            refine wpAnyH_take (i := 6) (oi := { dst := some 28, op := Go.Op.move (Go.Operand.tmp 27), type := 4, pos := "l05_share.go:44", after := #[{ on := 5, ground := Go.Ground.data }, { on := 4, ground := Go.Ground.chain }], guard := none }) (v := ?_) rfl (by kernel_rfl) (by kernel_rfl) (by kernel_rfl) (fun _ _ _ h => h) (Or.inl ⟨by kernel_rfl, ?_⟩) (by assumption) ?_
            rotate_left
            · intro w hSw; (try dsimp only at hSw); go_simp; try with_reducible rfl
            simp only [Act.put, List.setIfInBounds_toArray, List.set_cons_zero, List.set_cons_succ]
            refine wpAnyH_take (i := 7) (oi := { dst := some 29, op := Go.Op.move (Go.Operand.tmp 0), type := 34, pos := "l05_share.go:44", after := #[{ on := 6, ground := Go.Ground.guard }], guard := some (6, false) }) (v := ?_) rfl (by kernel_rfl) (by kernel_rfl) (by kernel_rfl) (fun _ _ _ h => h) (Or.inl ⟨by kernel_rfl, ?_⟩) (by assumption) ?_
            rotate_left
            · intro w hSw; (try dsimp only at hSw); go_simp; try with_reducible rfl
            simp only [Act.put, List.setIfInBounds_toArray, List.set_cons_zero, List.set_cons_succ]
            refine wpAnyH_take (i := 8) (oi := { dst := some 30, op := Go.Op.move (Go.Operand.tmp 5), type := 3, pos := "l05_share.go:44", after := #[{ on := 6, ground := Go.Ground.guard }], guard := some (6, false) }) (v := ?_) rfl (by kernel_rfl) (by kernel_rfl) (by kernel_rfl) (fun _ _ _ h => h) (Or.inl ⟨by kernel_rfl, ?_⟩) (by assumption) ?_
            rotate_left
            · intro w hSw; (try dsimp only at hSw); go_simp; try with_reducible rfl
            simp only [Act.put, List.setIfInBounds_toArray, List.set_cons_zero, List.set_cons_succ]
            refine wpAnyH_take (i := 9) (oi := { dst := some 31, op := Go.Op.indexAddr 34 (Go.Operand.tmp 29) (Go.Operand.tmp 30), type := 0, pos := "l05_share.go:44", after := #[{ on := 7, ground := Go.Ground.data }, { on := 8, ground := Go.Ground.data }, { on := 6, ground := Go.Ground.guard }], guard := some (6, false) }) (v := ?_) rfl (by kernel_rfl) (by kernel_rfl) (by kernel_rfl) (fun _ _ _ h => h) (Or.inl ⟨by kernel_rfl, ?_⟩) (by assumption) ?_
            rotate_left
            · intro w hSw; (try dsimp only at hSw); go_simp; try with_reducible rfl
            simp only [Act.put, List.setIfInBounds_toArray, List.set_cons_zero, List.set_cons_succ]
            refine wpAnyH_take (i := 10) (oi := { dst := some 32, op := Go.Op.fieldAddr 26 (Go.Operand.tmp 31) 0, type := 0, pos := "l05_share.go:44", after := #[{ on := 9, ground := Go.Ground.data }, { on := 6, ground := Go.Ground.guard }], guard := some (6, false) }) (v := ?_) rfl (by kernel_rfl) (by kernel_rfl) (by kernel_rfl) (fun _ _ _ h => h) (Or.inl ⟨by kernel_rfl, ?_⟩) (by assumption) ?_
            rotate_left
            · intro w hSw; (try dsimp only at hSw); go_simp; try with_reducible rfl
            simp only [Act.put, List.setIfInBounds_toArray, List.set_cons_zero, List.set_cons_succ]
            refine wpAnyH_take (i := 11) (oi := { dst := some 33, op := Go.Op.load 3 (Go.Operand.tmp 32), type := 3, pos := "l05_share.go:44", after := #[{ on := 10, ground := Go.Ground.data }, { on := 6, ground := Go.Ground.guard }], guard := some (6, false) }) (v := ?_) rfl (by kernel_rfl) (by kernel_rfl) (by kernel_rfl) (fun _ _ _ h => h) (Or.inl ⟨by kernel_rfl, ?_⟩) (by assumption) ?_
            rotate_left
            · intro w hSw; (try dsimp only at hSw); go_simp; try with_reducible rfl
            simp only [Act.put, List.setIfInBounds_toArray, List.set_cons_zero, List.set_cons_succ]
            refine wpAnyH_take (i := 12) (oi := { dst := some 34, op := Go.Op.fieldAddr 26 (Go.Operand.tmp 4) 0, type := 0, pos := "l05_share.go:44", after := #[{ on := 6, ground := Go.Ground.guard }], guard := some (6, false) }) (v := ?_) rfl (by kernel_rfl) (by kernel_rfl) (by kernel_rfl) (fun _ _ _ h => h) (Or.inl ⟨by kernel_rfl, ?_⟩) (by assumption) ?_
            rotate_left
            · intro w hSw; (try dsimp only at hSw); go_simp; try with_reducible rfl
            simp only [Act.put, List.setIfInBounds_toArray, List.set_cons_zero, List.set_cons_succ]
            refine wpAnyH_take (i := 13) (oi := { dst := some 35, op := Go.Op.load 3 (Go.Operand.tmp 34), type := 3, pos := "l05_share.go:44", after := #[{ on := 12, ground := Go.Ground.data }, { on := 6, ground := Go.Ground.guard }], guard := some (6, false) }) (v := ?_) rfl (by kernel_rfl) (by kernel_rfl) (by kernel_rfl) (fun _ _ _ h => h) (Or.inl ⟨by kernel_rfl, ?_⟩) (by assumption) ?_
            rotate_left
            · intro w hSw; (try dsimp only at hSw); go_simp; try with_reducible rfl
            simp only [Act.put, List.setIfInBounds_toArray, List.set_cons_zero, List.set_cons_succ]
            refine wpAnyH_take (i := 14) (oi := { dst := some 36, op := Go.Op.binOp Go.BinOp.neq 3 (Go.Operand.tmp 33) (Go.Operand.tmp 35) 3, type := 4, pos := "l05_share.go:44", after := #[{ on := 11, ground := Go.Ground.data }, { on := 13, ground := Go.Ground.data }, { on := 6, ground := Go.Ground.guard }], guard := some (6, false) }) (v := ?_) rfl (by kernel_rfl) (by kernel_rfl) (by kernel_rfl) (fun _ _ _ h => h) (Or.inl ⟨by kernel_rfl, ?_⟩) (by assumption) ?_
            rotate_left
            · intro w hSw; (try dsimp only at hSw); go_simp; try with_reducible rfl
            simp only [Act.put, List.setIfInBounds_toArray, List.set_cons_zero, List.set_cons_succ]
            refine wpAnyH_take (i := 15) (oi := { dst := some 37, op := Go.Op.pick (Go.Operand.tmp 28) (Go.Operand.const (Go.Value.bool true)) (Go.Operand.tmp 36), type := 4, pos := "l05_share.go:44", after := #[{ on := 6, ground := Go.Ground.data }, { on := 14, ground := Go.Ground.data }], guard := none }) (v := ?_) rfl (by kernel_rfl) (by kernel_rfl) (by kernel_rfl) (fun _ _ _ h => h) (Or.inl ⟨by kernel_rfl, ?_⟩) (by assumption) ?_
            rotate_left
            · intro w hSw; (try dsimp only at hSw); go_simp; try with_reducible rfl
            simp only [Act.put, List.setIfInBounds_toArray, List.set_cons_zero, List.set_cons_succ]
            refine wpAnyH_done (by kernel_rfl) ?_ _
            clear hHeld hk3
            have HT3 : Hid (TI w w3 B s0 a' m cap' (putOn [] (catTo G k))) := HT.out.below B3.out
            obtain ⟨r0, r1⟩ := blk_pair_cells HT3.out.res
            have rf0 := Blk.frozen HT3.out.res 0
            have rf1 := Blk.frozen HT3.out.res 1
            go_wp2
            refine bodyPost_ret (v := .tuple #[.agg #[.int .i64 0, .slice none 0 0], .bool false]) (by simp [results, Tryd.results18, go_sem, r0, r1]) rfl ?_
            have hbl : Below w.heap.size w w3 := HT3.out.bel
            refine ⟨none, 0, 0, by rw [togS_no HF.out, HF.out], by rw [togE_no HF.out]; rfl, by rw [togE_no HF.out]; exact .inl rfl, ?_⟩
            show Below _ _ _
            exact (hbl.setCell (p := ⟨B, 0, none⟩) (by show w.heap.size ≤ B; have := HB.out; omega) _).setCell (p := ⟨B, 1, none⟩) (by show w.heap.size ≤ B; have := HB.out; omega) _
          exact AllReadyH.nil

      · subst hr
        have HF : Hid (togB G = false) := togB_bad hkl (.inl (by rw [← HGK.out]; exact HR.out.symm))
        have HC1 : Hid (∀ w0, Below wr.heap.size wr w0 → Calls Tryd.prog 47 #[gv sk ak nk ck] w0 fun e w' => e = .returned (.bool false) ∧ Hid (Below wr.heap.size wr w') ∧ (w'.cell? ⟨b, o + k * 2, none⟩ = some (.int .i64 sk) ∧ w'.cell? ⟨b, o + k * 2 + 1, none⟩ = some (.slice ak nk ck) ∧ w'.cell? ⟨B + 1, 0, none⟩ = some (.int .i64 s0))) := fun w0 h =>
          (specGOk_any lo hi sk ak nk ck lk false w0 (HEK.out.below (HT.out.bel.trans (h.mono HT.out.bel.size)) HH.out) (Nat.le_trans HH.out (HT.out.bel.trans (h.mono HT.out.bel.size)).size) HNK.out (by omega) HR.out).mono fun _ w' ⟨h1, h4⟩ =>
            have h5 := h.trans (h4.out.mono h.size)
            ⟨h1, h5, cell_below q0 h5 (lt_of_cell q0), cell_below q1 h5 (lt_of_cell q1), cell_below t0 h5 (lt_of_cell t0)⟩
        go_wp2_with fail
        refine wp_region_held_drew (S := fun w' => w'.cell? ⟨b, o + k * 2, none⟩ = some (.int .i64 sk) ∧ w'.cell? ⟨b, o + k * 2 + 1, none⟩ = some (.slice ak nk ck) ∧ w'.cell? ⟨B + 1, 0, none⟩ = some (.int .i64 s0)) (by kernel_rfl) ⟨q0, q1, t0⟩ (fun hHeld => ?_)
        clear q0 q1 t0
        refine wpAnyH_take (i := 0) (oi := { dst := some 22, op := Go.Op.move (Go.Operand.tmp 0), type := 34, pos := "l05_share.go:44", after := #[], guard := none }) (v := ?_) rfl (by kernel_rfl) (by kernel_rfl) (by kernel_rfl) (fun _ _ _ h => h) (Or.inl ⟨by kernel_rfl, ?_⟩) (by assumption) ?_
        rotate_left
        · intro w hSw; (try dsimp only at hSw); go_simp; try with_reducible rfl
        simp only [Act.put, List.setIfInBounds_toArray, List.set_cons_zero, List.set_cons_succ]
        refine wpAnyH_take (i := 1) (oi := { dst := some 23, op := Go.Op.move (Go.Operand.tmp 5), type := 3, pos := "l05_share.go:44", after := #[], guard := none }) (v := ?_) rfl (by kernel_rfl) (by kernel_rfl) (by kernel_rfl) (fun _ _ _ h => h) (Or.inl ⟨by kernel_rfl, ?_⟩) (by assumption) ?_
        rotate_left
        · intro w hSw; (try dsimp only at hSw); go_simp; try with_reducible rfl
        simp only [Act.put, List.setIfInBounds_toArray, List.set_cons_zero, List.set_cons_succ]
        refine wpAnyH_take (i := 2) (oi := { dst := some 24, op := Go.Op.indexAddr 34 (Go.Operand.tmp 22) (Go.Operand.tmp 23), type := 0, pos := "l05_share.go:44", after := #[{ on := 0, ground := Go.Ground.data }, { on := 1, ground := Go.Ground.data }], guard := none }) (v := ?_) rfl (by kernel_rfl) (by kernel_rfl) (by kernel_rfl) (fun _ _ _ h => h) (Or.inl ⟨by kernel_rfl, ?_⟩) (by assumption) ?_
        rotate_left
        · intro w hSw; (try dsimp only at hSw); go_simp; try with_reducible rfl
        simp only [Act.put, List.setIfInBounds_toArray, List.set_cons_zero, List.set_cons_succ]
        refine wpAnyH_take (i := 3) (oi := { dst := some 25, op := Go.Op.load 26 (Go.Operand.tmp 24), type := 26, pos := "l05_share.go:44", after := #[{ on := 2, ground := Go.Ground.data }], guard := none }) (v := ?_) rfl (by kernel_rfl) (by kernel_rfl) (by kernel_rfl) (fun _ _ _ h => h) (Or.inl ⟨by kernel_rfl, ?_⟩) (by assumption) ?_
        rotate_left
        · intro w hSw; (try dsimp only at hSw); go_simp; try with_reducible rfl
        simp only [Act.put, List.setIfInBounds_toArray, List.set_cons_zero, List.set_cons_succ]
        refine wpAnyH_ready (rs := [4]) (by kernel_rfl) (by simp) ?_
        refine AllReadyH.cons (o := { dst := some 26, op := Go.Op.call { callee := Go.Callee.value (Go.Operand.func 47), args := #[Go.Operand.tmp 25], argTypes := #[26] }, type := 4, pos := "l05_share.go:44", after := #[{ on := 3, ground := Go.Ground.data }], guard := none }) rfl (fun K hK => ?_) ?_
        · go_simp
          go_wp2_with (go_at_call 47; refine (HC1.out _ ((Below.refl _ _).drew)).mono ?_; rintro e w3 ⟨rfl, B3, hk3⟩)
          refine hK.out _ _ hk3 (fun hHeld => ?_)
          clear hK K
          try simp only [Act.put, List.setIfInBounds_toArray, List.set_cons_zero, List.set_cons_succ]
          refine wpAnyH_take (i := 5) (oi := { dst := some 27, op := Go.Op.unOp Go.UnOp.not 4 (Go.Operand.tmp 26), type := 4, pos := "l05_share.go:44", after := #[{ on := 4, ground := Go.Ground.data }], guard := none }) (v := ?_) rfl (by kernel_rfl) (by kernel_rfl) (by kernel_rfl) (fun _ _ _ h => h) (Or.inl ⟨by kernel_rfl, ?_⟩) (by assumption) ?_
          rotate_left
          · intro w hSw; (try dsimp only at hSw); go_simp; try with_reducible rfl
          simp only [Act.put, List.setIfInBounds_toArray, List.set_cons_zero, List.set_cons_succ]
          refine wpAnyH_take (i := 6) (oi := { dst := some 28, op := Go.Op.move (Go.Operand.tmp 27), type := 4, pos := "l05_share.go:44", after := #[{ on := 5, ground := Go.Ground.data }, { on := 4, ground := Go.Ground.chain }], guard := none }) (v := ?_) rfl (by kernel_rfl) (by kernel_rfl) (by kernel_rfl) (fun _ _ _ h => h) (Or.inl ⟨by kernel_rfl, ?_⟩) (by assumption) ?_
          rotate_left
          · intro w hSw; (try dsimp only at hSw); go_simp; try with_reducible rfl
          simp only [Act.put, List.setIfInBounds_toArray, List.set_cons_zero, List.set_cons_succ]
          refine wpAnyH_take (i := 7) (oi := { dst := some 29, op := Go.Op.move (Go.Operand.tmp 0), type := 34, pos := "l05_share.go:44", after := #[{ on := 6, ground := Go.Ground.guard }], guard := some (6, false) }) (v := undef) rfl (by kernel_rfl) (by kernel_rfl) (by kernel_rfl) (fun _ _ _ h => h) (Or.inr ⟨by kernel_rfl, rfl⟩) (by assumption) ?_
          simp only [Act.put, List.setIfInBounds_toArray, List.set_cons_zero, List.set_cons_succ]
          refine wpAnyH_take (i := 8) (oi := { dst := some 30, op := Go.Op.move (Go.Operand.tmp 5), type := 3, pos := "l05_share.go:44", after := #[{ on := 6, ground := Go.Ground.guard }], guard := some (6, false) }) (v := undef) rfl (by kernel_rfl) (by kernel_rfl) (by kernel_rfl) (fun _ _ _ h => h) (Or.inr ⟨by kernel_rfl, rfl⟩) (by assumption) ?_
          simp only [Act.put, List.setIfInBounds_toArray, List.set_cons_zero, List.set_cons_succ]
          refine wpAnyH_take (i := 9) (oi := { dst := some 31, op := Go.Op.indexAddr 34 (Go.Operand.tmp 29) (Go.Operand.tmp 30), type := 0, pos := "l05_share.go:44", after := #[{ on := 7, ground := Go.Ground.data }, { on := 8, ground := Go.Ground.data }, { on := 6, ground := Go.Ground.guard }], guard := some (6, false) }) (v := undef) rfl (by kernel_rfl) (by kernel_rfl) (by kernel_rfl) (fun _ _ _ h => h) (Or.inr ⟨by kernel_rfl, rfl⟩) (by assumption) ?_
          simp only [Act.put, List.setIfInBounds_toArray, List.set_cons_zero, List.set_cons_succ]
          refine wpAnyH_take (i := 10) (oi := { dst := some 32, op := Go.Op.fieldAddr 26 (Go.Operand.tmp 31) 0, type := 0, pos := "l05_share.go:44", after := #[{ on := 9, ground := Go.Ground.data }, { on := 6, ground := Go.Ground.guard }], guard := some (6, false) }) (v := undef) rfl (by kernel_rfl) (by kernel_rfl) (by kernel_rfl) (fun _ _ _ h => h) (Or.inr ⟨by kernel_rfl, rfl⟩) (by assumption) ?_
          simp only [Act.put, List.setIfInBounds_toArray, List.set_cons_zero, List.set_cons_succ]
          refine wpAnyH_take (i := 11) (oi := { dst := some 33, op := Go.Op.load 3 (Go.Operand.tmp 32), type := 3, pos := "l05_share.go:44", after := #[{ on := 10, ground := Go.Ground.data }, { on := 6, ground := Go.Ground.guard }], guard := some (6, false) }) (v := undef) rfl (by kernel_rfl) (by kernel_rfl) (by kernel_rfl) (fun _ _ _ h => h) (Or.inr ⟨by kernel_rfl, rfl⟩) (by assumption) ?_
          simp only [Act.put, List.setIfInBounds_toArray, List.set_cons_zero, List.set_cons_succ]
          refine wpAnyH_take (i := 12) (oi := { dst := some 34, op := Go.Op.fieldAddr 26 (Go.Operand.tmp 4) 0, type := 0, pos := "l05_share.go:44", after := #[{ on := 6, ground := Go.Ground.guard }], guard := some (6, false) }) (v := undef) rfl (by kernel_rfl) (by kernel_rfl) (by kernel_rfl) (fun _ _ _ h => h) (Or.inr ⟨by kernel_rfl, rfl⟩) (by assumption) ?_
          simp only [Act.put, List.setIfInBounds_toArray, List.set_cons_zero, List.set_cons_succ]
          refine wpAnyH_take (i := 13) (oi := { dst := some 35, op := Go.Op.load 3 (Go.Operand.tmp 34), type := 3, pos := "l05_share.go:44", after := #[{ on := 12, ground := Go.Ground.data }, { on := 6, ground := Go.Ground.guard }], guard := some (6, false) }) (v := undef) rfl (by kernel_rfl) (by kernel_rfl) (by kernel_rfl) (fun _ _ _ h => h) (Or.inr ⟨by kernel_rfl, rfl⟩) (by assumption) ?_
          simp only [Act.put, List.setIfInBounds_toArray, List.set_cons_zero, List.set_cons_succ]
          refine wpAnyH_take (i := 14) (oi := { dst := some 36, op := Go.Op.binOp Go.BinOp.neq 3 (Go.Operand.tmp 33) (Go.Operand.tmp 35) 3, type := 4, pos := "l05_share.go:44", after := #[{ on := 11, ground := Go.Ground.data }, { on := 13, ground := Go.Ground.data }, { on := 6, ground := Go.Ground.guard }], guard := some (6, false) }) (v := undef) rfl (by kernel_rfl) (by kernel_rfl) (by kernel_rfl) (fun _ _ _ h => h) (Or.inr ⟨by kernel_rfl, rfl⟩) (by assumption) ?_
          simp only [Act.put, List.setIfInBounds_toArray, List.set_cons_zero, List.set_cons_succ]
          refine wpAnyH_take (i := 15) (oi := { dst := some 37, op := Go.Op.pick (Go.Operand.tmp 28) (Go.Operand.const (Go.Value.bool true)) (Go.Operand.tmp 36), type := 4, pos := "l05_share.go:44", after := #[{ on := 6, ground := Go.Ground.data }, { on := 14, ground := Go.Ground.data }], guard := none }) (v := ?_) rfl (by kernel_rfl) (by kernel_rfl) (by kernel_rfl) (fun _ _ _ h => h) (Or.inl ⟨by kernel_rfl, ?_⟩) (by assumption) ?_
          rotate_left
          · intro w hSw; (try dsimp only at hSw); go_simp; try with_reducible rfl
          simp only [Act.put, List.setIfInBounds_toArray, List.set_cons_zero, List.set_cons_succ]
          refine wpAnyH_done (by kernel_rfl) ?_ _
          clear hHeld hk3
          have HT3 : Hid (TI w w3 B s0 a' m cap' (putOn [] (catTo G k))) := HT.out.below B3.out
          obtain ⟨r0, r1⟩ := blk_pair_cells HT3.out.res
          have rf0 := Blk.frozen HT3.out.res 0
          have rf1 := Blk.frozen HT3.out.res 1
          go_wp2
          refine bodyPost_ret (v := .tuple #[.agg #[.int .i64 0, .slice none 0 0], .bool false]) (by simp [results, Tryd.results18, go_sem, r0, r1]) rfl ?_
          have hbl : Below w.heap.size w w3 := HT3.out.bel
          refine ⟨none, 0, 0, by rw [togS_no HF.out, HF.out], by rw [togE_no HF.out]; rfl, by rw [togE_no HF.out]; exact .inl rfl, ?_⟩
          show Below _ _ _
          exact (hbl.setCell (p := ⟨B, 0, none⟩) (by show w.heap.size ≤ B; have := HB.out; omega) _).setCell (p := ⟨B, 1, none⟩) (by show w.heap.size ≤ B; have := HB.out; omega) _
        exact AllReadyH.nil

    · obtain rfl : k = n := by omega
      have HGD : Hid (togB G = okG s0 (togL G)) := by
        show _ = _
        rw [HS0.out]
        exact togB_good (by rw [HN.out]; omega) (fun i hi => by rw [HN.out] at hi; rw [← HS0.out]; exact HAL.out i hi)
      have HCT : Hid (putOn [] (catTo G k) = togL G) := by show _ = _; unfold togL; rw [HN.out]
      rw [HCT.out] at HT
      have hm5 : m ≤ 1048576 := by
        have h1 := putOn_len (catTo G G.length) []
        have h2 := HT.out.len
        have h3 := HTT.out
        unfold togL at h2
        simp at h1
        omega
      obtain ⟨r, HRR⟩ : ∃ r, Hid (r = okG s0 (togL G)) := ⟨_, rfl⟩
      obtain ⟨t0, t1⟩ := blk_pair_cells HT.out.box
      go_wp2_with fail
      refine (specGOk_any (B + 2) wr.heap.size s0 a' m cap' (togL G) r wr HT.out.own.toIn (Nat.le_refl _) HT.out.len hm5 HRR.out).mono ?_
      rintro e w7 ⟨rfl, B7⟩
      have HT7 : Hid (TI w w7 B s0 a' m cap' (togL G)) := HT.out.below B7.out
      have HXE : Hid (Blk w7 (B + 1) 2 (fun i => if i = 0 then .int .i64 s0 else .slice a' m cap')) := HT7.out.box
      have HRE : Hid (Blk w7 B 2 (fun i => if i = 0 then .int .i64 0 else .slice none 0 0)) := HT7.out.res
      have HBE : Hid (Below w.heap.size w w7) := HT7.out.bel
      obtain ⟨hz, HHZ⟩ : ∃ hz, Hid (w7.heap.size = hz) := ⟨_, rfl⟩
      have HEO : Hid (EdgesOwn (B + 2) hz w7 a' (togL G)) := by rw [← HHZ.out]; exact HT7.out.own
      have HSE : Hid (hz ≤ w7.heap.size) := by rw [HHZ.out]; exact Nat.le_refl _
      have HM : Hid ((togL G).length = m) := HT7.out.len
      clear t0 t1 B7 HT HT7 HTI
      rcases Bool.eq_false_or_eq_true r with hr | hr
      · subst hr
        have HF : Hid (togB G = true) := by show _ = _; rw [HGD.out]; exact HRR.out.symm
        obtain ⟨r0, r1⟩ := blk_pair_cells HRE.out
        have rf0 := Blk.frozen HRE.out 0
        have rf1 := Blk.frozen HRE.out 1
        obtain ⟨d0, d1⟩ := blk_pair_cells HXE.out
        go_wp2
        refine bodyPost_ret (v := .tuple #[.agg #[.int .i64 s0, .slice a' m cap'], .bool true]) (by simp [results, Tryd.results18, go_sem, r0, r1]) rfl ?_
        refine ⟨a', m, cap', by rw [togS_yes HF.out, HF.out, ← HS0.out], by rw [togE_yes HF.out]; exact HM, ?_, ?_⟩
        · rw [togE_yes HF.out]
          show EdgesOwn _ _ _ _ _
          exact ((HEO.out.setCell (b := B) (j := 0) (by omega) _).setCell (b := B) (j := 1) (by omega) _).wide (by have := HB.out; omega) (by simpa using HSE.out)
        · show Below _ _ _
          exact (HBE.out.setCell (p := ⟨B, 0, none⟩) (by show w.heap.size ≤ B; have := HB.out; omega) _).setCell (p := ⟨B, 1, none⟩) (by show w.heap.size ≤ B; have := HB.out; omega) _
      · subst hr
        have HF : Hid (togB G = false) := by show _ = _; rw [HGD.out]; exact HRR.out.symm
        obtain ⟨r0, r1⟩ := blk_pair_cells HRE.out
        have rf0 := Blk.frozen HRE.out 0
        have rf1 := Blk.frozen HRE.out 1
        go_wp2
        refine bodyPost_ret (v := .tuple #[.agg #[.int .i64 0, .slice none 0 0], .bool false]) (by simp [results, Tryd.results18, go_sem, r0, r1]) rfl ?_
        have hbl : Below w.heap.size w w7 := HBE.out
        refine ⟨none, 0, 0, by rw [togS_no HF.out, HF.out], by rw [togE_no HF.out]; rfl, by rw [togE_no HF.out]; exact .inl rfl, ?_⟩
        show Below _ _ _
        exact (hbl.setCell (p := ⟨B, 0, none⟩) (by show w.heap.size ≤ B; have := HB.out; omega) _).setCell (p := ⟨B, 1, none⟩) (by show w.heap.size ≤ B; have := HB.out; omega) _
end Go.Proofs.YtigojleieihdoaaDoor

/-
  laws.sameGraph at equal graphs; laws.in.
-/
namespace Go.Proofs.YtigojleieihdoaaDoor
open Go.RowKit

set_option maxRecDepth 100000 in
theorem neq_edge (x0 x1 x2 : Int) (w : World) : (binOp .neq 37 (.agg #[.int .i64 x0, .int .u8 x1, .int .i64 x2]) (.agg #[.int .i64 x0, .int .u8 x1, .int .i64 x2])).run Tryd.prog w = .ok (.bool false) w := by
  have u3 := Tryd.underlying3
  have a3 := Tryd.isAgg3
  have z3 := Tryd.sizeOf3
  have u5 := Tryd.underlying5
  have a5 := Tryd.isAgg5
  have z5 := Tryd.sizeOf5
  have hS : Tryd.prog.underlying 37 = some (.struct (Tryd.prog.fieldsOf 37)) := by kernel_rfl
  have hp : Tryd.prog.stoodInHeld 37 = false := by kernel_rfl
  rw [run_neq_struct, show (10000 : Nat) = 9999 + 1 from rfl, run_equalIn_agg w 9999 37 _ _ hS hp]
  simp only [Program.fieldsOf, Tryd.underlying37]
  go_simp
  try simp

set_option maxHeartbeats 2000000 in
set_option maxRecDepth 100000 in
theorem sameGraph_any (lo hi lo' hi' : Nat) (s : Int) (a a' : Option Addr) (n cap cap' : Nat) (l : List Ed) (w : World) (ha : EdgesIn lo hi w a l) (hb : EdgesIn lo' hi' w a' l) (hh : hi ≤ w.heap.size) (hh' : hi' ≤ w.heap.size) (hn : l.length = n) (hm : n ≤ 1048576) :
    Calls Tryd.prog 19 #[gv s a n cap, gv s a' n cap'] w fun e w' => e = .returned (.bool true) ∧ Hid (Below w.heap.size w w') := by
  have HN : Hid (l.length = n) := hn
  have HA : Hid (EdgesIn lo hi w a l) := ha
  have HBB : Hid (EdgesIn lo' hi' w a' l) := hb
  have HH : Hid (hi ≤ w.heap.size ∧ hi' ≤ w.heap.size) := ⟨hh, hh'⟩
  obtain ⟨B, HB⟩ : ∃ B, Hid (B = w.heap.size) := ⟨_, rfl⟩
  clear ha hb hn hh hh'
  have HK0 : Hid (Blk ((w.alloc (.cells #[.int .i64 s, .slice a n cap] 26)).alloc (.cells #[.int .i64 s, .slice a' n cap'] 26)) B 2 (fun i => if i = 0 then .int .i64 s else .slice a n cap)) := (blk_two w B HB.out _ _ _).alloc _
  have HK1 : Hid (Blk ((w.alloc (.cells #[.int .i64 s, .slice a n cap] 26)).alloc (.cells #[.int .i64 s, .slice a' n cap'] 26)) (B + 1) 2 (fun i => if i = 0 then .int .i64 s else .slice a' n cap')) := blk_two _ (B + 1) (by rw [HB.out]; simp) _ _ _
  go_enter Tryd.func19, Tryd.ntmps19
  go_wp2
  rw [← HB.out]
  go_loopw [5] (fun i wr => ∃ k : Nat, i = .int .i64 k ∧ k ≤ n ∧ Hid (Blk wr B 2 (fun i => if i = 0 then .int .i64 s else .slice a n cap)) ∧ Hid (Blk wr (B + 1) 2 (fun i => if i = 0 then .int .i64 s else .slice a' n cap')) ∧ Hid (Below w.heap.size w wr)) (fun i _ => n - (intOf i).toNat)
  case atStart => exact ⟨0, rfl, by omega, HK0, HK1, below2 w _ _⟩
  case round =>
    obtain ⟨k, rfl, hk, HKA, HKB, HL⟩ := hrel
    have q0 : wr.cell? ⟨B, 1, none⟩ = some (.slice a n cap) := HKA.out.cell (i := 1) (by omega)
    have q1 : wr.cell? ⟨B + 1, 1, none⟩ = some (.slice a' n cap') := HKB.out.cell (i := 1) (by omega)
    by_cases hlt : k < n
    · have hlt1 : (k : Int) < (n : Int) := by omega
      have hlt0 : (0 : Int) ≤ (k : Int) := by omega
      obtain ⟨b, o, rfl, _, _, hx⟩ := (HA.out.below HL.out HH.out.1).edge (k := k) (by rw [HN.out]; exact hlt)
      obtain ⟨b', o', rfl, _, _, hx'⟩ := (HBB.out.below HL.out HH.out.2).edge (k := k) (by rw [HN.out]; exact hlt)
      obtain ⟨x, HXX⟩ : ∃ x : Ed, Hid (x = eat l k) := ⟨_, rfl⟩
      rw [← HXX.out] at hx hx'
      obtain ⟨x0, x1, x2⟩ := x
      obtain ⟨p0, p1, p2⟩ := hx
      obtain ⟨p0', p1', p2'⟩ := hx'
      dsimp only at p0 p1 p2 p0' p1' p2'
      have hq := fun w => neq_edge x0 x1 x2 w
      go_wp2
      go_quiet (fail)
      go_wp2
      go_round
      case rel => exact ⟨k + 1, by go_num, by omega, HKA.out.of_block rfl, HKB.out.of_block rfl, below_drewN HL.out _⟩
      case measure => simp [intOf]; omega
    · obtain rfl : k = n := by omega
      go_wp2
      go_ret
      exact ⟨rfl, HL⟩

end Go.Proofs.YtigojleieihdoaaDoor

/-
  What a law keeps at hand while it goes on: what was there, the boxes of its variables, each of so many cells.
-/
namespace Go.Proofs.YtigojleieihdoaaDoor
open Go.RowKit

/-- what was there is as it was; each box holds its values -/
structure Hold (w wi : World) (bx : List (Nat × List Value)) : Prop where
  bel : Below w.heap.size w wi
  box : ∀ p ∈ bx, Blk wi p.1 p.2.length (fun i => p.2.getD i (.int .i64 0))
theorem Hold.below {w wi wj : World} {bx : List (Nat × List Value)} (h : Hold w wi bx) (hb : Below wi.heap.size wi wj) : Hold w wj bx :=
  ⟨h.bel.trans (hb.mono h.bel.size), fun p hp => (h.box p hp).of_block (hb.block _ (h.box p hp).lt)⟩
theorem Hold.kept {w wi wj : World} {bx : List (Nat × List Value)} {p : Nat → Prop} (h : Hold w wi bx) (hk : KeptP p wi wj) (h1 : ∀ x ∈ bx, ¬ p x.1) (h2 : ∀ k, p k → w.heap.size ≤ k) : Hold w wj bx :=
  ⟨h.bel.trans (hk.to_below h.bel.size h2), fun x hx => hk.blk (h.box x hx) (h1 x hx)⟩
theorem blk_list (w : World) (b : Nat) (hb : b = w.heap.size) (vs : List Value) (T : TypeId) : Blk (w.alloc (.cells vs.toArray T)) b vs.length (fun i => vs.getD i (.int .i64 0)) :=
  hb ▸ blk_new w vs.toArray T _ (fun i hi => by
    have hi' : i < vs.length := by simpa using hi
    simp [List.getD, hi'])
theorem Hold.more {w wi : World} {bx : List (Nat × List Value)} (h : Hold w wi bx) (vs : List Value) (T : TypeId) : Hold w (wi.alloc (.cells vs.toArray T)) ((wi.heap.size, vs) :: bx) :=
  ⟨h.bel.alloc h.bel.size _, fun p hp => by
    rcases List.mem_cons.1 hp with rfl | hp
    · exact blk_list wi _ rfl vs T
    · exact (h.box p hp).alloc _⟩
theorem Hold.cell {w wi : World} {bx : List (Nat × List Value)} (h : Hold w wi bx) {b : Nat} {vs : List Value} {i : Nat} (hm : (b, vs) ∈ bx) (hi : i < vs.length) : wi.cell? ⟨b, i, none⟩ = some (vs.getD i (.int .i64 0)) := (h.box _ hm).cell (i := i) hi
theorem Hold.frozen {w wi : World} {bx : List (Nat × List Value)} (h : Hold w wi bx) {b : Nat} {vs : List Value} (i : Nat) (hm : (b, vs) ∈ bx) : wi.frozen? ⟨b, i, none⟩ = false := (h.box _ hm).frozen i
theorem Hold.lt {w wi : World} {bx : List (Nat × List Value)} (h : Hold w wi bx) {b : Nat} {vs : List Value} (hm : (b, vs) ∈ bx) : b < wi.heap.size := (h.box _ hm).lt
theorem Hold.none (w : World) : Hold w w [] := ⟨Below.refl _ _, fun p hp => by simp at hp⟩
theorem Hold.less {w wi : World} {bx bx' : List (Nat × List Value)} (h : Hold w wi bx) (hs : ∀ p ∈ bx', p ∈ bx) : Hold w wi bx' := ⟨h.bel, fun p hp => h.box p (hs p hp)⟩
theorem Hold.drew {w wi : World} {bx : List (Nat × List Value)} (h : Hold w wi bx) : Hold w wi.drew bx := h.below ((Below.refl _ _).drew)
/-- a store into a box -/
theorem Hold.put {w wi : World} {bx : List (Nat × List Value)} {b j : Nat} {vs : List Value} (h : Hold w wi ((b, vs) :: bx)) (hj : j < vs.length) (v : Value) (hb : w.heap.size ≤ b) (hn : ∀ p ∈ bx, p.1 ≠ b) : Hold w (wi.setCell ⟨b, j, Option.none⟩ v) ((b, vs.set j v) :: bx) :=
  ⟨h.bel.setCell hb v, fun p hp => by
    rcases List.mem_cons.1 hp with rfl | hp
    · have h1 := (h.box (b, vs) (by simp)).set j hj v
      show Blk _ b (vs.set j v).length _
      rw [List.length_set]
      refine h1.congr fun i hi => ?_
      by_cases e : i = j
      · subst e; simp [List.getD, show i < vs.length from hj]
      · simp [List.getD, e, List.getElem?_set_ne (Ne.symm e)]
    · exact (h.box p (List.mem_cons_of_mem _ hp)).of_block (Below.heap_setCell _ _ _ _ (hn p hp))⟩
end Go.Proofs.YtigojleieihdoaaDoor

/-
  The walk of FnParts.
-/
namespace Go.Proofs.YtigojleieihdoaaDoor
open Go.RowKit

/-- the graph in its box P, the list of its parts from M on -/
structure LS (w wr : World) (P M : Nat) (s : Int) (a : Option Addr) (n c : Nat) (L : List Ed) (v : Value) (k : Nat) (T : List Pe) (G : List Gr) : Prop where
  bel : Below w.heap.size w wr
  box : Blk wr P 2 (fun i => if i = 0 then .int .i64 s else .slice a n c)
  eg : EdgesIn 0 P wr a L
  pl : PL M wr.heap.size wr v k M T G
  lt : w.heap.size ≤ P ∧ P < M ∧ M ≤ wr.heap.size
theorem LS.below {w wr w1 : World} {P M : Nat} {s : Int} {a : Option Addr} {n c : Nat} {L : List Ed} {v : Value} {k : Nat} {T : List Pe} {G : List Gr} (h : LS w wr P M s a n c L v k T G) (hb : Below wr.heap.size wr w1) : LS w w1 P M s a n c L v k T G := by
  obtain ⟨h1, h2, h3⟩ := h.lt
  exact ⟨h.bel.trans (hb.mono h.bel.size), h.box.of_block (hb.block _ h.box.lt), h.eg.below hb (by omega), (h.pl.below hb).top, ⟨h1, h2, Nat.le_trans h3 hb.size⟩⟩
theorem LS.grow {w wr w2 : World} {P M : Nat} {s : Int} {a : Option Addr} {n c : Nat} {L : List Ed} {v v2 : Value} {k k2 : Nat} {T T2 : List Pe} {G G2 : List Gr} (h : LS w wr P M s a n c L v k T G) (hb : Below M wr w2) (hp : PL M w2.heap.size w2 v2 k2 M T2 G2) : LS w w2 P M s a n c L v2 k2 T2 G2 := by
  obtain ⟨h1, h2, h3⟩ := h.lt
  exact ⟨h.bel.trans (hb.mono (by omega)), h.box.of_block (hb.block _ (by omega)), h.eg.below hb (by omega), hp, ⟨h1, h2, Nat.le_trans h3 hb.size⟩⟩
theorem pSum_le (nw : Int) (L : List Ed) : ∀ k, pSum nw L k ≤ k * L.length
  | 0 => by simp [pSum]
  | k + 1 => by
    have h1 := pSum_le nw L k
    have h2 := List.length_filter_le (fun e : Ed => decide (ownOf e.1 nw = (k : Int))) L
    rw [pSum, Nat.succ_mul]
    omega
theorem part_from {s : Int} {L : List Ed} {wk nw : Int} {x : Ed} (h : x ∈ partL s L wk nw) : wk = ownOf x.1 nw := by
  unfold partL at h
  split at h
  · have := (List.mem_filter.1 h).2
    simp only [decide_eq_true_eq] at this
    exact this.symm
  · simp at h

set_option maxHeartbeats 8000000 in
set_option maxRecDepth 100000 in
theorem law_4 (a0 : Option Addr) (n0 cap0 : Nat) (w : World) (hc0 : CodeIn w a0 n0) (ht : FT w) :
    Calls Tryd.prog 4 #[.slice a0 n0 cap0] w fun e w' => e = .returned (.bool true) ∧ Below w.heap.size w w' := by
  by_cases hbig : (1048576 : Int) < (n0 : Int)
  · clear hc0 ht
    go_enter Tryd.func4, Tryd.ntmps4
    go_wp2_with fail
    refine (big_yes a0 n0 cap0 w hbig).mono ?_
    rintro e w1 ⟨rfl, rfl⟩
    go_wp2
    go_ret
    exact ⟨rfl, Below.refl _ _⟩
  have hn0 : n0 ≤ 1048576 := by omega
  have HC0 : Hid (CodeIn w a0 n0) := hc0
  have HT : Hid (FT w) := ht
  obtain ⟨i0, hi0, hz0, hz1, hz2⟩ := info_parts Tryd.info26
  clear hc0 ht
  go_enter Tryd.func4, Tryd.ntmps4
  go_wp2_with fail
  refine (big_no a0 n0 cap0 w hn0).mono ?_
  rintro e w1 ⟨rfl, rfl⟩
  go_wp2_with fail
  refine (drawGraph_any w n0 cap0 a0 hn0 HC0.out).mono ?_
  rintro e w1 ⟨s, a, n, c, L, rfl, HLN, HE, HGD, HB1⟩
  obtain ⟨P, HP⟩ : ∃ P, Hid (P = w1.heap.size) := ⟨_, rfl⟩
  obtain ⟨W1, HW1⟩ : ∃ W1, Hid (W1 = w1.alloc (.cells #[.int .i64 s, .slice a n c] 26)) := ⟨_, rfl⟩
  have HBW1 : Hid (Below w.heap.size w W1) := by rw [HW1.out]; exact HB1.out.alloc HB1.out.size _
  have HBX1 : Hid (Blk W1 P 2 (fun i => if i = 0 then .int .i64 s else .slice a n c)) := by rw [HW1.out]; exact blk_two w1 P HP.out _ _ _
  have HEG1 : Hid (EdgesIn 0 P W1 a L) := by rw [HW1.out]; exact (HE.out.below (below1 w1 _) (Nat.le_refl _)).wide (Nat.zero_le _) (by rw [HP.out]; exact Nat.le_refl _)
  have HPW : Hid (w.heap.size ≤ P) := by rw [HP.out]; exact HB1.out.size
  have HOK : Hid (okG s L = true) := HGD.out.1.1
  have hn : n ≤ 10 := by rw [← HLN.out]; exact HGD.out.1.2.1
  clear HE HGD HB1
  go_wp2_with fail
  rw [← HP.out, ← HW1.out]
  refine (drawPlaces_any a0 n0 cap0 W1 hn0 (HC0.out.below HBW1.out)).mono ?_
  rintro e w2 ⟨gp, cg, z0, z1, z2, rfl, HZ, HZC, HB2⟩
  have hzz0 := HZ.out.1.1
  have hzz1 := HZ.out.1.2
  have hzc := HZC.out.1
  obtain ⟨nw, HNW⟩ : ∃ nw : Nat, Hid ((nw : Int) = 1 + z0 % 8) := ⟨(1 + z0 % 8).toNat, by show _ = _; omega⟩
  have hw1 : 1 ≤ nw := by have := HNW.out; omega
  have hw8 : nw ≤ 8 := by have := HNW.out; omega
  obtain ⟨M, HM⟩ : ∃ M, Hid (M = w2.heap.size) := ⟨_, rfl⟩
  obtain ⟨W3, HW3⟩ : ∃ W3, Hid (W3 = w2.alloc (.cells #[] 26)) := ⟨_, rfl⟩
  have HLS : Hid (LS w W3 P M s a n c L (.slice (some ⟨M, 0, none⟩) 0 0) 0 [] []) := by
    have hb23 : Below w2.heap.size w2 W3 := by rw [HW3.out]; exact below1 _ _
    have hb13 : Below W1.heap.size W1 W3 := HB2.out.trans (hb23.mono HB2.out.size)
    have hp1 := HBX1.out.lt
    have h12 := HB2.out.size
    have hm := HM.out
    have hpl : PL M w2.heap.size W3 (.slice (some ⟨M, 0, none⟩) 0 0) 0 M [] [] := by rw [HW3.out, HM.out]; exact PL.made (Nat.le_refl _) (Nat.le_refl _)
    exact ⟨HBW1.out.trans (hb13.mono HBW1.out.size), HBX1.out.of_block (hb13.block _ hp1), HEG1.out.below hb13 (by omega), hpl.top, ⟨HPW.out, by omega, by have := hb23.size; omega⟩⟩
  clear HZ HZC HB2 HW1 HP HBW1 HBX1 HEG1 HPW
  go_wp2
  rw [← HNW.out, ← HM.out, ← HW3.out]
  clear HNW hzc hzz0 hzz1 HM HW3
  go_loopw [7, 5, 6] (fun i v q wr => ∃ (k : Nat) (T : List Pe), i = .int .i64 k ∧ q = .int .i64 ((pSum (nw : Int) L k : Nat) : Int) ∧ k ≤ nw ∧ Hid (LS w wr P M s a n c L v k T (partsG s L (nw : Int) k))) (fun i _ _ _ => nw - (intOf i).toNat)
  case atStart => exact ⟨0, [], rfl, rfl, by omega, HLS⟩
  case round =>
    obtain ⟨k, T, rfl, rfl, hk, HL⟩ := hrel
    by_cases hlt : k < nw
    · have hlt1 : (k : Int) < (nw : Int) := by omega
      obtain ⟨c0, c1⟩ := blk_pair_cells HL.out.box
      go_wp2_with fail
      refine (partOf_any 0 P s a n c L (k : Int) (nw : Int) wr (HT.out.below HL.out.bel) HL.out.eg (by have := HL.out.lt; omega) HLN.out (by omega)).mono ?_
      rintro e w4 ⟨a4, n4, c4, rfl, HN4, HO4, HB4⟩
      obtain ⟨PT, HPT⟩ : ∃ PT, Hid (PT = partL s L (k : Int) (nw : Int)) := ⟨_, rfl⟩
      have HNX : Hid (pSum (nw : Int) L (k + 1) = pSum (nw : Int) L k + n4) := by show _ = _; rw [pSum_step _ HOK.out, HN4.out]
      rw [← HPT.out] at HN4 HO4
      have hn4 : n4 ≤ 10 := by
        have h1 := partL_len s L (k : Int) (nw : Int)
        rw [← HPT.out, HN4.out, HLN.out] at h1
        omega
      obtain ⟨q, HQ⟩ : ∃ q : Nat, Hid (q = pSum (nw : Int) L k) := ⟨_, rfl⟩
      rw [← HQ.out] at HNX ⊢
      have hq : q ≤ 80 := by
        have h1 := pSum_le (nw : Int) L k
        rw [← HQ.out, HLN.out] at h1
        have h2 : k * n ≤ 8 * 10 := Nat.mul_le_mul (by omega) hn
        omega
      have HOF : Hid (PT = [] ∨ ∃ b o, a4 = some ⟨b, o, none⟩ ∧ ¬ Value.ownBlock _ = some b) := HL.out.pl.fresh (Nat.le_refl _) HO4.out.toIn
      obtain ⟨Q, HQQ⟩ : ∃ Q, Hid (Q = w4.heap.size) := ⟨_, rfl⟩
      obtain ⟨W4, HW4⟩ : ∃ W4, Hid (W4 = w4.alloc (.cells #[.int .i64 s, .slice a4 n4 c4] 26)) := ⟨_, rfl⟩
      have hb4w : Below w4.heap.size w4 W4 := by rw [HW4.out]; exact below1 _ _
      have HL4 : Hid (LS w W4 P M s a n c L _ k T (partsG s L (nw : Int) k)) := (HL.out.below HB4.out).below hb4w
      have HX4 : Hid (Blk W4 Q 2 (fun i => if i = 0 then .int .i64 s else .slice a4 n4 c4)) := by rw [HW4.out]; exact blk_two w4 Q HQQ.out _ _ _
      have HE4 : Hid (EdgesIn M Q W4 a4 PT) := (HO4.out.toIn.below hb4w (Nat.le_refl _)).wide (by have := HL.out.lt; omega) (by rw [HQQ.out]; exact Nat.le_refl _)
      clear c0 c1 HO4 HB4 HL hb4w
      go_wp2
      rw [← HQQ.out, ← HW4.out]
      clear HW4 HQQ
      go_loopw [9] (fun i wq => ∃ j : Nat, i = .int .i64 j ∧ j ≤ n4 ∧ Hid (LS w wq P M s a n c L _ k T (partsG s L (nw : Int) k)) ∧ Hid (Blk wq Q 2 (fun i => if i = 0 then .int .i64 s else .slice a4 n4 c4)) ∧ Hid (EdgesIn M Q wq a4 PT)) (fun i _ => n4 - (intOf i).toNat)
      case atStart => exact ⟨0, rfl, by omega, HL4, HX4, HE4⟩
      case round =>
        obtain ⟨j, rfl, hj, HLQ, HXQ, HEQ⟩ := hrel
        obtain ⟨c0, c1⟩ := blk_pair_cells HXQ.out
        by_cases hjl : j < n4
        · have hjl1 : (j : Int) < (n4 : Int) := by omega
          have hjl0 : (0 : Int) ≤ (j : Int) := by omega
          obtain ⟨b, o, rfl, _, _, hx⟩ := HEQ.out.edge (k := j) (by rw [HN4.out]; exact hjl)
          obtain ⟨x, HX⟩ : ∃ x : Ed, Hid (x = eat PT j) := ⟨_, rfl⟩
          rw [← HX.out] at hx
          have HXO : Hid ((k : Int) = ownOf x.1 (nw : Int)) := by
            have hm : x ∈ PT := by rw [HX.out]; exact eat_mem (by rw [HN4.out]; exact hjl)
            rw [HPT.out] at hm
            exact part_from hm
          obtain ⟨x0, x1, x2⟩ := x
          obtain ⟨p0, p1, p2⟩ := hx
          dsimp only at p0 p1 p2 HXO
          go_wp2_with fail
          refine (ownerOf_any x0 (nw : Int) (k : Int) wr (HT.out.below HLQ.out.bel) HXO.out).mono ?_
          rintro e w5 ⟨rfl, HB5⟩
          clear c0 c1 p0 p1 p2
          go_wp2
          go_roundw
          case rel => exact ⟨j + 1, by go_num, by omega, HLQ.out.below HB5.out, HXQ.out.of_block (HB5.out.block _ HXQ.out.lt), HEQ.out.below HB5.out (Nat.le_of_lt HXQ.out.lt)⟩
          case measure => simp [intOf]; omega
        · obtain rfl : j = n4 := by omega
          have hM : M ≤ wr.heap.size := HLQ.out.lt.2.2
          have HEW : Hid (EdgesIn M wr.heap.size wr a4 PT) := HEQ.out.wide (Nat.le_refl _) (Nat.le_of_lt HXQ.out.lt)
          go_wp2_with (at_builtin; refine wpList_append_lies _ rfl (.tmp 59) (.tmp 61) 34 rfl M 26 i0 _ 2 32 Tryd.underlying34 hi0 hz0 hz1 hz2 rfl (by decide) _ k (pcells T) rfl (HLQ.out.pl.row.alloc _) ⟨wr.heap.size, 0, none⟩ 1 1 [.int .i64 s, .slice a4 j c4] rfl rfl (news_two' wr _ _ _) (by simp [Value.oneCell']) (by decide) (by unfold maxLen; omega) (by omega) (by simp; omega) _ rfl ?_)
          intro g8 cap8 w8 hown8 hgrow8 hloc8 _
          have HP8 : Hid (PL M wr.heap.size w8 (.slice (some ⟨g8, 0, none⟩) (k + 1) cap8) (k + 1) M (T ++ [(s, a4, j, c4)]) (partsG s L (nw : Int) (k + 1))) := by
            rw [partsG_snoc, ← HPT.out]
            refine HLQ.out.pl.app HN4.out HEW.out (Nat.le_refl _) (Nat.le_refl _) HOF.out hown8 hgrow8 ?_
            rcases hloc8 with h | h
            · exact .inl h
            · right; omega
          have HB8 : Hid (Below M wr w8) := ((Below.refl M wr).alloc hM _).grown hgrow8 (by simp; omega) (fun k hk => (HLQ.out.pl.row.lt k hk).1)
          have HL8 : Hid (LS w w8 P M s a n c L (.slice (some ⟨g8, 0, none⟩) (k + 1) cap8) (k + 1) (T ++ [(s, a4, j, c4)]) (partsG s L (nw : Int) (k + 1))) := HLQ.out.grow HB8.out HP8.out.top
          clear hown8 hgrow8 hloc8 c0 c1
          go_wp2
          go_roundw
          case rel => exact ⟨k + 1, T ++ [(s, a4, j, c4)], by go_num, by rw [HNX.out]; go_num, by omega, HL8⟩
          case measure => simp [intOf]; omega
    · obtain rfl : k = nw := by omega
      have HCN : Hid (pSum (k : Int) L k = n) := by show _ = _; rw [pSum_all hw1, HLN.out]
      rw [HCN.out]
      obtain ⟨a5, cap5, hv5, hg5⟩ := HL.out.pl.grs
      have HG5 : Hid (GrsIn 0 wr.heap.size wr a5 (partsG s L (k : Int) k)) := hg5
      have HGL : Hid ((partsG s L (k : Int) k).length = k) := partsG_len _ _ _ _
      have HCT : Hid ((catTo (partsG s L (k : Int) k) (partsG s L (k : Int) k).length).length ≤ 1048576) := by
        show _ ≤ _
        rw [partsG_len, cat_parts _ _ HOK.out k (Nat.le_refl _), pSum_all hw1]
        have := HLN.out
        omega
      have HD_0 : Hid (Hold w wr [(P, [.int .i64 s, .slice a n c])]) := by
        refine ⟨HL.out.bel, fun p hp => ?_⟩
        obtain rfl : p = (P, [.int .i64 s, .slice a n c]) := by simpa using hp
        exact HL.out.box.congr (fun i hi => by rcases (show i = 0 ∨ i = 1 by omega) with rfl | rfl <;> rfl)
      have EG_0 : Hid (EdgesIn 0 P wr a L) := HL.out.eg
      have ZZ0 : Hid (P < wr.heap.size) := HL.out.box.lt
      have HTS : Hid (togS (partsG s L (k : Int) k) = s ∧ togB (partsG s L (k : Int) k) = true ∧ togE (partsG s L (k : Int) k) = L) := ⟨togS_parts HOK.out hw1, togB_parts HOK.out hw1, togE_parts HOK.out hw1⟩
      subst hv5
      clear hg5 HL HLS
      go_wp2_with fail
      refine (together_any 0 wr.heap.size a5 k cap5 (partsG s L (k : Int) k) _ HG5.out (Nat.le_refl _) HGL.out (by omega) HCT.out).mono ?_
      rintro e w6 ⟨a6, n6, c6, rfl, HN6, X6, B_2⟩
      have HD_3 : Hid (Hold w w6 [(P, [.int .i64 s, .slice a n c])]) := HD_0.out.below B_2.out
      clear HD_0
      have ZZ4 : Hid (wr.heap.size ≤ w6.heap.size) := B_2.out.size
      have EG_4 : Hid (EdgesIn 0 P w6 a L) := EG_0.out.below B_2.out (by have y0 := ZZ0.out; have y1 := ZZ4.out; omega)
      clear EG_0
      clear B_2
      rw [HTS.out.1, HTS.out.2.1]
      rw [HTS.out.2.2] at HN6 X6
      obtain rfl : n = n6 := by rw [← HLN.out, HN6.out]
      have AL_5 : Hid (EdgesOwn wr.heap.size w6.heap.size w6 a6 L) := X6.out
      clear X6 HN6 HG5 HGL HCT HTS
      have BA_6 : Hid (Below w6.heap.size w6 (w6.alloc (.cells #[.int .i64 s, .slice a6 n c6] 26))) := below1' w6 _
      have HD_7 : Hid (Hold w (w6.alloc (.cells #[.int .i64 s, .slice a6 n c6] 26)) [(w6.heap.size, [.int .i64 s, .slice a6 n c6]), (P, [.int .i64 s, .slice a n c])]) := HD_3.out.more [.int .i64 s, .slice a6 n c6] 26
      clear HD_3
      have ZZ8 : Hid ((w6.alloc (.cells #[.int .i64 s, .slice a6 n c6] 26)).heap.size = w6.heap.size + 1) := by show _ = _; simp
      have ZZ9 : Hid (w6.heap.size ≤ (w6.alloc (.cells #[.int .i64 s, .slice a6 n c6] 26)).heap.size) := BA_6.out.size
      have EG_9 : Hid (EdgesIn 0 P (w6.alloc (.cells #[.int .i64 s, .slice a6 n c6] 26)) a L) := EG_4.out.below BA_6.out (by have y0 := ZZ0.out; have y1 := ZZ4.out; have y2 := ZZ8.out; have y3 := ZZ9.out; omega)
      have AL_9 : Hid (EdgesOwn wr.heap.size w6.heap.size (w6.alloc (.cells #[.int .i64 s, .slice a6 n c6] 26)) a6 L) := AL_5.out.below BA_6.out (by have y0 := ZZ0.out; have y1 := ZZ4.out; have y2 := ZZ8.out; have y3 := ZZ9.out; omega)
      clear EG_4 AL_5
      clear BA_6
      go_wp2_with fail
      refine (drawTogether_any _ n0 cap0 a0 hn0 (HC0.out.below HD_7.out.bel)).mono ?_
      rintro e w7 ⟨ax, nx, cx, GX, rfl, HNX, X7, HCX, B_10⟩
      have HD_11 : Hid (Hold w w7 [(w6.heap.size, [.int .i64 s, .slice a6 n c6]), (P, [.int .i64 s, .slice a n c])]) := HD_7.out.below B_10.out
      clear HD_7
      have ZZ12 : Hid ((w6.alloc (.cells #[.int .i64 s, .slice a6 n c6] 26)).heap.size ≤ w7.heap.size) := B_10.out.size
      have EG_12 : Hid (EdgesIn 0 P w7 a L) := EG_9.out.below B_10.out (by have y0 := ZZ0.out; have y1 := ZZ4.out; have y2 := ZZ8.out; have y3 := ZZ9.out; have y4 := ZZ12.out; omega)
      have AL_12 : Hid (EdgesOwn wr.heap.size w6.heap.size w7 a6 L) := AL_9.out.below B_10.out (by have y0 := ZZ0.out; have y1 := ZZ4.out; have y2 := ZZ8.out; have y3 := ZZ9.out; have y4 := ZZ12.out; omega)
      clear EG_9 AL_9
      clear B_10
      have GX_13 : Hid (GrsIn 0 w7.heap.size w7 ax GX) := X7.out
      clear X7
      have hnx : nx ≤ 5 := HNX.out.2
      obtain ⟨zs, HZS⟩ : ∃ zs, Hid (zs = togS GX) := ⟨_, rfl⟩
      obtain ⟨zb, HZB⟩ : ∃ zb, Hid (zb = togB GX) := ⟨_, rfl⟩
      obtain ⟨LX, HZE⟩ : ∃ LX, Hid (LX = togE GX) := ⟨_, rfl⟩
      have HLX : Hid (LX.length ≤ 1048576) := by show _ ≤ _; rw [HZE.out]; exact Nat.le_trans (togE_len GX) HCX.out
      go_wp2_with fail
      refine (together_any 0 w7.heap.size ax nx cx GX _ GX_13.out (by have y0 := ZZ0.out; have y1 := ZZ4.out; have y2 := ZZ8.out; have y3 := ZZ9.out; have y4 := ZZ12.out; omega) HNX.out.1 (by omega) HCX.out).mono ?_
      rintro e w8 ⟨a8, n8, c8, rfl, HN_14, X_14, B_15⟩
      have HD_16 : Hid (Hold w w8 [(w6.heap.size, [.int .i64 s, .slice a6 n c6]), (P, [.int .i64 s, .slice a n c])]) := HD_11.out.below B_15.out
      clear HD_11
      have ZZ17 : Hid (w7.heap.size ≤ w8.heap.size) := B_15.out.size
      have EG_17 : Hid (EdgesIn 0 P w8 a L) := EG_12.out.below B_15.out (by have y0 := ZZ0.out; have y1 := ZZ4.out; have y2 := ZZ8.out; have y3 := ZZ9.out; have y4 := ZZ12.out; have y5 := ZZ17.out; omega)
      have AL_17 : Hid (EdgesOwn wr.heap.size w6.heap.size w8 a6 L) := AL_12.out.below B_15.out (by have y0 := ZZ0.out; have y1 := ZZ4.out; have y2 := ZZ8.out; have y3 := ZZ9.out; have y4 := ZZ12.out; have y5 := ZZ17.out; omega)
      have GX_17 : Hid (GrsIn 0 w7.heap.size w8 ax GX) := GX_13.out.below B_15.out (by have y0 := ZZ0.out; have y1 := ZZ4.out; have y2 := ZZ8.out; have y3 := ZZ9.out; have y4 := ZZ12.out; have y5 := ZZ17.out; omega)
      clear EG_12 AL_12 GX_13
      clear B_15
      rw [← HZS.out, ← HZB.out]
      rw [← HZE.out] at HN_14 X_14
      have Y_18 : Hid (EdgesOwn w7.heap.size w8.heap.size w8 a8 LX) := X_14.out
      clear X_14
      have HN8 : Hid (LX.length = n8) := HN_14
      clear HN_14
      have hn8 : n8 ≤ 1048576 := by rw [← HN8.out]; exact HLX.out
      have BA_19 : Hid (Below w8.heap.size w8 (w8.alloc (.cells #[.int .i64 zs, .slice a8 n8 c8] 26))) := below1' w8 _
      have HD_20 : Hid (Hold w (w8.alloc (.cells #[.int .i64 zs, .slice a8 n8 c8] 26)) [(w8.heap.size, [.int .i64 zs, .slice a8 n8 c8]), (w6.heap.size, [.int .i64 s, .slice a6 n c6]), (P, [.int .i64 s, .slice a n c])]) := HD_16.out.more [.int .i64 zs, .slice a8 n8 c8] 26
      clear HD_16
      have ZZ21 : Hid ((w8.alloc (.cells #[.int .i64 zs, .slice a8 n8 c8] 26)).heap.size = w8.heap.size + 1) := by show _ = _; simp
      have ZZ22 : Hid (w8.heap.size ≤ (w8.alloc (.cells #[.int .i64 zs, .slice a8 n8 c8] 26)).heap.size) := BA_19.out.size
      have EG_22 : Hid (EdgesIn 0 P (w8.alloc (.cells #[.int .i64 zs, .slice a8 n8 c8] 26)) a L) := EG_17.out.below BA_19.out (by have y0 := ZZ0.out; have y1 := ZZ4.out; have y2 := ZZ8.out; have y3 := ZZ9.out; have y4 := ZZ12.out; have y5 := ZZ17.out; have y6 := ZZ21.out; have y7 := ZZ22.out; omega)
      have AL_22 : Hid (EdgesOwn wr.heap.size w6.heap.size (w8.alloc (.cells #[.int .i64 zs, .slice a8 n8 c8] 26)) a6 L) := AL_17.out.below BA_19.out (by have y0 := ZZ0.out; have y1 := ZZ4.out; have y2 := ZZ8.out; have y3 := ZZ9.out; have y4 := ZZ12.out; have y5 := ZZ17.out; have y6 := ZZ21.out; have y7 := ZZ22.out; omega)
      have GX_22 : Hid (GrsIn 0 w7.heap.size (w8.alloc (.cells #[.int .i64 zs, .slice a8 n8 c8] 26)) ax GX) := GX_17.out.below BA_19.out (by have y0 := ZZ0.out; have y1 := ZZ4.out; have y2 := ZZ8.out; have y3 := ZZ9.out; have y4 := ZZ12.out; have y5 := ZZ17.out; have y6 := ZZ21.out; have y7 := ZZ22.out; omega)
      have Y_22 : Hid (EdgesOwn w7.heap.size w8.heap.size (w8.alloc (.cells #[.int .i64 zs, .slice a8 n8 c8] 26)) a8 LX) := Y_18.out.below BA_19.out (by have y0 := ZZ0.out; have y1 := ZZ4.out; have y2 := ZZ8.out; have y3 := ZZ9.out; have y4 := ZZ12.out; have y5 := ZZ17.out; have y6 := ZZ21.out; have y7 := ZZ22.out; omega)
      clear EG_17 AL_17 GX_17 Y_18
      clear BA_19
      go_wp2_with fail
      refine (specTogether_any 0 w7.heap.size ax nx cx GX _ GX_22.out (by have y0 := ZZ0.out; have y1 := ZZ4.out; have y2 := ZZ8.out; have y3 := ZZ9.out; have y4 := ZZ12.out; have y5 := ZZ17.out; have y6 := ZZ21.out; have y7 := ZZ22.out; omega) HNX.out.1 (by omega) HCX.out).mono ?_
      rintro e w9 ⟨a9, n9, c9, rfl, HN_23, X_23, B_24⟩
      have HD_25 : Hid (Hold w w9 [(w8.heap.size, [.int .i64 zs, .slice a8 n8 c8]), (w6.heap.size, [.int .i64 s, .slice a6 n c6]), (P, [.int .i64 s, .slice a n c])]) := HD_20.out.below B_24.out
      clear HD_20
      have ZZ26 : Hid ((w8.alloc (.cells #[.int .i64 zs, .slice a8 n8 c8] 26)).heap.size ≤ w9.heap.size) := B_24.out.size
      have EG_26 : Hid (EdgesIn 0 P w9 a L) := EG_22.out.below B_24.out (by have y0 := ZZ0.out; have y1 := ZZ4.out; have y2 := ZZ8.out; have y3 := ZZ9.out; have y4 := ZZ12.out; have y5 := ZZ17.out; have y6 := ZZ21.out; have y7 := ZZ22.out; have y8 := ZZ26.out; omega)
      have AL_26 : Hid (EdgesOwn wr.heap.size w6.heap.size w9 a6 L) := AL_22.out.below B_24.out (by have y0 := ZZ0.out; have y1 := ZZ4.out; have y2 := ZZ8.out; have y3 := ZZ9.out; have y4 := ZZ12.out; have y5 := ZZ17.out; have y6 := ZZ21.out; have y7 := ZZ22.out; have y8 := ZZ26.out; omega)
      have GX_26 : Hid (GrsIn 0 w7.heap.size w9 ax GX) := GX_22.out.below B_24.out (by have y0 := ZZ0.out; have y1 := ZZ4.out; have y2 := ZZ8.out; have y3 := ZZ9.out; have y4 := ZZ12.out; have y5 := ZZ17.out; have y6 := ZZ21.out; have y7 := ZZ22.out; have y8 := ZZ26.out; omega)
      have Y_26 : Hid (EdgesOwn w7.heap.size w8.heap.size w9 a8 LX) := Y_22.out.below B_24.out (by have y0 := ZZ0.out; have y1 := ZZ4.out; have y2 := ZZ8.out; have y3 := ZZ9.out; have y4 := ZZ12.out; have y5 := ZZ17.out; have y6 := ZZ21.out; have y7 := ZZ22.out; have y8 := ZZ26.out; omega)
      clear EG_22 AL_22 GX_22 Y_22
      clear B_24
      rw [← HZS.out, ← HZB.out]
      rw [← HZE.out] at HN_23 X_23
      have Z_27 : Hid (EdgesOwn (w8.alloc (.cells #[.int .i64 zs, .slice a8 n8 c8] 26)).heap.size w9.heap.size w9 a9 LX) := X_23.out
      clear X_23
      obtain rfl : n8 = n9 := by rw [← HN8.out, HN_23.out]
      clear HN_23
      clear GX_26
      have BA_28 : Hid (Below w9.heap.size w9 (w9.alloc (.cells #[.int .i64 zs, .slice a9 n8 c9] 26))) := below1' w9 _
      have HD_29 : Hid (Hold w (w9.alloc (.cells #[.int .i64 zs, .slice a9 n8 c9] 26)) [(w9.heap.size, [.int .i64 zs, .slice a9 n8 c9]), (w8.heap.size, [.int .i64 zs, .slice a8 n8 c8]), (w6.heap.size, [.int .i64 s, .slice a6 n c6]), (P, [.int .i64 s, .slice a n c])]) := HD_25.out.more [.int .i64 zs, .slice a9 n8 c9] 26
      clear HD_25
      have ZZ30 : Hid ((w9.alloc (.cells #[.int .i64 zs, .slice a9 n8 c9] 26)).heap.size = w9.heap.size + 1) := by show _ = _; simp
      have ZZ31 : Hid (w9.heap.size ≤ (w9.alloc (.cells #[.int .i64 zs, .slice a9 n8 c9] 26)).heap.size) := BA_28.out.size
      have EG_31 : Hid (EdgesIn 0 P (w9.alloc (.cells #[.int .i64 zs, .slice a9 n8 c9] 26)) a L) := EG_26.out.below BA_28.out (by have y0 := ZZ0.out; have y1 := ZZ4.out; have y2 := ZZ8.out; have y3 := ZZ9.out; have y4 := ZZ12.out; have y5 := ZZ17.out; have y6 := ZZ21.out; have y7 := ZZ22.out; have y8 := ZZ26.out; have y9 := ZZ30.out; have y10 := ZZ31.out; omega)
      have AL_31 : Hid (EdgesOwn wr.heap.size w6.heap.size (w9.alloc (.cells #[.int .i64 zs, .slice a9 n8 c9] 26)) a6 L) := AL_26.out.below BA_28.out (by have y0 := ZZ0.out; have y1 := ZZ4.out; have y2 := ZZ8.out; have y3 := ZZ9.out; have y4 := ZZ12.out; have y5 := ZZ17.out; have y6 := ZZ21.out; have y7 := ZZ22.out; have y8 := ZZ26.out; have y9 := ZZ30.out; have y10 := ZZ31.out; omega)
      have Y_31 : Hid (EdgesOwn w7.heap.size w8.heap.size (w9.alloc (.cells #[.int .i64 zs, .slice a9 n8 c9] 26)) a8 LX) := Y_26.out.below BA_28.out (by have y0 := ZZ0.out; have y1 := ZZ4.out; have y2 := ZZ8.out; have y3 := ZZ9.out; have y4 := ZZ12.out; have y5 := ZZ17.out; have y6 := ZZ21.out; have y7 := ZZ22.out; have y8 := ZZ26.out; have y9 := ZZ30.out; have y10 := ZZ31.out; omega)
      have Z_31 : Hid (EdgesOwn (w8.alloc (.cells #[.int .i64 zs, .slice a8 n8 c8] 26)).heap.size w9.heap.size (w9.alloc (.cells #[.int .i64 zs, .slice a9 n8 c9] 26)) a9 LX) := Z_27.out.below BA_28.out (by have y0 := ZZ0.out; have y1 := ZZ4.out; have y2 := ZZ8.out; have y3 := ZZ9.out; have y4 := ZZ12.out; have y5 := ZZ17.out; have y6 := ZZ21.out; have y7 := ZZ22.out; have y8 := ZZ26.out; have y9 := ZZ30.out; have y10 := ZZ31.out; omega)
      clear EG_26 AL_26 Y_26 Z_27
      clear BA_28
      have q_32 : (w9.alloc (.cells #[.int .i64 zs, .slice a9 n8 c9] 26)).cell? ⟨P, 0, none⟩ = some (.int .i64 s) := HD_29.out.cell (b := P) (vs := [.int .i64 s, .slice a n c]) (i := 0) (by simp) (by simp)
      have q_33 : (w9.alloc (.cells #[.int .i64 zs, .slice a9 n8 c9] 26)).cell? ⟨P, 1, none⟩ = some (.slice a n c) := HD_29.out.cell (b := P) (vs := [.int .i64 s, .slice a n c]) (i := 1) (by simp) (by simp)
      have q_34 : (w9.alloc (.cells #[.int .i64 zs, .slice a9 n8 c9] 26)).cell? ⟨w6.heap.size, 0, none⟩ = some (.int .i64 s) := HD_29.out.cell (b := w6.heap.size) (vs := [.int .i64 s, .slice a6 n c6]) (i := 0) (by simp) (by simp)
      have q_35 : (w9.alloc (.cells #[.int .i64 zs, .slice a9 n8 c9] 26)).cell? ⟨w6.heap.size, 1, none⟩ = some (.slice a6 n c6) := HD_29.out.cell (b := w6.heap.size) (vs := [.int .i64 s, .slice a6 n c6]) (i := 1) (by simp) (by simp)
      go_wp2_with fail
      refine (sameGraph_any wr.heap.size w6.heap.size 0 P s a6 a n c6 c L _ AL_31.out.toIn EG_31.out (by have y0 := ZZ0.out; have y1 := ZZ4.out; have y2 := ZZ8.out; have y3 := ZZ9.out; have y4 := ZZ12.out; have y5 := ZZ17.out; have y6 := ZZ21.out; have y7 := ZZ22.out; have y8 := ZZ26.out; have y9 := ZZ30.out; have y10 := ZZ31.out; omega) (by have y0 := ZZ0.out; have y1 := ZZ4.out; have y2 := ZZ8.out; have y3 := ZZ9.out; have y4 := ZZ12.out; have y5 := ZZ17.out; have y6 := ZZ21.out; have y7 := ZZ22.out; have y8 := ZZ26.out; have y9 := ZZ30.out; have y10 := ZZ31.out; omega) HLN.out (by omega)).mono ?_
      rintro e w10 ⟨rfl, B_36⟩
      clear q_32 q_33 q_34 q_35
      have HD_37 : Hid (Hold w w10 [(w9.heap.size, [.int .i64 zs, .slice a9 n8 c9]), (w8.heap.size, [.int .i64 zs, .slice a8 n8 c8]), (w6.heap.size, [.int .i64 s, .slice a6 n c6]), (P, [.int .i64 s, .slice a n c])]) := HD_29.out.below B_36.out
      clear HD_29
      have ZZ38 : Hid ((w9.alloc (.cells #[.int .i64 zs, .slice a9 n8 c9] 26)).heap.size ≤ w10.heap.size) := B_36.out.size
      have EG_38 : Hid (EdgesIn 0 P w10 a L) := EG_31.out.below B_36.out (by have y0 := ZZ0.out; have y1 := ZZ4.out; have y2 := ZZ8.out; have y3 := ZZ9.out; have y4 := ZZ12.out; have y5 := ZZ17.out; have y6 := ZZ21.out; have y7 := ZZ22.out; have y8 := ZZ26.out; have y9 := ZZ30.out; have y10 := ZZ31.out; have y11 := ZZ38.out; omega)
      have AL_38 : Hid (EdgesOwn wr.heap.size w6.heap.size w10 a6 L) := AL_31.out.below B_36.out (by have y0 := ZZ0.out; have y1 := ZZ4.out; have y2 := ZZ8.out; have y3 := ZZ9.out; have y4 := ZZ12.out; have y5 := ZZ17.out; have y6 := ZZ21.out; have y7 := ZZ22.out; have y8 := ZZ26.out; have y9 := ZZ30.out; have y10 := ZZ31.out; have y11 := ZZ38.out; omega)
      have Y_38 : Hid (EdgesOwn w7.heap.size w8.heap.size w10 a8 LX) := Y_31.out.below B_36.out (by have y0 := ZZ0.out; have y1 := ZZ4.out; have y2 := ZZ8.out; have y3 := ZZ9.out; have y4 := ZZ12.out; have y5 := ZZ17.out; have y6 := ZZ21.out; have y7 := ZZ22.out; have y8 := ZZ26.out; have y9 := ZZ30.out; have y10 := ZZ31.out; have y11 := ZZ38.out; omega)
      have Z_38 : Hid (EdgesOwn (w8.alloc (.cells #[.int .i64 zs, .slice a8 n8 c8] 26)).heap.size w9.heap.size w10 a9 LX) := Z_31.out.below B_36.out (by have y0 := ZZ0.out; have y1 := ZZ4.out; have y2 := ZZ8.out; have y3 := ZZ9.out; have y4 := ZZ12.out; have y5 := ZZ17.out; have y6 := ZZ21.out; have y7 := ZZ22.out; have y8 := ZZ26.out; have y9 := ZZ30.out; have y10 := ZZ31.out; have y11 := ZZ38.out; omega)
      clear EG_31 AL_31 Y_31 Z_31
      clear B_36
      have q_39 : w10.cell? ⟨P, 0, none⟩ = some (.int .i64 s) := HD_37.out.cell (b := P) (vs := [.int .i64 s, .slice a n c]) (i := 0) (by simp) (by simp)
      have q_40 : w10.cell? ⟨P, 1, none⟩ = some (.slice a n c) := HD_37.out.cell (b := P) (vs := [.int .i64 s, .slice a n c]) (i := 1) (by simp) (by simp)
      have q_41 : w10.cell? ⟨w8.heap.size, 0, none⟩ = some (.int .i64 zs) := HD_37.out.cell (b := w8.heap.size) (vs := [.int .i64 zs, .slice a8 n8 c8]) (i := 0) (by simp) (by simp)
      have q_42 : w10.cell? ⟨w8.heap.size, 1, none⟩ = some (.slice a8 n8 c8) := HD_37.out.cell (b := w8.heap.size) (vs := [.int .i64 zs, .slice a8 n8 c8]) (i := 1) (by simp) (by simp)
      have q_43 : w10.cell? ⟨w9.heap.size, 0, none⟩ = some (.int .i64 zs) := HD_37.out.cell (b := w9.heap.size) (vs := [.int .i64 zs, .slice a9 n8 c9]) (i := 0) (by simp) (by simp)
      have q_44 : w10.cell? ⟨w9.heap.size, 1, none⟩ = some (.slice a9 n8 c9) := HD_37.out.cell (b := w9.heap.size) (vs := [.int .i64 zs, .slice a9 n8 c9]) (i := 1) (by simp) (by simp)
      go_wp2_with fail
      refine (sameGraph_any w7.heap.size w8.heap.size (w8.alloc (.cells #[.int .i64 zs, .slice a8 n8 c8] 26)).heap.size w9.heap.size zs a8 a9 n8 c8 c9 LX _ Y_38.out.toIn Z_38.out.toIn (by have y0 := ZZ0.out; have y1 := ZZ4.out; have y2 := ZZ8.out; have y3 := ZZ9.out; have y4 := ZZ12.out; have y5 := ZZ17.out; have y6 := ZZ21.out; have y7 := ZZ22.out; have y8 := ZZ26.out; have y9 := ZZ30.out; have y10 := ZZ31.out; have y11 := ZZ38.out; omega) (by have y0 := ZZ0.out; have y1 := ZZ4.out; have y2 := ZZ8.out; have y3 := ZZ9.out; have y4 := ZZ12.out; have y5 := ZZ17.out; have y6 := ZZ21.out; have y7 := ZZ22.out; have y8 := ZZ26.out; have y9 := ZZ30.out; have y10 := ZZ31.out; have y11 := ZZ38.out; omega) HN8.out hn8).mono ?_
      rintro e w11 ⟨rfl, B_45⟩
      clear q_39 q_40 q_41 q_42 q_43 q_44
      have HD_46 : Hid (Hold w w11 [(w9.heap.size, [.int .i64 zs, .slice a9 n8 c9]), (w8.heap.size, [.int .i64 zs, .slice a8 n8 c8]), (w6.heap.size, [.int .i64 s, .slice a6 n c6]), (P, [.int .i64 s, .slice a n c])]) := HD_37.out.below B_45.out
      clear HD_37
      have ZZ47 : Hid (w10.heap.size ≤ w11.heap.size) := B_45.out.size
      have EG_47 : Hid (EdgesIn 0 P w11 a L) := EG_38.out.below B_45.out (by have y0 := ZZ0.out; have y1 := ZZ4.out; have y2 := ZZ8.out; have y3 := ZZ9.out; have y4 := ZZ12.out; have y5 := ZZ17.out; have y6 := ZZ21.out; have y7 := ZZ22.out; have y8 := ZZ26.out; have y9 := ZZ30.out; have y10 := ZZ31.out; have y11 := ZZ38.out; have y12 := ZZ47.out; omega)
      have AL_47 : Hid (EdgesOwn wr.heap.size w6.heap.size w11 a6 L) := AL_38.out.below B_45.out (by have y0 := ZZ0.out; have y1 := ZZ4.out; have y2 := ZZ8.out; have y3 := ZZ9.out; have y4 := ZZ12.out; have y5 := ZZ17.out; have y6 := ZZ21.out; have y7 := ZZ22.out; have y8 := ZZ26.out; have y9 := ZZ30.out; have y10 := ZZ31.out; have y11 := ZZ38.out; have y12 := ZZ47.out; omega)
      have Y_47 : Hid (EdgesOwn w7.heap.size w8.heap.size w11 a8 LX) := Y_38.out.below B_45.out (by have y0 := ZZ0.out; have y1 := ZZ4.out; have y2 := ZZ8.out; have y3 := ZZ9.out; have y4 := ZZ12.out; have y5 := ZZ17.out; have y6 := ZZ21.out; have y7 := ZZ22.out; have y8 := ZZ26.out; have y9 := ZZ30.out; have y10 := ZZ31.out; have y11 := ZZ38.out; have y12 := ZZ47.out; omega)
      have Z_47 : Hid (EdgesOwn (w8.alloc (.cells #[.int .i64 zs, .slice a8 n8 c8] 26)).heap.size w9.heap.size w11 a9 LX) := Z_38.out.below B_45.out (by have y0 := ZZ0.out; have y1 := ZZ4.out; have y2 := ZZ8.out; have y3 := ZZ9.out; have y4 := ZZ12.out; have y5 := ZZ17.out; have y6 := ZZ21.out; have y7 := ZZ22.out; have y8 := ZZ26.out; have y9 := ZZ30.out; have y10 := ZZ31.out; have y11 := ZZ38.out; have y12 := ZZ47.out; omega)
      clear EG_38 AL_38 Y_38 Z_38
      clear B_45
      go_wp2
      go_ret
      exact ⟨rfl, HD_46.out.bel⟩
end Go.Proofs.YtigojleieihdoaaDoor

namespace Go.Proofs.YtigojleieihdoaaDoor.fnParts
open Go.ChangeShapes Go.WideShapes Go.ChangeAt Go.RowKit
open Go.ChangeMaps (open_string shut_string)
set_option linter.unusedVariables false

set_option maxRecDepth 100000 in
theorem contract (H : Type) (enc : TypeId × Value → H) (W : World) (base : Nat) (args : Array Value) (ds gs : List (DataW H)) (before : List MemPlace)
    (hval : ∀ (j : Nat) t v, Tryd.f4.params[j]? = some t → args[j]? = some v → Value.okWide Tryd.prog W .any base t v)
    (hW : DataW.Whole enc Tryd.prog Tryd.f4.params.toList Rows.fnPartsSpec.vars false W args.toList ds gs before) (hL : laidMetH Tryd.prog Rows.fnPartsRow.laid W) :
    Calls Tryd.prog 4 args W fun e W' => ∃ v, e = .returned v ∧ Rows.fnPartsSpec.post enc Tryd.prog Tryd.f4 false true false false W args v W' := by
  have hW' := hW
  have hF := fourTab hL
  obtain ⟨p, q, hA0, hV, rfl, hfz, hnd⟩ := hW
  have hA : DataW.TrodAll enc Tryd.prog W 0 (fun _ => true) true Tryd.f4.params.toList args.toList ds p := hA0
  rw [Tryd.params4] at hA hval
  obtain ⟨v0, vs0, d0, ds0, p0, q0, hargs, rfl, rfl, h0, r0⟩ := trodAll_cons hA
  obtain ⟨rfl, rfl, rfl⟩ := trodAll_nil r0
  obtain rfl : args = #[v0] := by cases args; simp_all
  obtain ⟨g1, rfl⟩ := vars_len hV
  have k0 := h0
  have lt0 : ∀ x ∈ p0, x.block < W.heap.size := by obtain ⟨m, hm⟩ := k0; exact DataW.trod_lt m _ _ _ hm
  obtain ⟨a0, n0, cap0, rfl⟩ := okWide_slice Tryd.underlying22 (hval 0 22 v0 rfl rfl)
  have hc0 := code_in k0
  clear hA0
  refine (law_4 a0 n0 cap0 W hc0 hF).mono fun e W' ⟨he, bel⟩ => ?_
  subst he
  exact ⟨_, rfl, _, _, _, [], _, _, hW', (trodAll_cons_mk (shut_bool Tryd.underlying4 _) trodAll_mk0), (trodAll_cons_mk (Below.trod laidOut (by kernel_rfl) (of_decide_eq_true (by kernel_rfl)) k0 bel lt0) trodAll_mk0), vars_stay hV bel hF.1, bel.frame _, fun h => by cases h⟩

theorem laid_met (os : Os) : laidMet Tryd.prog Rows.fnPartsRow.laid ((fourWorld (World.holding Tryd.prog os ⟨#[], #[], []⟩)).forCall (fun _ _ => 0) ⟨#[], #[.slice none 0 0], []⟩).memory :=
  laidMet_of_run' 8 (by kernel_rfl) (by kernel_rfl)
theorem reads (os : Os) {H : Type} (enc : TypeId × Value → H) : ∃ places, DataW.whole enc Tryd.prog ((fourWorld (World.holding Tryd.prog os ⟨#[], #[], []⟩)).forCall (fun _ _ => 0) ⟨#[], #[.slice none 0 0], []⟩).memory Tryd.f4.params.toList Rows.fnPartsSpec.vars false (#[.slice none 0 0] : Array Value).toList 8 = some ([.nil], [Rows.laid_loop_example_g00250_impl_fourSteps], places) :=
  ⟨MemPlace.row ⟨0, 0, none⟩ 16, by kernel_rfl⟩

set_option maxRecDepth 100000 in
theorem lifted (os : Os) (started : os.Started) (H : Type) (enc : TypeId × Value → H) (F : Stop.Interp) :
    ReturnsInHanded {} Tryd.checked os 4 .any ((OpenSpec.ofChange Rows.fnPartsSpec).preRow enc Tryd.prog Tryd.f4 Rows.fnPartsRow.domain false Rows.fnPartsRow.laid) (((OpenSpec.ofChange Rows.fnPartsSpec).at F).post enc Tryd.prog Tryd.f4 false true false false) := by
  obtain ⟨places, hx⟩ := reads os enc
  refine returnsInHanded_of_row (C := Tryd.checked) (s := OpenSpec.ofChange Rows.fnPartsSpec) own started (by kernel_rfl) Tryd.func4
    (witness_row_at (enc := enc) (C := Tryd.checked) false (fourWorld (World.holding Tryd.prog os ⟨#[], #[], []⟩)) #[.slice none 0 0] rfl (by kernel_rfl) (by kernel_rfl) (by kernel_rfl)
      (OpenSpec.preRow_of_cond 8 hx (by kernel_rfl) (fun k hk => by cases hk) (by kernel_rfl) (laid_met os))) ?_
  intro W base args ds gs before hval hW _ _ _ hL _ _
  exact contract H enc W base args ds gs before hval hW hL

theorem said : Rows.FnPartsSaid :=
  OpenClaim.holds_of_cond 4 Tryd.f4 rfl rfl rfl rfl rfl rfl rfl ⟨rfl, rfl, rfl, rfl, rfl⟩ rfl rfl rfl rfl rfl (by kernel_rfl) Tryd.func4 (by kernel_rfl)
    (of_decide_eq_true (by kernel_rfl)) (by unfold Func.isWrapper; first | (rw [if_pos (by decide +kernel)]; kernel_rfl) | (rw [if_neg (by decide +kernel)]; exact ⟨rfl, rfl⟩))
    (fun os started H enc _ F => by rw [OpenClaim.pre_eq_preRow]; exact lifted os started H enc F)

theorem plain (f : FuncId) (fn : Func) (hf : Tryd.pinned.checked.prog.funcNamed Rows.fnPartsRow.func = some f) (hfn : Tryd.pinned.checked.prog.funcs[f]? = some fn) :
    false = Tryd.pinned.checked.prog.looks [] ∧ ∀ (j : Nat) t, fn.params[j]? = some t → Tryd.pinned.checked.prog.wantsStandIn t = false := by
  obtain rfl : f = 4 := Option.some.inj ((show Tryd.prog.funcNamed Rows.fnPartsRow.func = some 4 by kernel_rfl).symm.trans hf) |>.symm
  obtain rfl : fn = Tryd.f4 := (Option.some.inj (Tryd.func4.symm.trans hfn)).symm
  refine ⟨by kernel_rfl, fun j t ht => ?_⟩
  rw [Tryd.params4] at ht
  obtain rfl : t = 22 := by simpa using Array.mem_of_getElem? ht
  exact (show Tryd.prog.wantsStandIn 22 = false by kernel_rfl)
end Go.Proofs.YtigojleieihdoaaDoor.fnParts
namespace Go.Proofs.YtigojleieihdoaaDoor

theorem fnParts_card : Rows.FnPartsCardSaid :=
  Claim7.holds_tied_plain_at .later [] _ _ _ _ fnParts.said (fun _ h => by cases h) (by kernel_rfl) (fun _ h => by cases h) fnParts_row_tie rfl ⟨rfl, rfl⟩ (by kernel_rfl) rfl fnParts.plain (by kernel_rfl)
#print axioms fnParts_card
end Go.Proofs.YtigojleieihdoaaDoor
