import Derived.Test.YtbepmeipjdpipaaGreatJo04
import Derived.Test.YtbepmeipjdpipaaGreatJo26
import Derived.Test.YtbepmeipjdpipaaGreatJo08
import Derived.Test.YtbepmeipjdpipaaGreatJo07
import Derived.Test.YtbepmeipjdpipaaGreatJo01
namespace Go.Proofs.YtbepmeipjdpipaaGreat
open Go.RowKit Go.Maps
def setS (l : List Tx) : DataW Unit := setOf (.agg []) (l.map fun x => Lit.string x.data.toList)
theorem has_setS (l : List Tx) (x : Tx) : Maps.has (setS l) (.string x.data.toList) = inL x l := by
 unfold setS
 rw [has_setOf _ _ _ (fun y hy => by obtain ⟨_, _, rfl⟩ := List.mem_map.1 hy; trivial), List.any_map]
 unfold inL
 congr 1
 funext y
 show (y.data.toList == x.data.toList) = decide (y = x)
 rw [Bool.eq_iff_iff, beq_iff_eq, decide_eq_true_eq]
 exact ⟨Go.WideShapes.bytes_inj, fun h => by rw [h]⟩
theorem setS_snoc (l : List Tx) (x : Tx) : setS (l ++ [x]) = (setS l).put (.string x.data.toList) (.agg []) := by simp [setS, setOf_snoc]
theorem lawS : Keyed Tryz.prog 9 := string_keyed Tryz.underlying9
theorem zeroU (w : World) : (zeroValue 86).run Tryz.prog w = .ok (.agg #[]) w := by kernel_rfl
theorem own_keptP {w w' : World} {B e n : Nat} {v : Value} {xs : List Value} {p : Nat → Prop} (h : w.ownsRow B e 1 v n xs) (hb : KeptP p w w') (hp : ∀ c, v.ownBlock = some c → ¬ p c) : w'.ownsRow B e 1 v n xs := by
 refine ⟨h.1, ?_⟩
 rcases h.2 with h5 | ⟨g, cap, cur, e, h5, h6, h7⟩
 ·exact .inl h5
 ·exact .inr ⟨g, cap, cur, e, h5, by rw [hb.block g (Array.getElem?_eq_some_iff.1 h6).1 (hp g (by rw [e]; rfl))]; exact h6, h7⟩
theorem grown_keptP {w w' : World} {r : Option Nat} (h : w.grownBy w' r) : KeptP (fun c => r = some c) w w' := ⟨h.os, h.tape, h.output, h.size, fun k hk hn => h.block k hk (fun e => hn e.symm)⟩
structure NI (B g2 : Nat) (x0 x2 : Tx) (W wr : World) (v : Value) (nn : Nat) (l : List Tx) : Prop where
 nm : NamesAt (B + 1) wr v nn l
 off : ∀ c, v.ownBlock = some c → c ≠ B + 2 ∧ c ≠ g2
 mp : wr.ownsMap Tryz.prog 9 (unitElem (H := Unit)) (B + 2) nn (setS l)
 tx : Blk wr g2 2 (fun i => if i = 0 then .string x0 else .string x2)
 bel : Below (B + 1) W wr
theorem NI.kept {B g2 nn : Nat} {x0 x2 : Tx} {W wr w' : World} {v : Value} {l : List Tx} {p : Nat → Prop} (h : NI B g2 x0 x2 W wr v nn l) (hk : KeptP p wr w') (h1 : ¬ p g2) (h2 : ¬ p (B + 2)) (h3 : ∀ c, v.ownBlock = some c → ¬ p c) (h4 : ∀ c, p c → B + 1 ≤ c) (h5 : B + 1 ≤ wr.heap.size) : NI B g2 x0 x2 W w' v nn l := by
 refine ⟨⟨h.nm.1, own_keptP h.nm.2 hk h3⟩, h.off, ?_, hk.blk h.tx h1, h.bel.trans (hk.to_below h5 h4)⟩
 obtain ⟨es, clock, hb, F, hs, hD⟩ := h.mp
 exact ⟨es, clock, by rw [hk.block (B + 2) (Array.getElem?_eq_some_iff.1 hb).1 h2]; exact hb, F, hs, hD⟩
theorem NI.below {B g2 nn : Nat} {x0 x2 : Tx} {W wr w' : World} {v : Value} {l : List Tx} (h : NI B g2 x0 x2 W wr v nn l) (hb : Below wr.heap.size wr w') (h5 : B + 1 ≤ wr.heap.size) : NI B g2 x0 x2 W w' v nn l :=
 h.kept (p := fun _ => False) (KeptP.of_below hb (fun _ hk _ => hk)) (fun h => h) (fun h => h) (fun _ _ h => h) (fun _ h => h.elim) h5
def nmj (acc : List Tx) (x0 x2 : Tx) (j : Nat) : List Tx := if j = 0 then acc else if j = 1 then addN acc x0 else addN (addN acc x0) x2
def pickj (x0 x2 : Tx) (j : Nat) : Tx := if j = 0 then x0 else x2
theorem nmj_succ (acc : List Tx) (x0 x2 : Tx) {j : Nat} (h : j < 2) : nmj acc x0 x2 (j + 1) = addN (nmj acc x0 x2 j) (pickj x0 x2 j) := by
 rcases (show j = 0 ∨ j = 1 by omega) with h | h <;> subst h <;> rfl
set_option maxHeartbeats 16000000 in
set_option maxRecDepth 100000 in
theorem names_any (lo hi : Nat) (e : Bool) (a b c : Option Addr) (n1 c1 n2 c2 n3 c3 : Nat) (o : List Tx) (t : List At) (f : List Fl) (w : World) (ha : QIn lo hi w a b c n1 n2 n3 (tC o) (aC t) (fC f)) (hh : hi ≤ w.heap.size) (hz : n2 ≤ 1048576) (hs : ∀ i, i < n2 → (aat t i).1.size ≤ 1048576 ∧ (aat t i).2.2.size ≤ 1048576) :
  Calls Tryz.prog 28 #[qv e a n1 c1 b n2 c2 c n3 c3] w fun e w' => ∃ ao nn cc, e = .returned (.slice ao nn cc) ∧ Hid ((nmL t n2).length = nn) ∧ Hid (FlOwn 1 w.heap.size w'.heap.size w' ao nn (tC (nmL t n2))) ∧ Hid (Below w.heap.size w w') := by
 obtain ⟨i9, hi9, hz90, hz91, hz92⟩ := info_parts info9s
 have hmm := @run_makeMap Tryz.prog
 obtain ⟨B, HB⟩ : ∃ B, Hid (B = w.heap.size) := ⟨_, rfl⟩
 obtain ⟨W, HW⟩ : ∃ W, Hid (W = ((w.alloc (.cells #[.bool e, .slice a n1 c1, .slice b n2 c2, .slice c n3 c3] 32)).alloc (.cells #[] 9)).alloc (.map #[] 0)) := ⟨_, rfl⟩
 have HBW : Hid (Below w.heap.size w W) := by rw [HW.out]; exact below3 w _ _ _
 have HSW : Hid (W.heap.size = B + 3) := by rw [HW.out, HB.out]; show _ = _; simp
 have HQ : Hid (Blk W B 4 (q4 (.bool e) (.slice a n1 c1) (.slice b n2 c2) (.slice c n3 c3))) := by rw [HW.out]; exact ((blk_four w B HB.out _ _ _ _ _).alloc _).alloc _
 have HO : Hid (NamesAt (B + 1) W (.slice (some ⟨B + 1, 0, none⟩) 0 0) 0 []) := by
  have h := World.ownsRow_made (w.alloc (.cells #[.bool e, .slice a n1 c1, .slice b n2 c2, .slice c n3 c3] 32)) (base := B + 1) (e := 9) (size := 1) #[] 0 (by rw [HB.out]; simp) (Nat.zero_le _) rfl
  have e1 : (w.alloc (.cells #[.bool e, .slice a n1 c1, .slice b n2 c2, .slice c n3 c3] 32)).heap.size = B + 1 := by rw [HB.out]; simp
  rw [e1] at h
  have h2 := own_below h (below1 _ (.map #[] 0))
  rw [← HW.out] at h2
  exact ⟨rfl, h2⟩
 have HM : Hid (W.ownsMap Tryz.prog 9 (unitElem (H := Unit)) (B + 2) 0 (setS [])) := by
  have h := World.ownsMap_made (H := Unit) ((w.alloc (.cells #[.bool e, .slice a n1 c1, .slice b n2 c2, .slice c n3 c3] 32)).alloc (.cells #[] 9)) Tryz.prog 9 (unitElem (H := Unit))
  have e1 : ((w.alloc (.cells #[.bool e, .slice a n1 c1, .slice b n2 c2, .slice c n3 c3] 32)).alloc (.cells #[] 9)).heap.size = B + 2 := by rw [HB.out]; simp
  rw [e1, ← HW.out] at h
  exact h
 have HOF0 : Hid (∀ c, (Value.slice (some ⟨B + 1, 0, none⟩) 0 0).ownBlock = some c → c ≠ B + 2) := fun c hc => by
  have : B + 1 = c := by simpa [Value.ownBlock] using hc
  omega
 have HA : Hid (FlIn 3 lo hi W b n2 (aC t)) := ha.2.1.below HBW.out hh
 have HH : Hid (hi ≤ B) := by rw [HB.out]; exact hh
 have HSZ : Hid (∀ i, i < n2 → (aat t i).1.size ≤ 1048576 ∧ (aat t i).2.2.size ≤ 1048576) := hs
 clear ha hh hs
 go_enter Tryz.func28, Tryz.ntmps28
 obtain ⟨FF, HFF⟩ : ∃ F : Func, Hid (F = Tryz.f28) := ⟨_, rfl⟩
 rw [← HFF.out]
 go_upto_region 2 with fail
 rw [← HB.out]
 first | rw [← HW.out] | (rw [show _ = W from HW.out.symm])
 clear HW hmm
 obtain ⟨q0, q1, q2, q3⟩ := q_cells HQ.out
 go_wp2
 clear q0 q1 q2 q3
 go_loopw [16, 3] (fun i v wr => ∃ (k nn : Nat) (v3 : Value), i = .int .i64 (k : Int) ∧ v3 = v ∧ k ≤ n2 ∧ Hid (NamesAt (B + 1) wr v3 nn (nmL t k)) ∧ Hid (∀ c, v3.ownBlock = some c → c ≠ B + 2) ∧ Hid (wr.ownsMap Tryz.prog 9 (unitElem (H := Unit)) (B + 2) nn (setS (nmL t k))) ∧ Hid (Below (B + 1) W wr)) (fun i _ _ => n2 - (intOf i).toNat)
 case atStart => exact ⟨0, 0, _, rfl, rfl, by omega, HO, HOF0, HM, Below.refl _ _⟩
 case round =>
  obtain ⟨k, na, v3, rfl, rfl, hk, HNM, HOF, HMP, HBR⟩ := hrel
  have HSR : Hid (B + 3 ≤ wr.heap.size) := by rw [← HSW.out]; exact HBR.out.size
  by_cases hlt : k < n2
  ·have hlt1 : (k : Int) < (n2 : Int) := by omega
   have hlt0 : (0 : Int) ≤ (k : Int) := by omega
   obtain ⟨g, og, rfl, _, hgh, hc⟩ := (HA.out.below HBR.out (by have := HH.out; omega)).at hlt
   obtain ⟨x, HX⟩ : ∃ x, Hid (x = aat t k) := ⟨_, rfl⟩
   have p0 := hc 0 (by omega)
   have p1 := hc 1 (by omega)
   have p2 := hc 2 (by omega)
   have hsk := HSZ.out k hlt
   rw [aC0, ← HX.out] at p0
   rw [aC1, ← HX.out] at p1
   rw [aC2, ← HX.out] at p2
   rw [← HX.out] at hsk
   simp only [Nat.add_zero] at p0
   rw [← Nat.add_assoc] at p1 p2
   obtain ⟨x0, x1, x2⟩ := x
   dsimp only at p0 p1 p2 hsk
   have HSK : Hid (x0.size ≤ 1048576 ∧ x2.size ≤ 1048576) := hsk
   clear hc hgh hsk
   obtain ⟨acc, HACC⟩ : ∃ l, Hid (l = nmL t k) := ⟨_, rfl⟩
   have HNX : Hid (nmL t (k + 1) = addN (addN acc x0) x2) := by show _ = _; rw [HACC.out]; show addN (addN _ _) _ = _; rw [← HX.out]
   have hna : na ≤ 2097152 := by have h1 := nmL_len t k; have h2 := HNM.out.1; omega
   rw [← HACC.out] at HNM HMP
   obtain ⟨S, HS⟩ : ∃ S, Hid (S = wr.heap.size) := ⟨_, rfl⟩
   obtain ⟨X, HXX⟩ : ∃ X, Hid (X = (wr.alloc (.cells #[.string x0, .string x1, .string x2] 49)).alloc (.cells #[.string x0, .string x2] 9)) := ⟨_, rfl⟩
   have HBX : Hid (Below wr.heap.size wr X) := by rw [HXX.out]; exact below2 wr _ _
   have HSX : Hid (X.heap.size = S + 2) := by rw [HXX.out, HS.out]; show _ = _; simp
   have HNI : Hid (NI B (S + 1) x0 x2 W X v3 na (nmj acc x0 x2 0)) := by
    have hoff : ∀ c, v3.ownBlock = some c → c ≠ B + 2 ∧ c ≠ S + 1 := fun c hc => ⟨HOF.out c hc, by have := (HNM.out.2.lt c hc).2; have := HS.out; omega⟩
    refine ⟨⟨HNM.out.1, own_below HNM.out.2 HBX.out⟩, hoff, ?_, ?_, HBR.out.trans (HBX.out.mono (by have := HSR.out; omega))⟩
    ·obtain ⟨es, clock, hb, F, hs, hD⟩ := HMP.out
     exact ⟨es, clock, by rw [HBX.out.block (B + 2) (Array.getElem?_eq_some_iff.1 hb).1]; exact hb, F, hs, hD⟩
    ·rw [HXX.out]
     exact blk_two _ (S + 1) (by rw [HS.out]; simp) _ _ _
   go_upto_region 6 with fail
   rw [← HS.out]
   first | rw [← HXX.out] | (rw [show _ = X from HXX.out.symm])
   have HSB : Hid (B + 3 ≤ S) := by rw [HS.out]; exact HSR.out
   clear HXX p0 p1 p2 HNM HMP HOF HBX HS
   go_wp2
   go_loopw [26, 3] (fun i v wr => ∃ (j nn : Nat) (v3 : Value), i = .int .i64 (j : Int) ∧ v3 = v ∧ j ≤ 2 ∧ nn ≤ na + j ∧ Hid (NI B (S + 1) x0 x2 W wr v3 nn (nmj acc x0 x2 j)) ∧ Hid (S + 2 ≤ wr.heap.size)) (fun i _ _ => 2 - (intOf i).toNat)
   case atStart => exact ⟨0, na, _, rfl, rfl, by omega, by omega, HNI, by rw [HSX.out]; exact Nat.le_refl _⟩
   case round =>
    obtain ⟨j, nb, v3, rfl, rfl, hj, hnb, HI, HSZ2⟩ := hrel
    by_cases hj2 : j < 2
    ·have hj1 : (j : Int) < 2 := by omega
     have hj0 : (0 : Int) ≤ (j : Int) := by omega
     obtain ⟨y, HY⟩ : ∃ y, Hid (y = pickj x0 x2 j) := ⟨_, rfl⟩
     have py : wr.cell? ⟨S + 1, j, none⟩ = some (.string y) := by
      rw [HI.out.tx.cell (i := j) hj2, HY.out]
      rcases (show j = 0 ∨ j = 1 by omega) with h | h <;> subst h <;> rfl
     have hys : y.size ≤ 1048576 := by
      rw [HY.out]; have := HSK.out
      rcases (show j = 0 ∨ j = 1 by omega) with h | h <;> subst h
      ·exact this.1
      ·exact this.2
     obtain ⟨l, HL⟩ : ∃ l, Hid (l = nmj acc x0 x2 j) := ⟨_, rfl⟩
     have HNJ : Hid (nmj acc x0 x2 (j + 1) = addN l y) := by show _ = _; rw [nmj_succ _ _ _ hj2, HL.out, HY.out]
     rw [← HL.out] at HI
     obtain ⟨D, HD⟩ : ∃ D, Hid (D = setS l) := ⟨_, rfl⟩
     have hmp : wr.ownsMap Tryz.prog 9 (unitElem (H := Unit)) (B + 2) nb D := by rw [HD.out]; exact HI.out.mp
     obtain ⟨u, HU⟩ : ∃ u, Hid (u = inL y l) := ⟨_, rfl⟩
     have hhas : Maps.has D (.string y.data.toList) = u := by rw [HD.out, has_setS, HU.out]
     have hkey : keyOf Tryz.prog 9 (.string y) = some (.string y.data.toList) := Go.WideMaps.keyOf_string_mk Tryz.underlying9 (by unfold maxLen; omega)
     rcases Bool.eq_false_or_eq_true u with hu | hu
     ·subst hu
      have HNO : Hid (addN l y = l) := addN_no HU.out.symm
      go_wp2_with (first | (at_lookup; refine wpList_lookup_own_unit _ rfl _ _ 85 rfl 9 86 lawS Tryz.underlying85 (zeroU _) (B + 2) nb _ rfl hmp _ _ rfl hkey ?_) | go_in)
      go_roundw
      case rel => exact ⟨j + 1, nb, _, by go_num, rfl, by omega, by omega, by rw [HNJ.out, HNO.out]; exact HI.out.below (below1 wr _) (by have := HSZ2.out; have := HSB.out; omega), by have := HSZ2.out; show _ ≤ _; simp; omega⟩
      case measure => simp [intOf]; omega
     ·subst hu
      have HYES : Hid (addN l y = l ++ [y]) := addN_yes HU.out.symm
      have HIA : Hid (NI B (S + 1) x0 x2 W (wr.alloc (.cells #[] 86)) v3 nb l) := HI.out.below (below1 wr _) (by have := HSZ2.out; have := HSB.out; omega)
      go_wp2_with (first | (at_lookup; refine wpList_lookup_own_unit _ rfl _ _ 85 rfl 9 86 lawS Tryz.underlying85 (zeroU _) (B + 2) nb _ rfl hmp _ _ rfl hkey ?_) | (at_mapUpdate; refine wpList_mapUpdate_own _ rfl _ _ _ 85 rfl 9 86 lawS Tryz.underlying85 (unitElem (H := Unit)) (B + 2) nb _ rfl (hmp.alloc _) (by unfold maxLen; omega) _ _ _ rfl rfl hkey _ [] unitElem_mk ?_; intro w1 hown1 hgrow1))
      refine (newText_any y _ (by omega)).mono ?_
      rintro e1 w2 ⟨rfl, HB2⟩
      have HK1 : Hid (KeptP (fun c => some (B + 2) = some c) (wr.alloc (.cells #[] 86)) w1) := grown_keptP hgrow1
      have HS1 : Hid (S + 2 ≤ w1.heap.size) := by have h9 := HK1.out.size; have := HSZ2.out; simp at h9; show _ ≤ _; omega
      have HS2 : Hid (S + 2 ≤ w2.heap.size) := by have := HS1.out; have := HB2.out.size; show _ ≤ _; omega
      have HN2 : Hid (w2.ownsRow (B + 1) 9 1 v3 nb (strC l)) := own_below (own_keptP HIA.out.nm.2 HK1.out (fun c hc e => (HIA.out.off c hc).1 (by cases e; rfl))) HB2.out
      have HM2 : Hid (w2.ownsMap Tryz.prog 9 (unitElem (H := Unit)) (B + 2) (nb + 1) (setS (l ++ [y]))) := by
       have h1 := hown1
       rw [HD.out, ← setS_snoc] at h1
       obtain ⟨es, clock, hb, F, hs, hD⟩ := h1
       exact ⟨es, clock, by rw [HB2.out.block (B + 2) (Array.getElem?_eq_some_iff.1 hb).1]; exact hb, F, hs, hD⟩
      have HT2 : Hid (Blk w2 (S + 1) 2 (fun i => if i = 0 then .string x0 else .string x2)) := by
       have h1 := HK1.out.blk HIA.out.tx (fun e => by have := HSB.out; cases e; omega)
       exact h1.of_block (HB2.out.block _ h1.lt)
      have HB22 : Hid (Below (B + 1) W w2) := (HIA.out.bel.trans (HK1.out.to_below (by have := HSZ2.out; have := HSB.out; simp; omega) (fun c e => by cases e; omega))).trans (HB2.out.mono (by have := HS1.out; have := HSB.out; omega))
      have HVO : Hid (∀ c, v3.ownBlock = some c → c ≠ B + 2 ∧ c ≠ S + 1) := HIA.out.off
      have HLL : Hid (l.length = nb) := HIA.out.nm.1
      clear hown1 hgrow1 HK1 HIA HI HB2 hmp hhas hkey py
      have hown := HN2.out.alloc (.cells #[.string y] 9)
      have hlt9 := HN2.out.lt
      go_wp2_with (at_builtin; refine wpList_append_lies _ rfl (.tmp 41) (.tmp 44) 22 rfl (B + 1) 9 i9 (.string ⟨#[]⟩) 1 16 Tryz.underlying22 hi9 hz90 hz91 hz92 rfl (by decide) _ nb (strC l) rfl hown ⟨w2.heap.size, 0, none⟩ 1 1 [.string y] rfl rfl (news_new1 w2 (.string y) 9) (by simp [Value.oneCell']) (by decide) (by unfold maxLen; omega) (by omega) (by have := HS2.out; have := HSB.out; simp; omega) _ rfl ?_)
      intro g5 cap5 w6 hown5 hgrow5 hloc5 hg5
      have HNI6 : Hid (NI B (S + 1) x0 x2 W w6 (.slice (some ⟨g5, 0, none⟩) (nb + 1) cap5) (nb + 1) (l ++ [y])) := by
       have hk6 := grown_keptP hgrow5
       refine ⟨⟨by rw [List.length_append, HLL.out]; rfl, by rw [strC_snoc]; exact hown5⟩, ?_, ?_, ?_, ?_⟩
       ·intro c hc
        have e5 : g5 = c := by simpa [Value.ownBlock] using hc
        subst e5
        rcases hloc5 with h | h
        ·exact HVO.out _ h
        ·have := HS2.out; have := HSB.out; omega
       ·obtain ⟨es, clock, hb, F, hs, hD⟩ := HM2.out.alloc (.cells #[.string y] 9)
        exact ⟨es, clock, by rw [hk6.block (B + 2) (Array.getElem?_eq_some_iff.1 hb).1 (fun e => (HVO.out _ e).1 rfl)]; exact hb, F, hs, hD⟩
       ·exact hk6.blk (HT2.out.alloc _) (fun e => (HVO.out _ e).2 rfl)
       ·exact (HB22.out.alloc (by have := HS2.out; have := HSB.out; omega) _).trans (own_grown hgrow5 (fun c hc => (hlt9 c hc).1) (by have := HS2.out; have := HSB.out; simp; omega))
      have HS6 : Hid (S + 2 ≤ w6.heap.size) := by have h9 := hgrow5.size; have := HS2.out; simp at h9; show _ ≤ _; omega
      clear hown hlt9 hown5 hgrow5 hloc5 hg5
      go_wp2
      go_roundw
      case rel => exact ⟨j + 1, nb + 1, _, by go_num, rfl, by omega, by omega, by rw [HNJ.out, HYES.out]; exact HNI6, HS6⟩
      case measure => simp [intOf]; omega
    ·obtain rfl : j = 2 := by omega
     have HFIN : Hid (nmj acc x0 x2 2 = nmL t (k + 1)) := by show _ = _; rw [HNX.out]; rfl
     go_wp2
     go_roundw
     case rel => exact ⟨k + 1, nb, _, by go_num, rfl, by omega, by rw [← HFIN.out]; exact HI.out.nm, fun c hc => (HI.out.off c hc).1, by rw [← HFIN.out]; exact HI.out.mp, HI.out.bel⟩
     case measure => simp [intOf]; omega
  ·obtain rfl : k = n2 := by omega
   obtain ⟨ao, cc, rfl, hin⟩ := own_texts HNM.out.2 HNM.out.1
   have HIN : Hid (FlOwn 1 (B + 1) wr.heap.size wr ao na (tC (nmL t k))) := hin
   clear hin
   go_wp2
   obtain rfl : FF = Tryz.f28 := HFF.out
   go_ret
   have hb := HB.out
   exact ⟨ao, na, cc, rfl, HNM.out.1, HIN.out.wide (by omega) (Nat.le_refl _), HBW.out.trans (HBR.out.mono (by omega))⟩
end Go.Proofs.YtbepmeipjdpipaaGreat

namespace Go.Proofs.YtbepmeipjdpipaaGreat
open Go.RowKit
set_option maxHeartbeats 16000000 in
set_option maxRecDepth 100000 in
theorem implQueryOk_of (hat : ∀ (x0 x1 x2 : Tx) (w : World), x0.size ≤ 1048576 ∧ x1.size ≤ 1048576 ∧ x2.size ≤ 1048576 → Calls Tryz.prog 27 #[.agg #[.string x0, .string x1, .string x2]] w fun e w' => e = .returned (.bool (atOk (x0, x1, x2))) ∧ Hid (Below w.heap.size w w'))
  (lo hi : Nat) (e : Bool) (a b c : Option Addr) (n1 c1 n2 c2 n3 c3 : Nat) (o : List Tx) (t : List At) (f : List Fl) (w : World) (ha : QIn lo hi w a b c n1 n2 n3 (tC o) (aC t) (fC f)) (hh : hi ≤ w.heap.size) (hl : o.length = n1 ∧ t.length = n2 ∧ f.length = n3) (hz : QLe 1048576 n1 n2 n3 o t f) (hcap : n1 ≤ c1 ∧ c1 ≤ 9223372036854775807) :
  Calls Tryz.prog 8 #[qv e a n1 c1 b n2 c2 c n3 c3] w fun e' w' => e' = .returned (.bool (qOk o t f)) ∧ Hid (Below w.heap.size w w') := by
 obtain ⟨B, HB⟩ : ∃ B, Hid (B = w.heap.size) := ⟨_, rfl⟩
 obtain ⟨W, HW⟩ : ∃ W, Hid (W = w.alloc (.cells #[.bool e, .slice a n1 c1, .slice b n2 c2, .slice c n3 c3] 32)) := ⟨_, rfl⟩
 have HBW : Hid (Below w.heap.size w W) := by rw [HW.out]; exact below1 w _
 have HSW : Hid (W.heap.size = B + 1) := by rw [HW.out, HB.out]; show _ = _; simp
 have HQ : Hid (Blk W B 4 (q4 (.bool e) (.slice a n1 c1) (.slice b n2 c2) (.slice c n3 c3))) := by rw [HW.out]; exact blk_four w B HB.out _ _ _ _ _
 have HA : Hid (QIn lo hi W a b c n1 n2 n3 (tC o) (aC t) (fC f)) := ha.below HBW.out hh
 have HH : Hid (hi ≤ B) := by rw [HB.out]; exact hh
 have HL : Hid (o.length = n1 ∧ t.length = n2 ∧ f.length = n3) := hl
 have HZ : Hid (QLe 1048576 n1 n2 n3 o t f) := hz
 have HAT : Hid (∀ (x0 x1 x2 : Tx) (w : World), x0.size ≤ 1048576 ∧ x1.size ≤ 1048576 ∧ x2.size ≤ 1048576 → Calls Tryz.prog 27 #[.agg #[.string x0, .string x1, .string x2]] w fun e w' => e = .returned (.bool (atOk (x0, x1, x2))) ∧ Hid (Below w.heap.size w w')) := hat
 obtain ⟨r, HR⟩ : ∃ b : Bool, Hid (b = qOk o t f) := ⟨_, rfl⟩
 have HBAD : Hid (¬ (1 ≤ n2 ∧ n2 ≤ 4 ∧ n3 ≤ 3) → r = false) := fun h => by rw [HR.out]; exact qOk_bad (by rw [HL.out.1, HL.out.2.1, HL.out.2.2]; omega)
 rw [← HR.out]
 clear ha hh hl hz hat
 obtain ⟨hcp, hcm⟩ := hcap
 go_enter Tryz.func8, Tryz.ntmps8
 obtain ⟨FF, HFF⟩ : ∃ F : Func, Hid (F = Tryz.f8) := ⟨_, rfl⟩
 rw [← HFF.out]
 go_upto_region 1 with fail
 rw [← HB.out]
 first | rw [← HW.out] | (rw [show _ = W from HW.out.symm])
 clear HW
 obtain ⟨q0, q1, q2, q3⟩ := q_cells HQ.out
 by_cases h21 : n2 < 1
 ·have hr : r = false := HBAD.out (by omega)
  subst hr
  have g1 : (n2 : Int) < 1 := by omega
  go_wp2
  obtain rfl : FF = Tryz.f8 := HFF.out
  go_ret
  exact ⟨rfl, HBW.out⟩
 have g1 : ¬ (n2 : Int) < 1 := by omega
 by_cases h24 : n2 > 4
 ·have hr : r = false := HBAD.out (by omega)
  subst hr
  have g2 : (n2 : Int) > 4 := by omega
  go_wp2
  obtain rfl : FF = Tryz.f8 := HFF.out
  go_ret
  exact ⟨rfl, HBW.out⟩
 have g2 : ¬ (n2 : Int) > 4 := by omega
 by_cases h33 : n3 > 3
 ·have hr : r = false := HBAD.out (by omega)
  subst hr
  have g3 : (n3 : Int) > 3 := by omega
  go_wp2
  obtain rfl : FF = Tryz.f8 := HFF.out
  go_ret
  exact ⟨rfl, HBW.out⟩
 have g3 : ¬ (n3 : Int) > 3 := by omega
 have HOKN : Hid (1 ≤ n2 ∧ n2 ≤ 4 ∧ n3 ≤ 3) := ⟨by omega, by omega, by omega⟩
 go_upto_region 3 with fail
 go_wp2
 clear HBAD q0 q1 q2 q3 g1 g2 g3
 go_loopw [27] (fun i wr => ∃ k : Nat, i = .int .i64 (k : Int) ∧ k ≤ n2 ∧ Hid (atsOk t k = true) ∧ Hid (Below (B + 1) W wr)) (fun i _ => n2 - (intOf i).toNat)
 case atStart => exact ⟨0, rfl, by omega, rfl, Below.refl _ _⟩
 case round =>
  obtain ⟨k, rfl, hk, HP, HBR⟩ := hrel
  have HSZR : Hid (B + 1 ≤ wr.heap.size) := by rw [← HSW.out]; exact HBR.out.size
  by_cases hlt : k < n2
  ·have hlt1 : (k : Int) < (n2 : Int) := by omega
   have hlt0 : (0 : Int) ≤ (k : Int) := by omega
   obtain ⟨g, og, rfl, _, hgh, hc⟩ := (HA.out.2.1.below HBR.out (by have := HH.out; omega)).at hlt
   obtain ⟨x, HX⟩ : ∃ x, Hid (x = aat t k) := ⟨_, rfl⟩
   have p0 := hc 0 (by omega)
   have p1 := hc 1 (by omega)
   have p2 := hc 2 (by omega)
   have HSK : Hid (x.1.size ≤ 1048576 ∧ x.2.1.size ≤ 1048576 ∧ x.2.2.size ≤ 1048576) := by rw [HX.out]; exact HZ.out.2.2.1 k hlt
   rw [aC0, ← HX.out] at p0
   rw [aC1, ← HX.out] at p1
   rw [aC2, ← HX.out] at p2
   simp only [Nat.add_zero] at p0
   rw [← Nat.add_assoc] at p1 p2
   obtain ⟨x0, x1, x2⟩ := x
   dsimp only at p0 p1 p2
   clear hc hgh
   obtain ⟨u, HU⟩ : ∃ b : Bool, Hid (b = atOk (x0, x1, x2)) := ⟨_, rfl⟩
   have HCA : Hid (∀ w0, Calls Tryz.prog 27 #[.agg #[.string x0, .string x1, .string x2]] w0 fun e w' => e = .returned (.bool u) ∧ Hid (Below w0.heap.size w0 w')) := fun w0 => by rw [HU.out]; exact HAT.out x0 x1 x2 w0 HSK.out
   obtain ⟨W4, HW4⟩ : ∃ W4, Hid (W4 = wr.alloc (.cells #[.string x0, .string x1, .string x2] 49)) := ⟨_, rfl⟩
   obtain ⟨E, HE⟩ : ∃ E, Hid (E = wr.heap.size) := ⟨_, rfl⟩
   have HX4 : Hid (Blk W4 E 3 (fun i => if i = 0 then .string x0 else if i = 1 then .string x1 else .string x2)) := by rw [HW4.out]; exact blk_three wr E HE.out _ _ _ _
   have HB4 : Hid (Below (B + 1) W W4) := by rw [HW4.out]; exact HBR.out.trans ((below1 wr _).mono HSZR.out)
   have HS4 : Hid (B + 1 ≤ W4.heap.size) := by rw [← HSW.out]; exact HB4.out.size
   go_upto_region 6 with fail
   rw [← HE.out]
   first | rw [← HW4.out] | (rw [show _ = W4 from HW4.out.symm])
   clear HW4 p0 p1 p2
   obtain ⟨z0, z1, z2⟩ := blk_three_set HX4.out
   go_wp2_with fail
   refine (HCA.out _).mono ?_
   rintro e1 w1 ⟨rfl, HB1⟩
   have HB2 : Hid (Below (B + 1) W w1) := HB4.out.trans (HB1.out.mono HS4.out)
   clear HB1 z0 z1 z2
   rcases Bool.eq_false_or_eq_true u with h | h
   ·subst h
    go_wp2
    go_roundw
    case rel => exact ⟨k + 1, by go_num, by omega, by show _ = _; rw [atsOk_succ, HP.out, ← HX.out, ← HU.out]; rfl, HB2⟩
    case measure => simp [intOf]; omega
   ·subst h
    have hr : r = false := by rw [HR.out]; exact qOk_at (by rw [HL.out.2.1]; exact atsOk_no (i := k) hlt (by rw [← HX.out, ← HU.out]))
    subst hr
    go_wp2
    obtain rfl : FF = Tryz.f8 := HFF.out
    go_ret
    exact ⟨rfl, HBW.out.trans (HB2.out.mono (by have := HB.out; omega))⟩
  ·obtain rfl : k = n2 := by omega
   have HATS : Hid (atsOk t t.length = true) := by rw [HL.out.2.1]; exact HP.out
   have HSM : Hid (∀ i, i < k → (aat t i).1.size ≤ 1048576 ∧ (aat t i).2.2.size ≤ 1048576) := fun i hi => ⟨(HZ.out.2.2.1 i hi).1, (HZ.out.2.2.1 i hi).2.2⟩
   obtain ⟨q0, q1, q2, q3⟩ := q_cells (HQ.out.of_block (HBR.out.block _ (by omega)))
   go_upto_region 10 with (go_at_call 28; refine (names_any lo hi e a b c n1 c1 k c2 n3 c3 o t f _ (HA.out.below HBR.out (by have := HH.out; omega)) (by have := HH.out; have := HSZR.out; omega) (by omega) HSM.out).mono ?_; rintro e1 w1 ⟨ao, nn, cc, rfl, HNN, HNM, HB1⟩)
   obtain ⟨ns, HNS⟩ : ∃ ns, Hid (ns = nmL t t.length) := ⟨_, rfl⟩
   have HNSk : Hid (nmL t k = ns) := by show _ = _; rw [HNS.out, HL.out.2.1]
   rw [HNSk.out] at HNN HNM
   have HB2 : Hid (Below (B + 1) W w1) := HBR.out.trans (HB1.out.mono HSZR.out)
   have HS1 : Hid (B + 1 ≤ w1.heap.size) := Nat.le_trans HSZR.out HB1.out.size
   have HQ1 : Hid (Blk w1 B 4 (q4 (.bool e) (.slice a n1 c1) (.slice b k c2) (.slice c n3 c3))) := HQ.out.of_block (HB2.out.block _ (by omega))
   have HA1 : Hid (QIn lo hi w1 a b c n1 k n3 (tC o) (aC t) (fC f)) := HA.out.below HB2.out (by have := HH.out; omega)
   have HNL : Hid (nn ≤ 8) := by have h1 := nmL_len t k; rw [HNSk.out, HNN.out] at h1; show nn ≤ 8; omega
   have HFI : Hid (∀ (f0 : Tx) (f1 : Int) (f2 : Tx) (f3 : Int) (w0 : World), Below w1.heap.size w1 w0 → Calls Tryz.prog 29 #[.agg #[.string f0, .int .i64 f1, .string f2, .int .i64 f3], .slice ao nn cc] w0 fun e w' => e = .returned (.bool (flOk ns (f0, f1, f2, f3))) ∧ Hid (Below w0.heap.size w0 w')) := fun f0 f1 f2 f3 w0 h => filterOk_any wr.heap.size w1.heap.size ao nn cc ns f0 f1 f2 f3 w0 (HNM.out.toIn.below h (Nat.le_refl _)) h.size HNN.out (by have := HNL.out; omega)
   have HCH : Hid (∀ (w0 : World), Below w1.heap.size w1 w0 → Calls Tryz.prog 30 #[.slice a n1 c1, .slice ao nn cc] w0 fun e w' => e = .returned (.bool (ousOk ns o n1 && decide (0 < o.length))) ∧ w0 = w') := fun w0 h => chosenOk_any lo hi a n1 c1 o wr.heap.size w1.heap.size ao nn cc ns w0 (HA1.out.1.below h (by have := HH.out; have := HS1.out; omega)) HL.out.1 (by have := HZ.out.1.1; omega) ⟨hcp, hcm⟩ (HNM.out.toIn.below h (Nat.le_refl _)) HNN.out (by have := HNL.out; omega)
   clear HB1 q0 q1 q2 q3 HNM HA HQ HP HNSk
   obtain ⟨q0, q1, q2, q3⟩ := q_cells HQ1.out
   go_wp2
   clear q0 q1 q2 q3
   go_loopw [40] (fun i wr => ∃ m : Nat, i = .int .i64 (m : Int) ∧ m ≤ n3 ∧ Hid (flsOk ns f m = true) ∧ Hid (Below w1.heap.size w1 wr)) (fun i _ => n3 - (intOf i).toNat)
   case atStart => exact ⟨0, rfl, by omega, rfl, Below.refl _ _⟩
   case round =>
    obtain ⟨m, rfl, hm, HPF, HBF⟩ := hrel
    by_cases hlm : m < n3
    ·have hlm1 : (m : Int) < (n3 : Int) := by omega
     have hlm0 : (0 : Int) ≤ (m : Int) := by omega
     obtain ⟨g, og, rfl, _, hgh, hc⟩ := (HA1.out.2.2.below HBF.out (by have := HH.out; have := HS1.out; omega)).at hlm
     obtain ⟨x, HX⟩ : ∃ x, Hid (x = fat f m) := ⟨_, rfl⟩
     have p0 := hc 0 (by omega)
     have p1 := hc 1 (by omega)
     have p2 := hc 2 (by omega)
     have p3 := hc 3 (by omega)
     rw [fC0, ← HX.out] at p0
     rw [fC1, ← HX.out] at p1
     rw [fC2, ← HX.out] at p2
     rw [fC3, ← HX.out] at p3
     simp only [Nat.add_zero] at p0
     rw [← Nat.add_assoc] at p1 p2 p3
     obtain ⟨f0, f1, f2, f3⟩ := x
     dsimp only at p0 p1 p2 p3
     clear hc hgh
     obtain ⟨W4, HW4⟩ : ∃ W4, Hid (W4 = wr.alloc (.cells #[.string f0, .int .i64 f1, .string f2, .int .i64 f3] 53)) := ⟨_, rfl⟩
     obtain ⟨E, HE⟩ : ∃ E, Hid (E = wr.heap.size) := ⟨_, rfl⟩
     have HX4 : Hid (Blk W4 E 4 (q4 (.string f0) (.int .i64 f1) (.string f2) (.int .i64 f3))) := by rw [HW4.out]; exact blk_four wr E HE.out _ _ _ _ _
     have HB4 : Hid (Below w1.heap.size w1 W4) := by rw [HW4.out]; exact HBF.out.trans ((below1 wr _).mono HBF.out.size)
     go_upto_region 13 with fail
     rw [← HE.out]
     first | rw [← HW4.out] | (rw [show _ = W4 from HW4.out.symm])
     clear HW4 p0 p1 p2 p3
     obtain ⟨z0, z1, z2, z3⟩ := q_cells HX4.out
     obtain ⟨u, HU⟩ : ∃ b : Bool, Hid (b = flOk ns (f0, f1, f2, f3)) := ⟨_, rfl⟩
     have HCF : Hid (Calls Tryz.prog 29 #[.agg #[.string f0, .int .i64 f1, .string f2, .int .i64 f3], .slice ao nn cc] W4 fun e w' => e = .returned (.bool u) ∧ Hid (Below W4.heap.size W4 w')) := by rw [HU.out]; exact HFI.out f0 f1 f2 f3 W4 HB4.out
     have HNO : Hid (u = false → r = false) := fun h => by rw [HR.out]; exact qOk_fl (by rw [← HNS.out, HL.out.2.2]; exact flsOk_no (i := m) hlm (by rw [← HX.out, ← HU.out]; exact h))
     have HYES : Hid (u = true → flsOk ns f (m + 1) = true) := fun h => by rw [flsOk_succ, HPF.out, ← HX.out, ← HU.out, h]; rfl
     clear HX HX4 HPF HU
     go_wp2_with fail
     refine HCF.out.mono ?_
     rintro e1 w4 ⟨rfl, HB5⟩
     have HB6 : Hid (Below w1.heap.size w1 w4) := HB4.out.trans (HB5.out.mono HB4.out.size)
     clear HB5 HCF z0 z1 z2 z3
     rcases Bool.eq_false_or_eq_true u with h | h
     ·subst h
      go_wp2
      go_roundw
      case rel => exact ⟨m + 1, by go_num, by omega, HYES.out (by first | rfl | trivial), HB6⟩
      case measure => simp [intOf]; omega
     ·subst h
      have hr : r = false := HNO.out rfl
      subst hr
      have HBE : Hid (Below w.heap.size w w4) := HBW.out.trans ((HB2.out.trans (HB6.out.mono HS1.out)).mono (by have := HB.out; omega))
      go_wp2
      obtain rfl : FF = Tryz.f8 := HFF.out
      go_ret
      exact ⟨rfl, HBE.out⟩
    ·obtain rfl : m = n3 := by omega
     obtain ⟨u, HU⟩ : ∃ b : Bool, Hid (b = (ousOk ns o n1 && decide (0 < o.length))) := ⟨_, rfl⟩
     have HCC : Hid (Calls Tryz.prog 30 #[.slice a n1 c1, .slice ao nn cc] wr fun e w' => e = .returned (.bool u) ∧ wr = w') := by rw [HU.out]; exact HCH.out wr HBF.out
     have HRQ : Hid (r = (decide (nn ≤ 4) && u)) := by
      show _ = _
      rw [HR.out, qOk_impl (by rw [HL.out.2.1, HL.out.2.2]; exact HOKN.out) HATS.out (by rw [← HNS.out, HL.out.2.2]; exact HPF.out), ← HNS.out, HNN.out, HU.out, HL.out.1]
     have HBE : Hid (Below w.heap.size w wr) := HBW.out.trans ((HB2.out.trans (HBF.out.mono HS1.out)).mono (by have := HB.out; omega))
     obtain ⟨q0, q1, q2, q3⟩ := q_cells (HQ1.out.of_block (HBF.out.block _ HQ1.out.lt))
     by_cases h4 : nn ≤ 4
     ·have hr : r = u := by rw [HRQ.out, decide_eq_true h4]; rfl
      subst hr
      have g4 : (nn : Int) ≤ 4 := by omega
      go_wp2_with fail
      refine HCC.out.mono ?_
      rintro e1 w6 ⟨rfl, rfl⟩
      go_wp2
      obtain rfl : FF = Tryz.f8 := HFF.out
      go_ret
      exact ⟨rfl, HBE.out⟩
     ·have hr : r = false := by rw [HRQ.out, decide_eq_false h4]; rfl
      subst hr
      have g4 : ¬ (nn : Int) ≤ 4 := by omega
      go_wp2
      obtain rfl : FF = Tryz.f8 := HFF.out
      go_ret
      exact ⟨rfl, HBE.out⟩
end Go.Proofs.YtbepmeipjdpipaaGreat

namespace Go.Proofs.YtbepmeipjdpipaaGreat
open Go.RowKit
theorem specQueryOk_any (lo hi : Nat) (e : Bool) (a b c : Option Addr) (n1 c1 n2 c2 n3 c3 : Nat) (o : List Tx) (t : List At) (f : List Fl) (r : Bool) (w : World) (ha : QIn lo hi w a b c n1 n2 n3 (tC o) (aC t) (fC f)) (hh : hi ≤ w.heap.size) (hl : o.length = n1 ∧ t.length = n2 ∧ f.length = n3) (hz : QLe 1048576 n1 n2 n3 o t f) (hcap : n1 ≤ c1 ∧ c1 ≤ 9223372036854775807) (hr : r = qOk o t f) :
  Calls Tryz.prog 6 #[qv e a n1 c1 b n2 c2 c n3 c3] w fun e' w' => e' = .returned (.bool r) ∧ Hid (Below w.heap.size w w') := by
 rw [hr]; exact specQueryOk_of specAtom_any lo hi e a b c n1 c1 n2 c2 n3 c3 o t f w ha hh hl hz hcap
theorem implQueryOk_any (lo hi : Nat) (e : Bool) (a b c : Option Addr) (n1 c1 n2 c2 n3 c3 : Nat) (o : List Tx) (t : List At) (f : List Fl) (r : Bool) (w : World) (ha : QIn lo hi w a b c n1 n2 n3 (tC o) (aC t) (fC f)) (hh : hi ≤ w.heap.size) (hl : o.length = n1 ∧ t.length = n2 ∧ f.length = n3) (hz : QLe 1048576 n1 n2 n3 o t f) (hcap : n1 ≤ c1 ∧ c1 ≤ 9223372036854775807) (hr : r = qOk o t f) :
  Calls Tryz.prog 8 #[qv e a n1 c1 b n2 c2 c n3 c3] w fun e' w' => e' = .returned (.bool r) ∧ Hid (Below w.heap.size w w') := by
 rw [hr]; exact implQueryOk_of implAtom_any lo hi e a b c n1 c1 n2 c2 n3 c3 o t f w ha hh hl hz hcap
end Go.Proofs.YtbepmeipjdpipaaGreat

namespace Go.Proofs.YtbepmeipjdpipaaGreat
open Go.RowKit
theorem qOk_in {o : List Tx} {t : List At} {f : List Fl} (h : qOk o t f = true) : ∀ i, i < o.length → tat o i ∈ nmL t t.length := by
 unfold qOk at h
 simp only [Bool.and_eq_true] at h
 intro i hi
 have := List.all_eq_true.1 h.1.1.2 i (List.mem_range.2 hi)
 unfold ouOk at this
 simp only [Bool.and_eq_true] at this
 exact inL_iff.1 this.1
theorem qOk_few {o : List Tx} {t : List At} {f : List Fl} (h : qOk o t f = true) : (nmL t t.length).length ≤ 4 := by
 unfold qOk at h
 simp only [Bool.and_eq_true, decide_eq_true_eq] at h
 exact h.2
def outR (o : List Tx) (t : List At) (f : List Fl) (vs : List Int) : List Int := if qOk o t f = true ∧ vs.length = (nmL t t.length).length then outL (nmL t t.length) vs o else []
theorem outR_no {o : List Tx} {t : List At} {f : List Fl} {vs : List Int} (h : ¬ (qOk o t f = true ∧ vs.length = (nmL t t.length).length)) : outR o t f vs = [] := by unfold outR; rw [if_neg h]
theorem outR_yes {o : List Tx} {t : List At} {f : List Fl} {vs : List Int} (h : qOk o t f = true) (h2 : vs.length = (nmL t t.length).length) : outR o t f vs = outL (nmL t t.length) vs o := by unfold outR; rw [if_pos ⟨h, h2⟩]
def OuPost (R : List Int) (w : World) (e' : Ending) (w' : World) : Prop := ∃ ao nn cc, e' = .returned (.slice ao nn cc) ∧ Hid (R.length = nn) ∧ Hid (RowOwn w.heap.size w'.heap.size w' ao R) ∧ Hid (Below w.heap.size w w')
theorem OuPost.no {R : List Int} {w w2 : World} (h : R = []) (hb : Below w.heap.size w w2) (g : Nat) (T : TypeId) : OuPost R w (.returned (.slice (some ⟨g, 0, none⟩) 0 0)) (w2.alloc (.cells #[] T)) :=
 ⟨_, 0, 0, rfl, by rw [h]; rfl, .inl h, hb.trans ((below1 w2 _).mono hb.size)⟩
theorem outR_len (o : List Tx) (t : List At) (f : List Fl) (vs : List Int) : (outR o t f vs).length ≤ o.length := by
 unfold outR; split
 ·rw [outL_len]; exact Nat.le_refl _
 ·exact Nat.zero_le _
set_option maxHeartbeats 8000000 in
set_option maxRecDepth 100000 in
theorem specOutRow_any (lo hi : Nat) (e : Bool) (a b c : Option Addr) (n1 c1 n2 c2 n3 c3 : Nat) (o : List Tx) (t : List At) (f : List Fl) (vlo vhi : Nat) (va : Option Addr) (vn vc : Nat) (vs : List Int) (w : World) (ha : QIn lo hi w a b c n1 n2 n3 (tC o) (aC t) (fC f)) (hh : hi ≤ w.heap.size) (hl : o.length = n1 ∧ t.length = n2 ∧ f.length = n3) (hz : QLe 1048576 n1 n2 n3 o t f) (hcap : n1 ≤ c1 ∧ c1 ≤ 9223372036854775807)
  (hc : RowIn vlo vhi w va vs) (hh3 : vhi ≤ w.heap.size) (hl3 : vs.length = vn) :
  Calls Tryz.prog 10 #[qv e a n1 c1 b n2 c2 c n3 c3, .slice va vn vc] w (OuPost (outR o t f vs) w) := by
 obtain ⟨B, HB⟩ : ∃ B, Hid (B = w.heap.size) := ⟨_, rfl⟩
 obtain ⟨W, HW⟩ : ∃ W, Hid (W = w.alloc (.cells #[.bool e, .slice a n1 c1, .slice b n2 c2, .slice c n3 c3] 32)) := ⟨_, rfl⟩
 have HBW : Hid (Below w.heap.size w W) := by rw [HW.out]; exact below1 w _
 have HSW : Hid (W.heap.size = B + 1) := by rw [HW.out, HB.out]; show _ = _; simp
 have HQ : Hid (Blk W B 4 (q4 (.bool e) (.slice a n1 c1) (.slice b n2 c2) (.slice c n3 c3))) := by rw [HW.out]; exact blk_four w B HB.out _ _ _ _ _
 have HA : Hid (QIn lo hi W a b c n1 n2 n3 (tC o) (aC t) (fC f)) := ha.below HBW.out hh
 have HVA : Hid (RowIn vlo vhi W va vs) := hc.below HBW.out hh3
 have HH : Hid (hi ≤ B ∧ vhi ≤ B) := by rw [HB.out]; exact ⟨hh, hh3⟩
 have HL : Hid (o.length = n1 ∧ t.length = n2 ∧ f.length = n3) := hl
 have HV : Hid (vs.length = vn) := hl3
 have HZ : Hid (QLe 1048576 n1 n2 n3 o t f) := hz
 clear ha hh hl hz hc hh3 hl3
 go_enter Tryz.func10, Tryz.ntmps10
 obtain ⟨FF, HFF⟩ : ∃ F : Func, Hid (F = Tryz.f10) := ⟨_, rfl⟩
 rw [← HFF.out]
 go_upto_region 1 with fail
 rw [← HB.out]
 first | rw [← HW.out] | (rw [show _ = W from HW.out.symm])
 clear HW
 obtain ⟨q0, q1, q2, q3⟩ := q_cells HQ.out
 go_upto_region 2 with (go_at_call 22; refine (specNames_any lo hi e a b c n1 c1 n2 c2 n3 c3 o t f _ HA.out (by have := HH.out; have := HSW.out; omega) HZ.out.1.2.1).mono ?_; rintro e1 w1 ⟨ao, nn, cc, rfl, HNN, HNM, HB1⟩)
 clear q0 q1 q2 q3
 obtain ⟨ns, HNS⟩ : ∃ ns, Hid (ns = nmL t t.length) := ⟨_, rfl⟩
 rw [show nmL t n2 = ns by rw [HNS.out, HL.out.2.1]] at HNN HNM
 have HS1 : Hid (B + 1 ≤ w1.heap.size) := by rw [← HSW.out]; exact HB1.out.size
 have HQ1 : Hid (Blk w1 B 4 (q4 (.bool e) (.slice a n1 c1) (.slice b n2 c2) (.slice c n3 c3))) := HQ.out.of_block (HB1.out.block _ HQ.out.lt)
 have HB1W : Hid (Below (B + 1) W w1) := HB1.out.mono (by have := HSW.out; omega)
 have HA1 : Hid (QIn lo hi w1 a b c n1 n2 n3 (tC o) (aC t) (fC f)) := HA.out.below HB1W.out (by have := HH.out; omega)
 have HV1 : Hid (RowIn vlo vhi w1 va vs) := HVA.out.below HB1W.out (by have := HH.out; omega)
 have HBT1 : Hid (Below w.heap.size w w1) := HBW.out.trans (HB1W.out.mono (by have := HB.out; omega))
 obtain ⟨u, HU⟩ : ∃ u : Bool, Hid (u = qOk o t f) := ⟨_, rfl⟩
 clear HB1
 obtain ⟨q0, q1, q2, q3⟩ := q_cells HQ1.out
 go_wp2_with fail
 refine (specQueryOk_any lo hi e a b c n1 c1 n2 c2 n3 c3 o t f u _ HA1.out (by have := HH.out; have := HS1.out; omega) HL.out HZ.out hcap HU.out).mono ?_
 rintro e2 w2 ⟨rfl, HB2⟩
 have HBT : Hid (Below w.heap.size w w2) := HBT1.out.trans (HB2.out.mono HBT1.out.size)
 have HS2 : Hid (B + 1 ≤ w2.heap.size) := Nat.le_trans HS1.out HB2.out.size
 clear q0 q1 q2 q3
 rcases Bool.eq_false_or_eq_true u with h | h
 ·subst h
  by_cases hvn : vn = nn
  ·have HRR : Hid (outR o t f vs = outL ns vs o) := by show _ = _; rw [outR_yes HU.out.symm (by rw [HV.out, ← HNS.out, HNN.out, hvn]), ← HNS.out]
   have HNL : Hid (nn ≤ 4) := by have := qOk_few HU.out.symm; rw [← HNS.out, HNN.out] at this; exact this
   have HINS : Hid (∀ i, i < n1 → tat o i ∈ ns) := by rw [HNS.out, ← HL.out.1]; exact qOk_in HU.out.symm
   subst hvn
   obtain ⟨z0, z1, z2, z3⟩ := q_cells (HQ1.out.of_block (HB2.out.block _ HQ1.out.lt))
   have HCO : Hid (Calls Tryz.prog 34 #[qv e a n1 c1 b n2 c2 c n3 c3, .slice ao vn cc, .slice va vn vc] w2 fun e' w' => ∃ ao cc, e' = .returned (.slice ao n1 cc) ∧ Hid (RowOwn w2.heap.size w'.heap.size w' ao (outL ns vs o)) ∧ Hid (Below w2.heap.size w2 w')) := l09Out_any lo hi e a b c n1 c1 n2 c2 n3 c3 o W.heap.size w1.heap.size ao vn cc ns vlo vhi va vn vc vs w2 (HA1.out.1.below HB2.out (by have := HH.out; have := HS1.out; omega)) (by have := HH.out; have := HS2.out; omega) HL.out.1 HZ.out.1.1 (HNM.out.toIn.below HB2.out (Nat.le_refl _)) HB2.out.size HNN.out (by have := HNL.out; omega) (HV1.out.below HB2.out (by have := HH.out; have := HS1.out; omega)) (by have := HH.out; have := HS2.out; omega) HV.out rfl HINS.out
   go_wp2_with fail
   refine HCO.out.mono ?_
   rintro e3 w3 ⟨a3, c3', rfl, HR3, HB3⟩
   have HBE : Hid (Below w.heap.size w w3) := HBT.out.trans (HB3.out.mono HBT.out.size)
   clear z0 z1 z2 z3 HCO
   go_wp2
   obtain rfl : FF = Tryz.f10 := HFF.out
   go_ret
   exact ⟨a3, n1, c3', rfl, by show _ = _; rw [HRR.out, outL_len, HL.out.1], by rw [HRR.out]; exact HR3.out.wide HBT.out.size (Nat.le_refl _), HBE.out⟩
  ·have HRR : Hid (outR o t f vs = []) := outR_no (fun h => hvn (by have := h.2; rw [HV.out, ← HNS.out, HNN.out] at this; exact this))
   have hvi : ¬ (vn : Int) = (nn : Int) := by omega
   go_wp2
   obtain rfl : FF = Tryz.f10 := HFF.out
   go_ret
   exact OuPost.no HRR.out HBT.out _ _
 ·subst h
  have HRR : Hid (outR o t f vs = []) := outR_no (fun h => by rw [← HU.out] at h; exact absurd h.1 (by simp))
  go_wp2
  obtain rfl : FF = Tryz.f10 := HFF.out
  go_ret
  exact OuPost.no HRR.out HBT.out _ _
set_option maxHeartbeats 8000000 in
set_option maxRecDepth 100000 in
theorem implOutRow_any (lo hi : Nat) (e : Bool) (a b c : Option Addr) (n1 c1 n2 c2 n3 c3 : Nat) (o : List Tx) (t : List At) (f : List Fl) (vlo vhi : Nat) (va : Option Addr) (vn vc : Nat) (vs : List Int) (w : World) (ha : QIn lo hi w a b c n1 n2 n3 (tC o) (aC t) (fC f)) (hh : hi ≤ w.heap.size) (hl : o.length = n1 ∧ t.length = n2 ∧ f.length = n3) (hz : QLe 1048576 n1 n2 n3 o t f) (hcap : n1 ≤ c1 ∧ c1 ≤ 9223372036854775807)
  (hc : RowIn vlo vhi w va vs) (hh3 : vhi ≤ w.heap.size) (hl3 : vs.length = vn) :
  Calls Tryz.prog 12 #[qv e a n1 c1 b n2 c2 c n3 c3, .slice va vn vc] w (OuPost (outR o t f vs) w) := by
 obtain ⟨B, HB⟩ : ∃ B, Hid (B = w.heap.size) := ⟨_, rfl⟩
 obtain ⟨W, HW⟩ : ∃ W, Hid (W = w.alloc (.cells #[.bool e, .slice a n1 c1, .slice b n2 c2, .slice c n3 c3] 32)) := ⟨_, rfl⟩
 have HBW : Hid (Below w.heap.size w W) := by rw [HW.out]; exact below1 w _
 have HSW : Hid (W.heap.size = B + 1) := by rw [HW.out, HB.out]; show _ = _; simp
 have HQ : Hid (Blk W B 4 (q4 (.bool e) (.slice a n1 c1) (.slice b n2 c2) (.slice c n3 c3))) := by rw [HW.out]; exact blk_four w B HB.out _ _ _ _ _
 have HA : Hid (QIn lo hi W a b c n1 n2 n3 (tC o) (aC t) (fC f)) := ha.below HBW.out hh
 have HVA : Hid (RowIn vlo vhi W va vs) := hc.below HBW.out hh3
 have HH : Hid (hi ≤ B ∧ vhi ≤ B) := by rw [HB.out]; exact ⟨hh, hh3⟩
 have HL : Hid (o.length = n1 ∧ t.length = n2 ∧ f.length = n3) := hl
 have HV : Hid (vs.length = vn) := hl3
 have HZ : Hid (QLe 1048576 n1 n2 n3 o t f) := hz
 clear ha hh hl hz hc hh3 hl3
 go_enter Tryz.func12, Tryz.ntmps12
 obtain ⟨FF, HFF⟩ : ∃ F : Func, Hid (F = Tryz.f12) := ⟨_, rfl⟩
 rw [← HFF.out]
 go_upto_region 1 with fail
 rw [← HB.out]
 first | rw [← HW.out] | (rw [show _ = W from HW.out.symm])
 clear HW
 obtain ⟨q0, q1, q2, q3⟩ := q_cells HQ.out
 obtain ⟨u, HU⟩ : ∃ u : Bool, Hid (u = qOk o t f) := ⟨_, rfl⟩
 go_wp2_with fail
 refine (implQueryOk_any lo hi e a b c n1 c1 n2 c2 n3 c3 o t f u _ HA.out (by have := HH.out; have := HSW.out; omega) HL.out HZ.out hcap HU.out).mono ?_
 rintro e1 w1 ⟨rfl, HB1⟩
 clear q0 q1 q2 q3
 have HB1W : Hid (Below (B + 1) W w1) := HB1.out.mono (by have := HSW.out; omega)
 have HS1 : Hid (B + 1 ≤ w1.heap.size) := by rw [← HSW.out]; exact HB1.out.size
 have HBT1 : Hid (Below w.heap.size w w1) := HBW.out.trans (HB1W.out.mono (by have := HB.out; omega))
 rcases Bool.eq_false_or_eq_true u with h | h
 rotate_left
 ·subst h
  have HRR : Hid (outR o t f vs = []) := outR_no (fun h => by rw [← HU.out] at h; exact absurd h.1 (by simp))
  go_wp2
  obtain rfl : FF = Tryz.f12 := HFF.out
  go_ret
  exact OuPost.no HRR.out HBT1.out _ _
 subst h
 have HA1 : Hid (QIn lo hi w1 a b c n1 n2 n3 (tC o) (aC t) (fC f)) := HA.out.below HB1W.out (by have := HH.out; omega)
 have HV1 : Hid (RowIn vlo vhi w1 va vs) := HVA.out.below HB1W.out (by have := HH.out; omega)
 have HQ1 : Hid (Blk w1 B 4 (q4 (.bool e) (.slice a n1 c1) (.slice b n2 c2) (.slice c n3 c3))) := HQ.out.of_block (HB1.out.block _ HQ.out.lt)
 have HSM : Hid (∀ i, i < n2 → (aat t i).1.size ≤ 1048576 ∧ (aat t i).2.2.size ≤ 1048576) := fun i hi => ⟨(HZ.out.2.2.1 i hi).1, (HZ.out.2.2.1 i hi).2.2⟩
 obtain ⟨q0, q1, q2, q3⟩ := q_cells HQ1.out
 go_upto_region 4 with (go_at_call 28; refine (names_any lo hi e a b c n1 c1 n2 c2 n3 c3 o t f _ HA1.out (by have := HH.out; have := HS1.out; omega) HZ.out.1.2.1 HSM.out).mono ?_; rintro e1 w2 ⟨ao, nn, cc, rfl, HNN, HNM, HB2⟩)
 clear q0 q1 q2 q3
 obtain ⟨ns, HNS⟩ : ∃ ns, Hid (ns = nmL t t.length) := ⟨_, rfl⟩
 rw [show nmL t n2 = ns by rw [HNS.out, HL.out.2.1]] at HNN HNM
 have HBT : Hid (Below w.heap.size w w2) := HBT1.out.trans (HB2.out.mono HBT1.out.size)
 have HS2 : Hid (B + 1 ≤ w2.heap.size) := Nat.le_trans HS1.out HB2.out.size
 by_cases hvn : vn = nn
 ·have HRR : Hid (outR o t f vs = outL ns vs o) := by show _ = _; rw [outR_yes HU.out.symm (by rw [HV.out, ← HNS.out, HNN.out, hvn]), ← HNS.out]
  have HNL : Hid (nn ≤ 4) := by have := qOk_few HU.out.symm; rw [← HNS.out, HNN.out] at this; exact this
  have HINS : Hid (∀ i, i < n1 → tat o i ∈ ns) := by rw [HNS.out, ← HL.out.1]; exact qOk_in HU.out.symm
  subst hvn
  obtain ⟨z0, z1, z2, z3⟩ := q_cells (HQ1.out.of_block (HB2.out.block _ HQ1.out.lt))
  have HCO : Hid (Calls Tryz.prog 35 #[.agg #[.slice ao vn cc, .slice va vn vc], .slice a n1 c1] w2 fun e' w' => ∃ ao cc, e' = .returned (.slice ao n1 cc) ∧ Hid (RowOwn w2.heap.size w'.heap.size w' ao (outL ns vs o)) ∧ Hid (Below w2.heap.size w2 w')) := nrow_any lo hi a n1 c1 o w1.heap.size w2.heap.size ao vn cc ns vlo vhi va vn vc vs w2 (HA1.out.1.below HB2.out (by have := HH.out; have := HS1.out; omega)) (by have := HH.out; have := HS2.out; omega) HL.out.1 HZ.out.1.1 HNM.out.toIn (Nat.le_refl _) HNN.out (by have := HNL.out; omega) (HV1.out.below HB2.out (by have := HH.out; have := HS1.out; omega)) (by have := HH.out; have := HS2.out; omega) HV.out rfl HINS.out
  go_wp2_with fail
  refine HCO.out.mono ?_
  rintro e3 w3 ⟨a3, c3', rfl, HR3, HB3⟩
  have HBE : Hid (Below w.heap.size w w3) := HBT.out.trans (HB3.out.mono HBT.out.size)
  clear z0 z1 z2 z3 HCO
  go_wp2
  obtain rfl : FF = Tryz.f12 := HFF.out
  go_ret
  exact ⟨a3, n1, c3', rfl, by show _ = _; rw [HRR.out, outL_len, HL.out.1], by rw [HRR.out]; exact HR3.out.wide HBT.out.size (Nat.le_refl _), HBE.out⟩
 ·have HRR : Hid (outR o t f vs = []) := outR_no (fun h => hvn (by have := h.2; rw [HV.out, ← HNS.out, HNN.out] at this; exact this))
  have hvi : ¬ (vn : Int) = (nn : Int) := by omega
  go_wp2
  obtain rfl : FF = Tryz.f12 := HFF.out
  go_ret
  exact OuPost.no HRR.out HBT.out _ _
end Go.Proofs.YtbepmeipjdpipaaGreat

namespace Go.Proofs.YtbepmeipjdpipaaGreat
open Go.RowKit
set_option maxRecDepth 100000 in
theorem heldInts_any (lo hi : Nat) (a : Option Addr) (n cap K : Nat) (w : World) (ha : RowIn lo hi w a (marks K n)) (hm : n ≤ 1048576) (hK : K ≤ 1099511627776) :
  Calls Tryz.prog 16 #[.slice a n cap, .int .i64 (K : Int)] w fun e w' => e = .returned (.int .i64 ((K + n : Nat) : Int)) ∧ w = w' := by
 have HA : Hid (RowIn lo hi w a (marks K n)) := ha
 clear ha
 go_enter Tryz.func16, Tryz.ntmps16
 go_wp2
 go_loop [5, 1] (fun i s => ∃ k : Nat, i = .int .i64 k ∧ s = .int .i64 ((K + k : Nat) : Int) ∧ k ≤ n) (fun i _ => n - (intOf i).toNat)
 case atStart => exact ⟨0, rfl, rfl, by omega⟩
 case round =>
  obtain ⟨k, rfl, rfl, hk⟩ := hrel
  by_cases hlt : k < n
  ·have hlt1 : (k : Int) < (n : Int) := by omega
   obtain ⟨b, o, rfl, h1, h2, hc⟩ : ∃ b o, a = some ⟨b, o, none⟩ ∧ lo ≤ b ∧ b < hi ∧ ∀ i, i < (marks K n).length → w.cell? ⟨b, o + i, none⟩ = some (.int .i64 ((marks K n).getD i 0)) := by
    rcases HA.out with h | h
    ·exact absurd (marks_len K n) (by rw [h]; simp; omega)
    ·exact h
   have hca := hc k (by rw [marks_len]; exact hlt)
   rw [marks_get hlt] at hca
   clear hc h1 h2
   go_wp2
   go_roundw
   case rel => exact ⟨k + 1, by go_num, by go_num, by omega⟩
   case measure => simp [intOf]; omega
  ·obtain rfl : k = n := by omega
   go_wp2
   go_ret
   exact ⟨rfl, rfl⟩
theorem markRow_any (lo hi : Nat) (a : Option Addr) (n cap K : Nat) (l : List Int) (w : World) (ha : RowOwn lo hi w a l) (hn : l.length = n) (hm : n ≤ 1048576) (hK : K ≤ 1099511627776) :
  Calls Tryz.prog 15 #[.slice a n cap, .int .i64 (K : Int)] w fun e w' => e = .returned (.int .i64 ((K + n : Nat) : Int)) ∧ Hid (RowOwn lo hi w' a (marks K n)) ∧ Hid (KeptP (fun c => lo ≤ c ∧ c < hi) w w') :=
 (markInts_any (fun c => lo ≤ c ∧ c < hi) lo hi a n cap K l w ha hn hm hK (fun b hb hne => by
  rcases ha with h | ⟨g, hg, h1, h2, _⟩
  ·exact absurd h hne
  ·rw [hg] at hb
   have : g = b := by simpa using hb
   subst this
   exact ⟨h1, h2⟩)).mono fun _ _ h => ⟨h.1, h.2.1, h.2.2.1⟩
theorem heldRow_any (lo hi : Nat) (a : Option Addr) (n cap K : Nat) (w : World) (ha : RowIn lo hi w a (marks K n)) (hm : n ≤ 1048576) (hK : K ≤ 1099511627776) :
  Calls Tryz.prog 16 #[.slice a n cap, .int .i64 (K : Int)] w fun e w' => e = .returned (.int .i64 ((K + n : Nat) : Int)) ∧ Hid (Below w.heap.size w w') :=
 (heldInts_any lo hi a n cap K w ha hm hK).mono fun _ w' h => ⟨h.1, by rw [← h.2]; exact Below.refl _ _⟩
end Go.Proofs.YtbepmeipjdpipaaGreat
