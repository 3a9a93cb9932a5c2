/-
  impl.NamesOf: names met are kept in a map.
-/
import Derived.Test.YtkcflhlipdnbnaaQyM
namespace Go.Proofs.Ytkcflhlipdnbnaa
open Go.RowKit Go.Maps

/-- the set of names that were met -/
def setS (l : List Tx) : DataW Unit := setOf (.agg []) (l.map fun x => Lit.string x.data.toList)
theorem has_setS (l : List Tx) (x : Tx) : Maps.has (setS l) (.string x.data.toList) = inL x l := by
  unfold setS
  rw [has_setOf _ _ _ (fun y hy => by obtain ⟨_, _, rfl⟩ := List.mem_map.1 hy; trivial), List.any_map]
  unfold inL
  congr 1
  funext y
  show (y.data.toList == x.data.toList) = decide (y = x)
  rw [Bool.eq_iff_iff, beq_iff_eq, decide_eq_true_eq]
  exact ⟨Go.WideShapes.bytes_inj, fun h => by rw [h]⟩
theorem setS_snoc (l : List Tx) (x : Tx) : setS (l ++ [x]) = (setS l).put (.string x.data.toList) (.agg []) := by simp [setS, setOf_snoc]
theorem lawS : Keyed Try.prog 9 := string_keyed Try.underlying9
theorem zeroU (w : World) : (zeroValue 106).run Try.prog w = .ok (.agg #[]) w := by kernel_rfl
theorem own_keptP {w w' : World} {B e n : Nat} {v : Value} {xs : List Value} {p : Nat → Prop} (h : w.ownsRow B e 1 v n xs) (hb : KeptP p w w') (hp : ∀ c, v.ownBlock = some c → ¬ p c) : w'.ownsRow B e 1 v n xs := by
  refine ⟨h.1, ?_⟩
  rcases h.2 with h5 | ⟨g, cap, cur, e, h5, h6, h7⟩
  · exact .inl h5
  · exact .inr ⟨g, cap, cur, e, h5, by rw [hb.block g (Array.getElem?_eq_some_iff.1 h6).1 (hp g (by rw [e]; rfl))]; exact h6, h7⟩
theorem grown_keptP {w w' : World} {r : Option Nat} (h : w.grownBy w' r) : KeptP (fun c => r = some c) w w' := ⟨h.os, h.tape, h.output, h.size, fun k hk hn => h.block k hk (fun e => hn e.symm)⟩

/-- at the head of each round: the names, their set, the two texts at hand -/
structure NI (B g2 : Nat) (x0 x2 : Tx) (W wr : World) (v : Value) (nn : Nat) (l : List Tx) : Prop where
  nm : NamesAt (B + 1) wr v nn l
  off : ∀ c, v.ownBlock = some c → c ≠ B + 2 ∧ c ≠ g2
  mp : wr.ownsMap Try.prog 9 (unitElem (H := Unit)) (B + 2) nn (setS l)
  tx : Blk wr g2 2 (fun i => if i = 0 then .string x0 else .string x2)
  bel : Below (B + 1) W wr
theorem NI.kept {B g2 nn : Nat} {x0 x2 : Tx} {W wr w' : World} {v : Value} {l : List Tx} {p : Nat → Prop} (h : NI B g2 x0 x2 W wr v nn l) (hk : KeptP p wr w') (h1 : ¬ p g2) (h2 : ¬ p (B + 2)) (h3 : ∀ c, v.ownBlock = some c → ¬ p c) (h4 : ∀ c, p c → B + 1 ≤ c) (h5 : B + 1 ≤ wr.heap.size) : NI B g2 x0 x2 W w' v nn l := by
  refine ⟨⟨h.nm.1, own_keptP h.nm.2 hk h3⟩, h.off, ?_, hk.blk h.tx h1, h.bel.trans (hk.to_below h5 h4)⟩
  obtain ⟨es, clock, hb, F, hs, hD⟩ := h.mp
  exact ⟨es, clock, by rw [hk.block (B + 2) (Array.getElem?_eq_some_iff.1 hb).1 h2]; exact hb, F, hs, hD⟩
theorem NI.below {B g2 nn : Nat} {x0 x2 : Tx} {W wr w' : World} {v : Value} {l : List Tx} (h : NI B g2 x0 x2 W wr v nn l) (hb : Below wr.heap.size wr w') (h5 : B + 1 ≤ wr.heap.size) : NI B g2 x0 x2 W w' v nn l :=
  h.kept (p := fun _ => False) (KeptP.of_below hb (fun _ hk _ => hk)) (fun h => h) (fun h => h) (fun _ _ h => h) (fun _ h => h.elim) h5
/-- the names behind the first j texts of an atom -/
def nmj (acc : List Tx) (x0 x2 : Tx) (j : Nat) : List Tx := if j = 0 then acc else if j = 1 then addN acc x0 else addN (addN acc x0) x2
def pickj (x0 x2 : Tx) (j : Nat) : Tx := if j = 0 then x0 else x2
theorem nmj_succ (acc : List Tx) (x0 x2 : Tx) {j : Nat} (h : j < 2) : nmj acc x0 x2 (j + 1) = addN (nmj acc x0 x2 j) (pickj x0 x2 j) := by
  rcases (show j = 0 ∨ j = 1 by omega) with h | h <;> subst h <;> rfl

set_option maxHeartbeats 16000000 in
set_option maxRecDepth 100000 in
theorem names_any (lo hi : Nat) (e : Bool) (a b c : Option Addr) (n1 c1 n2 c2 n3 c3 : Nat) (o : List Tx) (t : List At) (f : List Fl) (w : World) (ha : QIn lo hi w a b c n1 n2 n3 (tC o) (aC t) (fC f)) (hh : hi ≤ w.heap.size) (hz : n2 ≤ 1048576) (hs : ∀ i, i < n2 → (aat t i).1.size ≤ 1048576 ∧ (aat t i).2.2.size ≤ 1048576) :
    Calls Try.prog 22 #[qv e a n1 c1 b n2 c2 c n3 c3] w fun e w' => ∃ ao nn cc, e = .returned (.slice ao nn cc) ∧ Hid ((nmL t n2).length = nn) ∧ Hid (FlOwn 1 w.heap.size w'.heap.size w' ao nn (tC (nmL t n2))) ∧ Hid (Below w.heap.size w w') := by
  obtain ⟨i9, hi9, hz90, hz91, hz92⟩ := info_parts info9s
  have hmm := @run_makeMap Try.prog
  obtain ⟨B, HB⟩ : ∃ B, Hid (B = w.heap.size) := ⟨_, rfl⟩
  obtain ⟨W, HW⟩ : ∃ W, Hid (W = ((w.alloc (.cells #[.bool e, .slice a n1 c1, .slice b n2 c2, .slice c n3 c3] 52)).alloc (.cells #[] 9)).alloc (.map #[] 0)) := ⟨_, rfl⟩
  have HBW : Hid (Below w.heap.size w W) := by rw [HW.out]; exact below3 w _ _ _
  have HSW : Hid (W.heap.size = B + 3) := by rw [HW.out, HB.out]; show _ = _; simp
  have HQ : Hid (Blk W B 4 (q4 (.bool e) (.slice a n1 c1) (.slice b n2 c2) (.slice c n3 c3))) := by rw [HW.out]; exact ((blk_four w B HB.out _ _ _ _ _).alloc _).alloc _
  have HO : Hid (NamesAt (B + 1) W (.slice (some ⟨B + 1, 0, none⟩) 0 0) 0 []) := by
    have h := World.ownsRow_made (w.alloc (.cells #[.bool e, .slice a n1 c1, .slice b n2 c2, .slice c n3 c3] 52)) (base := B + 1) (e := 9) (size := 1) #[] 0 (by rw [HB.out]; simp) (Nat.zero_le _) rfl
    have e1 : (w.alloc (.cells #[.bool e, .slice a n1 c1, .slice b n2 c2, .slice c n3 c3] 52)).heap.size = B + 1 := by rw [HB.out]; simp
    rw [e1] at h
    have h2 := own_below h (below1 _ (.map #[] 0))
    rw [← HW.out] at h2
    exact ⟨rfl, h2⟩
  have HM : Hid (W.ownsMap Try.prog 9 (unitElem (H := Unit)) (B + 2) 0 (setS [])) := by
    have h := World.ownsMap_made (H := Unit) ((w.alloc (.cells #[.bool e, .slice a n1 c1, .slice b n2 c2, .slice c n3 c3] 52)).alloc (.cells #[] 9)) Try.prog 9 (unitElem (H := Unit))
    have e1 : ((w.alloc (.cells #[.bool e, .slice a n1 c1, .slice b n2 c2, .slice c n3 c3] 52)).alloc (.cells #[] 9)).heap.size = B + 2 := by rw [HB.out]; simp
    rw [e1, ← HW.out] at h
    exact h
  have HOF0 : Hid (∀ c, (Value.slice (some ⟨B + 1, 0, none⟩) 0 0).ownBlock = some c → c ≠ B + 2) := fun c hc => by
    have : B + 1 = c := by simpa [Value.ownBlock] using hc
    omega
  have HA : Hid (FlIn 3 lo hi W b n2 (aC t)) := ha.2.1.below HBW.out hh
  have HH : Hid (hi ≤ B) := by rw [HB.out]; exact hh
  have HSZ : Hid (∀ i, i < n2 → (aat t i).1.size ≤ 1048576 ∧ (aat t i).2.2.size ≤ 1048576) := hs
  clear ha hh hs
  go_enter Try.func22, Try.ntmps22
  obtain ⟨FF, HFF⟩ : ∃ F : Func, Hid (F = Try.f22) := ⟨_, rfl⟩
  rw [← HFF.out]
  go_upto_region 2 with fail
  rw [← HB.out]
  first | rw [← HW.out] | (rw [show _ = W from HW.out.symm])
  clear HW hmm
  obtain ⟨q0, q1, q2, q3⟩ := q_cells HQ.out
  go_wp2
  clear q0 q1 q2 q3
  go_loopw [16, 3] (fun i v wr => ∃ (k nn : Nat) (v3 : Value), i = .int .i64 (k : Int) ∧ v3 = v ∧ k ≤ n2 ∧ Hid (NamesAt (B + 1) wr v3 nn (nmL t k)) ∧ Hid (∀ c, v3.ownBlock = some c → c ≠ B + 2) ∧ Hid (wr.ownsMap Try.prog 9 (unitElem (H := Unit)) (B + 2) nn (setS (nmL t k))) ∧ Hid (Below (B + 1) W wr)) (fun i _ _ => n2 - (intOf i).toNat)
  case atStart => exact ⟨0, 0, _, rfl, rfl, by omega, HO, HOF0, HM, Below.refl _ _⟩
  case round =>
    obtain ⟨k, na, v3, rfl, rfl, hk, HNM, HOF, HMP, HBR⟩ := hrel
    have HSR : Hid (B + 3 ≤ wr.heap.size) := by rw [← HSW.out]; exact HBR.out.size
    by_cases hlt : k < n2
    · have hlt1 : (k : Int) < (n2 : Int) := by omega
      have hlt0 : (0 : Int) ≤ (k : Int) := by omega
      obtain ⟨g, og, rfl, _, hgh, hc⟩ := (HA.out.below HBR.out (by have := HH.out; omega)).at hlt
      obtain ⟨x, HX⟩ : ∃ x, Hid (x = aat t k) := ⟨_, rfl⟩
      have p0 := hc 0 (by omega)
      have p1 := hc 1 (by omega)
      have p2 := hc 2 (by omega)
      have hsk := HSZ.out k hlt
      rw [aC0, ← HX.out] at p0
      rw [aC1, ← HX.out] at p1
      rw [aC2, ← HX.out] at p2
      rw [← HX.out] at hsk
      simp only [Nat.add_zero] at p0
      rw [← Nat.add_assoc] at p1 p2
      obtain ⟨x0, x1, x2⟩ := x
      dsimp only at p0 p1 p2 hsk
      have HSK : Hid (x0.size ≤ 1048576 ∧ x2.size ≤ 1048576) := hsk
      clear hc hgh hsk
      obtain ⟨acc, HACC⟩ : ∃ l, Hid (l = nmL t k) := ⟨_, rfl⟩
      have HNX : Hid (nmL t (k + 1) = addN (addN acc x0) x2) := by show _ = _; rw [HACC.out]; show addN (addN _ _) _ = _; rw [← HX.out]
      have hna : na ≤ 2097152 := by have h1 := nmL_len t k; have h2 := HNM.out.1; omega
      rw [← HACC.out] at HNM HMP
      obtain ⟨S, HS⟩ : ∃ S, Hid (S = wr.heap.size) := ⟨_, rfl⟩
      obtain ⟨X, HXX⟩ : ∃ X, Hid (X = (wr.alloc (.cells #[.string x0, .string x1, .string x2] 101)).alloc (.cells #[.string x0, .string x2] 9)) := ⟨_, rfl⟩
      have HBX : Hid (Below wr.heap.size wr X) := by rw [HXX.out]; exact below2 wr _ _
      have HSX : Hid (X.heap.size = S + 2) := by rw [HXX.out, HS.out]; show _ = _; simp
      have HNI : Hid (NI B (S + 1) x0 x2 W X v3 na (nmj acc x0 x2 0)) := by
        have hoff : ∀ c, v3.ownBlock = some c → c ≠ B + 2 ∧ c ≠ S + 1 := fun c hc => ⟨HOF.out c hc, by have := (HNM.out.2.lt c hc).2; have := HS.out; omega⟩
        refine ⟨⟨HNM.out.1, own_below HNM.out.2 HBX.out⟩, hoff, ?_, ?_, HBR.out.trans (HBX.out.mono (by have := HSR.out; omega))⟩
        · obtain ⟨es, clock, hb, F, hs, hD⟩ := HMP.out
          exact ⟨es, clock, by rw [HBX.out.block (B + 2) (Array.getElem?_eq_some_iff.1 hb).1]; exact hb, F, hs, hD⟩
        · rw [HXX.out]
          exact blk_two _ (S + 1) (by rw [HS.out]; simp) _ _ _
      go_upto_region 6 with fail
      rw [← HS.out]
      first | rw [← HXX.out] | (rw [show _ = X from HXX.out.symm])
      have HSB : Hid (B + 3 ≤ S) := by rw [HS.out]; exact HSR.out
      clear HXX p0 p1 p2 HNM HMP HOF HBX HS
      
      go_wp2
      go_loopw [26, 3] (fun i v wr => ∃ (j nn : Nat) (v3 : Value), i = .int .i64 (j : Int) ∧ v3 = v ∧ j ≤ 2 ∧ nn ≤ na + j ∧ Hid (NI B (S + 1) x0 x2 W wr v3 nn (nmj acc x0 x2 j)) ∧ Hid (S + 2 ≤ wr.heap.size)) (fun i _ _ => 2 - (intOf i).toNat)
      case atStart => exact ⟨0, na, _, rfl, rfl, by omega, by omega, HNI, by rw [HSX.out]; exact Nat.le_refl _⟩
      case round =>
        obtain ⟨j, nb, v3, rfl, rfl, hj, hnb, HI, HSZ2⟩ := hrel
        by_cases hj2 : j < 2
        · have hj1 : (j : Int) < 2 := by omega
          have hj0 : (0 : Int) ≤ (j : Int) := by omega
          obtain ⟨y, HY⟩ : ∃ y, Hid (y = pickj x0 x2 j) := ⟨_, rfl⟩
          have py : wr.cell? ⟨S + 1, j, none⟩ = some (.string y) := by
            rw [HI.out.tx.cell (i := j) hj2, HY.out]
            rcases (show j = 0 ∨ j = 1 by omega) with h | h <;> subst h <;> rfl
          have hys : y.size ≤ 1048576 := by
            rw [HY.out]; have := HSK.out
            rcases (show j = 0 ∨ j = 1 by omega) with h | h <;> subst h
            · exact this.1
            · exact this.2
          obtain ⟨l, HL⟩ : ∃ l, Hid (l = nmj acc x0 x2 j) := ⟨_, rfl⟩
          have HNJ : Hid (nmj acc x0 x2 (j + 1) = addN l y) := by show _ = _; rw [nmj_succ _ _ _ hj2, HL.out, HY.out]
          rw [← HL.out] at HI
          obtain ⟨D, HD⟩ : ∃ D, Hid (D = setS l) := ⟨_, rfl⟩
          have hmp : wr.ownsMap Try.prog 9 (unitElem (H := Unit)) (B + 2) nb D := by rw [HD.out]; exact HI.out.mp
          obtain ⟨u, HU⟩ : ∃ u, Hid (u = inL y l) := ⟨_, rfl⟩
          have hhas : Maps.has D (.string y.data.toList) = u := by rw [HD.out, has_setS, HU.out]
          have hkey : keyOf Try.prog 9 (.string y) = some (.string y.data.toList) := Go.WideMaps.keyOf_string_mk Try.underlying9 (by unfold maxLen; omega)
          rcases Bool.eq_false_or_eq_true u with hu | hu
          · subst hu
            have HNO : Hid (addN l y = l) := addN_no HU.out.symm
            go_wp2_with (first | (at_lookup; refine wpList_lookup_own_unit _ rfl _ _ 105 rfl 9 106 lawS Try.underlying105 (zeroU _) (B + 2) nb _ rfl hmp _ _ rfl hkey ?_) | go_in)
            go_roundw
            case rel => exact ⟨j + 1, nb, _, by go_num, rfl, by omega, by omega, by rw [HNJ.out, HNO.out]; exact HI.out.below (below1 wr _) (by have := HSZ2.out; have := HSB.out; omega), by have := HSZ2.out; show _ ≤ _; simp; omega⟩
            case measure => simp [intOf]; omega
          · subst hu
            have HYES : Hid (addN l y = l ++ [y]) := addN_yes HU.out.symm
            have HIA : Hid (NI B (S + 1) x0 x2 W (wr.alloc (.cells #[] 106)) v3 nb l) := HI.out.below (below1 wr _) (by have := HSZ2.out; have := HSB.out; omega)
            go_wp2_with (first | (at_lookup; refine wpList_lookup_own_unit _ rfl _ _ 105 rfl 9 106 lawS Try.underlying105 (zeroU _) (B + 2) nb _ rfl hmp _ _ rfl hkey ?_) | (at_mapUpdate; refine wpList_mapUpdate_own _ rfl _ _ _ 105 rfl 9 106 lawS Try.underlying105 (unitElem (H := Unit)) (B + 2) nb _ rfl (hmp.alloc _) (by unfold maxLen; omega) _ _ _ rfl rfl hkey _ [] unitElem_mk ?_; intro w1 hown1 hgrow1))
            refine (newText_any y _ (by omega)).mono ?_
            rintro e1 w2 ⟨rfl, HB2⟩
            have HK1 : Hid (KeptP (fun c => some (B + 2) = some c) (wr.alloc (.cells #[] 106)) w1) := grown_keptP hgrow1
            have HS1 : Hid (S + 2 ≤ w1.heap.size) := by have h9 := HK1.out.size; have := HSZ2.out; simp at h9; show _ ≤ _; omega
            have HS2 : Hid (S + 2 ≤ w2.heap.size) := by have := HS1.out; have := HB2.out.size; show _ ≤ _; omega
            have HN2 : Hid (w2.ownsRow (B + 1) 9 1 v3 nb (strC l)) := own_below (own_keptP HIA.out.nm.2 HK1.out (fun c hc e => (HIA.out.off c hc).1 (by cases e; rfl))) HB2.out
            have HM2 : Hid (w2.ownsMap Try.prog 9 (unitElem (H := Unit)) (B + 2) (nb + 1) (setS (l ++ [y]))) := by
              have h1 := hown1
              rw [HD.out, ← setS_snoc] at h1
              obtain ⟨es, clock, hb, F, hs, hD⟩ := h1
              exact ⟨es, clock, by rw [HB2.out.block (B + 2) (Array.getElem?_eq_some_iff.1 hb).1]; exact hb, F, hs, hD⟩
            have HT2 : Hid (Blk w2 (S + 1) 2 (fun i => if i = 0 then .string x0 else .string x2)) := by
              have h1 := HK1.out.blk HIA.out.tx (fun e => by have := HSB.out; cases e; omega)
              exact h1.of_block (HB2.out.block _ h1.lt)
            have HB22 : Hid (Below (B + 1) W w2) := (HIA.out.bel.trans (HK1.out.to_below (by have := HSZ2.out; have := HSB.out; simp; omega) (fun c e => by cases e; omega))).trans (HB2.out.mono (by have := HS1.out; have := HSB.out; omega))
            have HVO : Hid (∀ c, v3.ownBlock = some c → c ≠ B + 2 ∧ c ≠ S + 1) := HIA.out.off
            have HLL : Hid (l.length = nb) := HIA.out.nm.1
            clear hown1 hgrow1 HK1 HIA HI HB2 hmp hhas hkey py
            have hown := HN2.out.alloc (.cells #[.string y] 9)
            have hlt9 := HN2.out.lt
            go_wp2_with (at_builtin; refine wpList_append_lies _ rfl (.tmp 41) (.tmp 44) 42 rfl (B + 1) 9 i9 (.string ⟨#[]⟩) 1 16 Try.underlying42 hi9 hz90 hz91 hz92 rfl (by decide) _ nb (strC l) rfl hown ⟨w2.heap.size, 0, none⟩ 1 1 [.string y] rfl rfl (news_new1 w2 (.string y) 9) (by simp [Value.oneCell']) (by decide) (by unfold maxLen; omega) (by omega) (by have := HS2.out; have := HSB.out; simp; omega) _ rfl ?_)
            intro g5 cap5 w6 hown5 hgrow5 hloc5 hg5
            have HNI6 : Hid (NI B (S + 1) x0 x2 W w6 (.slice (some ⟨g5, 0, none⟩) (nb + 1) cap5) (nb + 1) (l ++ [y])) := by
              have hk6 := grown_keptP hgrow5
              refine ⟨⟨by rw [List.length_append, HLL.out]; rfl, by rw [strC_snoc]; exact hown5⟩, ?_, ?_, ?_, ?_⟩
              · intro c hc
                have e5 : g5 = c := by simpa [Value.ownBlock] using hc
                subst e5
                rcases hloc5 with h | h
                · exact HVO.out _ h
                · have := HS2.out; have := HSB.out; omega
              · obtain ⟨es, clock, hb, F, hs, hD⟩ := HM2.out.alloc (.cells #[.string y] 9)
                exact ⟨es, clock, by rw [hk6.block (B + 2) (Array.getElem?_eq_some_iff.1 hb).1 (fun e => (HVO.out _ e).1 rfl)]; exact hb, F, hs, hD⟩
              · exact hk6.blk (HT2.out.alloc _) (fun e => (HVO.out _ e).2 rfl)
              · exact (HB22.out.alloc (by have := HS2.out; have := HSB.out; omega) _).trans (own_grown hgrow5 (fun c hc => (hlt9 c hc).1) (by have := HS2.out; have := HSB.out; simp; omega))
            have HS6 : Hid (S + 2 ≤ w6.heap.size) := by have h9 := hgrow5.size; have := HS2.out; simp at h9; show _ ≤ _; omega
            clear hown hlt9 hown5 hgrow5 hloc5 hg5
            go_wp2
            go_roundw
            case rel => exact ⟨j + 1, nb + 1, _, by go_num, rfl, by omega, by omega, by rw [HNJ.out, HYES.out]; exact HNI6, HS6⟩
            case measure => simp [intOf]; omega
        · obtain rfl : j = 2 := by omega
          have HFIN : Hid (nmj acc x0 x2 2 = nmL t (k + 1)) := by show _ = _; rw [HNX.out]; rfl
          go_wp2
          go_roundw
          case rel => exact ⟨k + 1, nb, _, by go_num, rfl, by omega, by rw [← HFIN.out]; exact HI.out.nm, fun c hc => (HI.out.off c hc).1, by rw [← HFIN.out]; exact HI.out.mp, HI.out.bel⟩
          case measure => simp [intOf]; omega
    · obtain rfl : k = n2 := by omega
      obtain ⟨ao, cc, rfl, hin⟩ := own_texts HNM.out.2 HNM.out.1
      have HIN : Hid (FlOwn 1 (B + 1) wr.heap.size wr ao na (tC (nmL t k))) := hin
      clear hin
      go_wp2
      obtain rfl : FF = Try.f22 := HFF.out
      go_ret
      have hb := HB.out
      exact ⟨ao, na, cc, rfl, HNM.out.1, HIN.out.wide (by omega) (Nat.le_refl _), HBW.out.trans (HBR.out.mono (by omega))⟩
end Go.Proofs.Ytkcflhlipdnbnaa
