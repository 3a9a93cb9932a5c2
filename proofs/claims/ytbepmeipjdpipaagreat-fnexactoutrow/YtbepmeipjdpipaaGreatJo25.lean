import Derived.Test.YtbepmeipjdpipaaGreatJo24
namespace Go.Proofs.YtbepmeipjdpipaaGreat
open Go.RowKit
theorem own_keptPR {w w' : World} {B n : Nat} {v : Value} {xs : List Value} {q : Nat → Prop} (h : w.ownsRow B 3 1 v n xs) (hk : KeptP q w w') (hn : ∀ c, v.ownBlock = some c → ¬ q c) : w'.ownsRow B 3 1 v n xs := by
 refine ⟨h.1, ?_⟩
 rcases h.2 with h2 | ⟨g, cap, cur, rfl, hg, hh, r⟩
 ·exact .inl h2
 ·refine .inr ⟨g, cap, cur, rfl, hg, ?_, r⟩
  rw [hk.block g (Array.getElem?_eq_some_iff.1 hh).1 (hn g rfl)]
  exact hh
theorem RI.kept {B p a : Nat} {s : ByteArray} {w w' : World} {l : List Pc} {f : Bool} {U q : Nat → Prop} (h : RI B p s w a l f U) (hk : KeptP q w w') (hn : ∀ c, pU p U c → ¬ q c) : RI B p s w' a l f U := by
 obtain ⟨v, h1, h2, h3⟩ := h
 exact ⟨v, hk.blk h1 (hn p (.inl rfl)), h2.kept hk (fun c hc => hn c (.inr hc)), h3⟩
theorem Us.frame {w w1 : World} {A C : Nat → Prop} (R : Nat → Prop) (h : Us w A w1 C) : Us w (fun c => A c ∨ R c) w1 (fun c => C c ∨ R c) :=
 ⟨h.1.mono (fun _ hc => .inl hc), fun c hc => hc.elim (fun h1 => (h.2 c h1).imp .inl id) (fun h1 => .inl (.inr h1))⟩
theorem kid_more {g cap n : Nat} {w3 w6 : World} {v : Value} {U : Nat → Prop} {o : Obj} (hg : (w3.alloc o).grownBy w6 v.ownBlock) (hloc : v.ownBlock = some g ∨ g = w3.heap.size + 1) (hUl : ∀ c, U c → c < w3.heap.size) (hne : ∀ c, v.ownBlock = some c → ¬ U c) :
  KeptP (fun c => v.ownBlock = some c) w3 w6 ∧ (∀ c, (Value.slice (some ⟨g, 0, none⟩) (n + 1) cap).ownBlock = some c → ¬ U c) ∧ Us w3 (fun c => U c ∨ v.ownBlock = some c) w6 (fun c => U c ∨ (Value.slice (some ⟨g, 0, none⟩) (n + 1) cap).ownBlock = some c) := by
 have hk : KeptP (fun c => v.ownBlock = some c) w3 w6 := (KeptP.of_below (below1 w3 o) (fun _ hk _ => hk)).trans ⟨hg.os, hg.tape, hg.output, hg.size, fun k hk hn => hg.block k hk (fun e => hn e.symm)⟩
 refine ⟨hk, fun c hc hu => ?_, hk.mono (fun c hc => .inr hc), fun c hc => ?_⟩
 ·have e5 : g = c := by simpa [Value.ownBlock] using hc
  subst e5
  rcases hloc with h | h
  ·exact hne _ h hu
  ·have := hUl _ hu; omega
 ·rcases hc with hc | hc
  ·exact .inl (.inl hc)
  ·have e5 : g = c := by simpa [Value.ownBlock] using hc
   subst e5
   rcases hloc with h | h
   ·exact .inl (.inr h)
   ·right; omega
set_option maxHeartbeats 2000000 in
set_option maxRecDepth 100000 in
theorem row_any (s : ByteArray) (d : Nat) (hd : ∀ d', d = d' + 1 → AltOK s d') (hs : s.size ≤ 20) (B p a : Nat) (l : List Pc) (f : Bool) (U : Nat → Prop) (w : World) (hr : RI B p s w a l f U) (hB : B ≤ w.heap.size) (hl : l.length + 3 * (2 * s.size - a) ≤ 200) (ha : a ≤ s.size) (had : s.size ≤ a + d) :
  Calls Tryz.prog 75 #[.pointer (some ⟨p, 0, none⟩)] w fun e w' => APost s.size B p s w a l f U (rowP (bt s) s.size (altP (bt s) s.size d) a l) e w' := by
 have HD : Hid (∀ (B p a : Nat) (l : List Pc) (f : Bool) (U : Nat → Prop) (w : World), RI B p s w a l f U → B ≤ w.heap.size → l.length + 3 * (2 * s.size - a) ≤ 200 → a ≤ s.size → s.size ≤ a + d → Calls Tryz.prog 87 #[.pointer (some ⟨p, 0, none⟩)] w fun e w' => OPost s.size B p s w a l f U (oneP (bt s) s.size (altP (bt s) s.size d) a l) e w') := fun B p a l f U w h1 h2 h3 h4 h5 => repeated_any s d hd hs B p a l f U w h1 h2 h3 h4 h5
 have HC := HD.out B p a l f U w hr hB hl ha had
 obtain ⟨O, HO⟩ : ∃ O, Hid (O = oneP (bt s) s.size (altP (bt s) s.size d)) := ⟨_, rfl⟩
 obtain ⟨P, HP⟩ : ∃ P, Hid (P = rowP (bt s) s.size (altP (bt s) s.size d) a l) := ⟨_, rfl⟩
 have HPQ : Hid (P = rowK O (bt s) s.size (O a l)) := by show _ = _; rw [HP.out, HO.out]; rfl
 rw [← HO.out] at HD HC
 rw [← HP.out]
 obtain ⟨i3, hi3, hz30, hz31, hz32⟩ := info_parts Tryz.info3
 clear hr hd HP HO
 go_enter Tryz.func75, Tryz.ntmps75
 go_wp2_with fail
 refine HC.mono ?_
 rintro e w1 ⟨k0, a0, l0, f0, U0, rfl, HR0, HU0, HF0, HB0⟩
 obtain ⟨hb1, hb2, hb3, _⟩ := HB0.out
 have hB1 : B ≤ w1.heap.size := by have := HU0.out.1.size; omega
 have hw01 := HU0.out.1.size
 have HBA : Hid (Below w1.heap.size w1 (w1.alloc (.cells #[.int .i64 k0] 3))) := below1 _ _
 have HOW0 : Hid ((w1.alloc (.cells #[.int .i64 k0] 3)).ownsRow B 3 1 (.slice (some ⟨w1.heap.size, 0, none⟩) 1 1) 1 (rowCells [k0])) := own_oneR w1 B (.int .i64 k0) hB1
 have hR0l := HR0.out.lt
 clear HC
 go_wp2
 go_loopw [3] (fun v wr => ∃ (v3 : Value) (ks : List Int) (n a1 : Nat) (l1 : List Pc) (f1 : Bool) (U1 : Nat → Prop) (fu : Nat), v3 = v ∧ Hid (wr.ownsRow B 3 1 v3 n (rowCells ks)) ∧ Hid (∀ c, v3.ownBlock = some c → ¬ pU p U1 c) ∧ Hid (ks.length = n ∧ 1 ≤ n ∧ n ≤ 100) ∧ Hid (RI B p s wr a1 l1 f1 U1) ∧ Hid (Us w (pU p U) wr (fun c => pU p U1 c ∨ v3.ownBlock = some c)) ∧
  Hid ((f1 = true ∧ (f = true ∨ P = none)) ∨ (f = false ∧ f1 = false ∧ P = (rowL O (bt s) fu a1 l1 ks).map (closeP 2))) ∧ Hid (s.size < a1 + fu) ∧ Hid (a ≤ a1 ∧ a1 ≤ 2 * s.size - a ∧ l1.length ≤ l.length + 3 * (a1 - a) ∧ (1 < n → l1.length + 2 ≤ l.length + 3 * (a1 - a)) ∧ n ≤ 1 + (a1 - a))) (fun _ wr => s.size + 1 - atOf wr p)
 case atStart =>
  refine ⟨_, [k0], 1, a0, l0, f0, U0, s.size + 1, rfl, HOW0, ?_, ⟨rfl, by omega, by omega⟩, HR0.out.below HBA.out, ⟨(HU0.out.below HBA.out).1, fun c hc => ?_⟩, ?_, by show _ < _; omega, ⟨hb1, hb2, hb3, fun h => by omega, by omega⟩⟩
  ·intro c hc hu
   have e5 : w1.heap.size = c := by simpa [Value.ownBlock] using hc
   have := hR0l c hu; omega
  ·rcases hc with hc | hc
   ·exact HU0.out.2 c hc
   ·have e5 : w1.heap.size = c := by simpa [Value.ownBlock] using hc
    right; omega
  ·rcases HF0.out with ⟨h1, h2⟩ | ⟨h1, h2, h3⟩
   ·exact .inl ⟨h1, h2.imp id (fun h => by rw [HPQ.out, h]; rfl)⟩
   ·exact .inr ⟨h1, h2, by rw [HPQ.out, h3]; rfl⟩
 case round =>
  obtain ⟨V, rfl⟩ : ∃ V, V = wr := ⟨_, rfl⟩
  obtain ⟨v3, ks, n, a1, l1, f1, U1, fu, rfl, HOW, HNE, HKL, HR1, HU1, HF1, HFU, HB1⟩ := hrel
  obtain ⟨hb1, hb2, hb3, hb4, hb5⟩ := HB1.out
  have HB4 : Hid (1 < n → l1.length + 2 ≤ l.length + 3 * (a1 - a)) := hb4
  have hfu := HFU.out
  have hn1 := HKL.out.2.1
  clear hb4
  obtain ⟨x, HX⟩ : ∃ x, Hid (x = bt s a1) := ⟨_, rfl⟩
  have hx256 : x < 256 := by rw [HX.out]; exact bt_256 _ _
  obtain ⟨c0, c1, _, _⟩ := HR1.out.cells
  have hBV : B ≤ V.heap.size := by have := HU1.out.1.size; omega
  go_wp2_with fail
  refine (next_any p s a1 x V (by omega) c0 c1 HX.out).mono ?_
  rintro e w2 ⟨rfl, HB2⟩
  have HR2 : Hid (RI B p s w2 a1 l1 f1 U1) := HR1.out.below HB2.out
  have HU2 : Hid (Us w (pU p U) w2 (fun c => pU p U1 c ∨ v3.ownBlock = some c)) := HU1.out.below HB2.out
  have HOW2 : Hid (w2.ownsRow B 3 1 v3 n (rowCells ks)) := own_below HOW.out HB2.out
  have hB2 : B ≤ w2.heap.size := Nat.le_trans hBV HB2.out.size
  clear c0 c1
  obtain ⟨r, HRL⟩ : ∃ r, Hid (r = isL (x : Int)) := ⟨_, rfl⟩
  go_wp2_with fail
  refine (isLabel_any (x : Int) r w2 HRL.out).mono ?_
  rintro e w2' ⟨rfl, rfl⟩
  rcases Bool.eq_false_or_eq_true r with hr | hr
  ·subst hr
   have HL : Hid (isLab (bt s a1) = true) := by show isL _ = true; rw [← HX.out, ← HRL.out]
   have HGO : Hid ((isLab (bt s a1) || decide (bt s a1 = 40)) = true) := by show _ = _; rw [HL.out]; rfl
   have hin : a1 < s.size := bt_in (isLab_0 HL.out).1
   obtain ⟨fv, rfl⟩ : ∃ fv, fu = fv + 1 := ⟨fu - 1, by omega⟩
   have hUl := HR2.out.lt
   have HC := HD.out B p a1 l1 f1 U1 w2 HR2.out hB2 (by omega) (by omega) (by omega)
   go_wp2_with fail
   refine HC.mono ?_
   rintro e w3 ⟨k2, a2, l2, f2, U2, rfl, HR3, HU3, HF3, HB3⟩
   clear HC
   have HUS : Hid (Us w2 (pU p U1) w3 (pU p U2)) := HU3.out
   have hb6 := HB3.out.1
   have hb7 := HB3.out.2.1
   have hb8 := HB3.out.2.2.1
   have hb9 := HB3.out.2.2.2 HGO.out
   have HV2 : Hid (∀ c, v3.ownBlock = some c → c < w2.heap.size) := fun c hc => (HOW2.out.lt c hc).2
   have HOW3 : Hid (w3.ownsRow B 3 1 v3 n (rowCells ks)) := own_keptPR HOW2.out HUS.out.1 HNE.out
   have HNE3 : Hid (∀ c, v3.ownBlock = some c → ¬ pU p U2 c) := fun c hc hu => (HUS.out.2 c hu).elim (HNE.out c hc) (fun h => by have := HV2.out c hc; omega)
   have HUV : Hid (Us w (pU p U) w3 (fun c => pU p U2 c ∨ v3.ownBlock = some c)) := HU2.out.trans (HUS.out.frame _)
   have hB3 : B ≤ w3.heap.size := by have := HUS.out.1.size; omega
   have hown := HOW3.out.alloc (.cells #[.int .i64 k2] 3)
   have hn100 : n ≤ 1000 := by have := HKL.out.2.2; omega
   go_wp2_with (at_builtin; refine wpList_append_lies _ rfl (.tmp 15) (.tmp 18) 36 rfl B 3 i3 (.int .i64 0) 1 8 Tryz.underlying36 hi3 hz30 hz31 hz32 rfl (by decide) _ n (rowCells ks) rfl hown ⟨w3.heap.size, 0, none⟩ 1 1 [.int .i64 k2] rfl rfl (cell_one_new' w3 (.int .i64 k2) 3) (by simp [Value.oneCell']) (by decide) (by unfold maxLen; omega) (by omega) (by simp; omega) _ rfl ?_)
   intro g5 cap5 w6 hown5 hgrow5 hloc5 hg5
   obtain ⟨hk1, hk2, hk3⟩ := kid_more (n := n) (cap := cap5) (U := pU p U2) hgrow5 (hloc5.imp id (fun h => by simpa using h)) HR3.out.lt HNE3.out
   have HR6 : Hid (RI B p s w6 a2 l2 f2 U2) := HR3.out.kept hk1 (fun c hc e => HNE3.out c e hc)
   have HU6 : Hid (Us w (pU p U) w6 (fun c => pU p U2 c ∨ (Value.slice (some ⟨g5, 0, none⟩) (n + 1) cap5).ownBlock = some c)) := HUV.out.trans hk3
   have HN6 : Hid (∀ c, (Value.slice (some ⟨g5, 0, none⟩) (n + 1) cap5).ownBlock = some c → ¬ pU p U2 c) := hk2
   have HO6 : Hid (w6.ownsRow B 3 1 (.slice (some ⟨g5, 0, none⟩) (n + 1) cap5) (n + 1) (rowCells (ks ++ [k2]))) := by rw [rowCells_snoc]; exact hown5
   have HF6 : Hid ((f2 = true ∧ (f = true ∨ P = none)) ∨ (f = false ∧ f2 = false ∧ P = (rowL O (bt s) fv a2 l2 (ks ++ [k2])).map (closeP 2))) := by
    rcases HF1.out with ⟨h1, h2⟩ | ⟨h1, h2, h3⟩
    ·rcases HF3.out with ⟨h4, _⟩ | ⟨h4, _, _⟩
     ·exact .inl ⟨h4, h2⟩
     ·rw [h1] at h4; cases h4
    ·rcases HF3.out with ⟨h4, h5 | h5⟩ | ⟨h4, h5, h6⟩
     ·rw [h2] at h5; cases h5
     ·exact .inl ⟨h4, .inr (by rw [h3, rowL_none HGO.out h5]; rfl)⟩
     ·exact .inr ⟨h1, h5, by rw [h3, rowL_go HGO.out h6]⟩
   clear hown hown5 hgrow5 hloc5 hg5 hk1 hk2 hk3 hUl
   go_wp2
   go_roundw
   case rel => exact ⟨_, ks ++ [k2], n + 1, a2, l2, f2, U2, fv, rfl, HO6, HN6, ⟨by rw [List.length_append, HKL.out.1]; rfl, by omega, by omega⟩, HR6, HU6, HF6, by show _ < _; omega, ⟨by omega, by omega, by omega, fun _ => by omega, by omega⟩⟩
   case measure =>
    have e1 := HR1.out.atOf
    have e2 := HR6.out.atOf
    first | (rw [e1, e2]; omega) | (simp only [e1, e2]; omega) | omega
  ·subst hr
   have HL : Hid (isLab (bt s a1) = false) := by show isL _ = false; rw [← HX.out, ← HRL.out]
   obtain ⟨c0, c1, _, _⟩ := HR2.out.cells
   go_wp2_with fail
   refine (next_any p s a1 x w2 (by omega) c0 c1 HX.out).mono ?_
   rintro e w4 ⟨rfl, HB4X⟩
   have HR4 : Hid (RI B p s w4 a1 l1 f1 U1) := HR2.out.below HB4X.out
   have HU4 : Hid (Us w (pU p U) w4 (fun c => pU p U1 c ∨ v3.ownBlock = some c)) := HU2.out.below HB4X.out
   have HOW4 : Hid (w4.ownsRow B 3 1 v3 n (rowCells ks)) := own_below HOW2.out HB4X.out
   have hB4 : B ≤ w4.heap.size := Nat.le_trans hB2 HB4X.out.size
   clear c0 c1
   by_cases h40 : x = 40
   ·subst h40
    have HGO : Hid ((isLab (bt s a1) || decide (bt s a1 = 40)) = true) := by show _ = _; rw [← HX.out]; simp
    have hin : a1 < s.size := bt_in (by rw [← HX.out]; omega)
    obtain ⟨fv, rfl⟩ : ∃ fv, fu = fv + 1 := ⟨fu - 1, by omega⟩
    have hUl := HR4.out.lt
    have HC := HD.out B p a1 l1 f1 U1 w4 HR4.out hB4 (by omega) (by omega) (by omega)
    go_wp2_with fail
    refine HC.mono ?_
    rintro e w3 ⟨k2, a2, l2, f2, U2, rfl, HR3, HU3, HF3, HB3⟩
    clear HC
    have HUS : Hid (Us w4 (pU p U1) w3 (pU p U2)) := HU3.out
    have hb6 := HB3.out.1
    have hb7 := HB3.out.2.1
    have hb8 := HB3.out.2.2.1
    have hb9 := HB3.out.2.2.2 HGO.out
    have HV2 : Hid (∀ c, v3.ownBlock = some c → c < w4.heap.size) := fun c hc => (HOW4.out.lt c hc).2
    have HOW3 : Hid (w3.ownsRow B 3 1 v3 n (rowCells ks)) := own_keptPR HOW4.out HUS.out.1 HNE.out
    have HNE3 : Hid (∀ c, v3.ownBlock = some c → ¬ pU p U2 c) := fun c hc hu => (HUS.out.2 c hu).elim (HNE.out c hc) (fun h => by have := HV2.out c hc; omega)
    have HUV : Hid (Us w (pU p U) w3 (fun c => pU p U2 c ∨ v3.ownBlock = some c)) := HU4.out.trans (HUS.out.frame _)
    have hB3 : B ≤ w3.heap.size := by have := HUS.out.1.size; omega
    have hown := HOW3.out.alloc (.cells #[.int .i64 k2] 3)
    have hn100 : n ≤ 1000 := by have := HKL.out.2.2; omega
    go_wp2_with (at_builtin; refine wpList_append_lies _ rfl (.tmp 15) (.tmp 18) 36 rfl B 3 i3 (.int .i64 0) 1 8 Tryz.underlying36 hi3 hz30 hz31 hz32 rfl (by decide) _ n (rowCells ks) rfl hown ⟨w3.heap.size, 0, none⟩ 1 1 [.int .i64 k2] rfl rfl (cell_one_new' w3 (.int .i64 k2) 3) (by simp [Value.oneCell']) (by decide) (by unfold maxLen; omega) (by omega) (by simp; omega) _ rfl ?_)
    intro g5 cap5 w6 hown5 hgrow5 hloc5 hg5
    obtain ⟨hk1, hk2, hk3⟩ := kid_more (n := n) (cap := cap5) (U := pU p U2) hgrow5 (hloc5.imp id (fun h => by simpa using h)) HR3.out.lt HNE3.out
    have HR6 : Hid (RI B p s w6 a2 l2 f2 U2) := HR3.out.kept hk1 (fun c hc e => HNE3.out c e hc)
    have HU6 : Hid (Us w (pU p U) w6 (fun c => pU p U2 c ∨ (Value.slice (some ⟨g5, 0, none⟩) (n + 1) cap5).ownBlock = some c)) := HUV.out.trans hk3
    have HN6 : Hid (∀ c, (Value.slice (some ⟨g5, 0, none⟩) (n + 1) cap5).ownBlock = some c → ¬ pU p U2 c) := hk2
    have HO6 : Hid (w6.ownsRow B 3 1 (.slice (some ⟨g5, 0, none⟩) (n + 1) cap5) (n + 1) (rowCells (ks ++ [k2]))) := by rw [rowCells_snoc]; exact hown5
    have HF6 : Hid ((f2 = true ∧ (f = true ∨ P = none)) ∨ (f = false ∧ f2 = false ∧ P = (rowL O (bt s) fv a2 l2 (ks ++ [k2])).map (closeP 2))) := by
     rcases HF1.out with ⟨h1, h2⟩ | ⟨h1, h2, h3⟩
     ·rcases HF3.out with ⟨h4, _⟩ | ⟨h4, _, _⟩
      ·exact .inl ⟨h4, h2⟩
      ·rw [h1] at h4; cases h4
     ·rcases HF3.out with ⟨h4, h5 | h5⟩ | ⟨h4, h5, h6⟩
      ·rw [h2] at h5; cases h5
      ·exact .inl ⟨h4, .inr (by rw [h3, rowL_none HGO.out h5]; rfl)⟩
      ·exact .inr ⟨h1, h5, by rw [h3, rowL_go HGO.out h6]⟩
    clear hown hown5 hgrow5 hloc5 hg5 hk1 hk2 hk3 hUl
    go_wp2
    go_roundw
    case rel => exact ⟨_, ks ++ [k2], n + 1, a2, l2, f2, U2, fv, rfl, HO6, HN6, ⟨by rw [List.length_append, HKL.out.1]; rfl, by omega, by omega⟩, HR6, HU6, HF6, by show _ < _; omega, ⟨by omega, by omega, by omega, fun _ => by omega, by omega⟩⟩
    case measure =>
     have e1 := HR1.out.atOf
     have e2 := HR6.out.atOf
     first | (rw [e1, e2]; omega) | (simp only [e1, e2]; omega) | omega
   ·have hy : ¬ (x : Int) = 40 := by omega
    have hyd : decide ((x : Int) = 40) = false := by simp; omega
    have HST : Hid ((isLab (bt s a1) || decide (bt s a1 = 40)) = false) := by show _ = _; rw [HL.out, ← HX.out]; simp [h40]
    have HEN : Hid (rowL O (bt s) fu a1 l1 ks = some (a1, l1, ks)) := rowL_end HST.out
    rw [HEN.out] at HF1
    go_wp2_with fail
    refine (addAll_any B p s a1 l1 f1 U1 2 v3 n ks _ HR4.out hB4 (by omega) HOW4.out HKL.out.1 hn1 HNE.out).mono ?_
    rintro e w5 ⟨k5, l5, U5, rfl, HCL, HR5, HU5, HL5⟩
    have h51 := HL5.out.1
    have h52 := HL5.out.2
    go_wp2
    go_ret
    refine ⟨k5, a1, l5, f1, U5, rfl, HR5, HU4.out.trans HU5.out, ?_, ?_⟩
    ·rcases HF1.out with h | ⟨h1, h2, h3⟩
     ·exact .inl h
     ·exact .inr ⟨h1, h2, by rw [h3, ← HCL.out]; rfl⟩
    ·show _ ∧ _
     refine ⟨hb1, hb2, ?_⟩
     by_cases e : n = 1
     ·rw [h52 e]; exact hb3
     ·have := HB4.out (by omega); omega
set_option maxHeartbeats 2000000 in
set_option maxRecDepth 100000 in
theorem alternatives_any (s : ByteArray) (d : Nat) (hd : ∀ d', d = d' + 1 → AltOK s d') (hs : s.size ≤ 20) (B p a : Nat) (l : List Pc) (f : Bool) (U : Nat → Prop) (w : World) (hr : RI B p s w a l f U) (hB : B ≤ w.heap.size) (hl : l.length + 3 * (2 * s.size - a) ≤ 200) (ha : a ≤ s.size) (had : s.size ≤ a + d) :
  Calls Tryz.prog 61 #[.pointer (some ⟨p, 0, none⟩)] w fun e w' => APost s.size B p s w a l f U (altP (bt s) s.size (d + 1) a l) e w' := by
 have HD : Hid (∀ (B p a : Nat) (l : List Pc) (f : Bool) (U : Nat → Prop) (w : World), RI B p s w a l f U → B ≤ w.heap.size → l.length + 3 * (2 * s.size - a) ≤ 200 → a ≤ s.size → s.size ≤ a + d → Calls Tryz.prog 75 #[.pointer (some ⟨p, 0, none⟩)] w fun e w' => APost s.size B p s w a l f U (rowP (bt s) s.size (altP (bt s) s.size d) a l) e w') := fun B p a l f U w h1 h2 h3 h4 h5 => row_any s d hd hs B p a l f U w h1 h2 h3 h4 h5
 have HC := HD.out B p a l f U w hr hB hl ha had
 obtain ⟨O, HO⟩ : ∃ O, Hid (O = rowP (bt s) s.size (altP (bt s) s.size d)) := ⟨_, rfl⟩
 obtain ⟨P, HP⟩ : ∃ P, Hid (P = altP (bt s) s.size (d + 1) a l) := ⟨_, rfl⟩
 have HPQ : Hid (P = altK O (bt s) s.size (O a l)) := by show _ = _; rw [HP.out, HO.out]; rfl
 rw [← HO.out] at HD HC
 rw [← HP.out]
 obtain ⟨i3, hi3, hz30, hz31, hz32⟩ := info_parts Tryz.info3
 clear hr hd HP HO
 go_enter Tryz.func61, Tryz.ntmps61
 go_wp2_with fail
 refine HC.mono ?_
 rintro e w1 ⟨k0, a0, l0, f0, U0, rfl, HR0, HU0, HF0, HB0⟩
 obtain ⟨hb1, hb2, hb3⟩ := HB0.out
 have hB1 : B ≤ w1.heap.size := by have := HU0.out.1.size; omega
 have hw01 := HU0.out.1.size
 have HBA : Hid (Below w1.heap.size w1 (w1.alloc (.cells #[.int .i64 k0] 3))) := below1 _ _
 have HOW0 : Hid ((w1.alloc (.cells #[.int .i64 k0] 3)).ownsRow B 3 1 (.slice (some ⟨w1.heap.size, 0, none⟩) 1 1) 1 (rowCells [k0])) := own_oneR w1 B (.int .i64 k0) hB1
 have hR0l := HR0.out.lt
 clear HC
 go_wp2
 go_loopw [3] (fun v wr => ∃ (v3 : Value) (ks : List Int) (n a1 : Nat) (l1 : List Pc) (f1 : Bool) (U1 : Nat → Prop) (fu : Nat), v3 = v ∧ Hid (wr.ownsRow B 3 1 v3 n (rowCells ks)) ∧ Hid (∀ c, v3.ownBlock = some c → ¬ pU p U1 c) ∧ Hid (ks.length = n ∧ 1 ≤ n ∧ n ≤ 100) ∧ Hid (RI B p s wr a1 l1 f1 U1) ∧ Hid (Us w (pU p U) wr (fun c => pU p U1 c ∨ v3.ownBlock = some c)) ∧
  Hid ((f1 = true ∧ (f = true ∨ P = none)) ∨ (f = false ∧ f1 = false ∧ P = (altL O (bt s) fu a1 l1 ks).map (closeP 3))) ∧ Hid (s.size < a1 + fu) ∧ Hid (a ≤ a1 ∧ a1 ≤ 2 * s.size - a ∧ l1.length ≤ l.length + 3 * (a1 - a) ∧ (1 < n → l1.length + 3 ≤ l.length + 3 * (a1 - a)) ∧ n ≤ 1 + (a1 - a))) (fun _ wr => s.size + 1 - atOf wr p)
 case atStart =>
  refine ⟨_, [k0], 1, a0, l0, f0, U0, s.size + 1, rfl, HOW0, ?_, ⟨rfl, by omega, by omega⟩, HR0.out.below HBA.out, ⟨(HU0.out.below HBA.out).1, fun c hc => ?_⟩, ?_, by show _ < _; omega, ⟨hb1, hb2, hb3, fun h => by omega, by omega⟩⟩
  ·intro c hc hu
   have e5 : w1.heap.size = c := by simpa [Value.ownBlock] using hc
   have := hR0l c hu; omega
  ·rcases hc with hc | hc
   ·exact HU0.out.2 c hc
   ·have e5 : w1.heap.size = c := by simpa [Value.ownBlock] using hc
    right; omega
  ·rcases HF0.out with ⟨h1, h2⟩ | ⟨h1, h2, h3⟩
   ·exact .inl ⟨h1, h2.imp id (fun h => by rw [HPQ.out, h]; rfl)⟩
   ·exact .inr ⟨h1, h2, by rw [HPQ.out, h3]; rfl⟩
 case round =>
  obtain ⟨V, rfl⟩ : ∃ V, V = wr := ⟨_, rfl⟩
  obtain ⟨v3, ks, n, a1, l1, f1, U1, fu, rfl, HOW, HNE, HKL, HR1, HU1, HF1, HFU, HB1⟩ := hrel
  obtain ⟨hb1, hb2, hb3, hb4, hb5⟩ := HB1.out
  have HB4 : Hid (1 < n → l1.length + 3 ≤ l.length + 3 * (a1 - a)) := hb4
  have hfu := HFU.out
  have hn1 := HKL.out.2.1
  clear hb4
  obtain ⟨x, HX⟩ : ∃ x, Hid (x = bt s a1) := ⟨_, rfl⟩
  have hx256 : x < 256 := by rw [HX.out]; exact bt_256 _ _
  obtain ⟨c0, c1, _, _⟩ := HR1.out.cells
  have hBV : B ≤ V.heap.size := by have := HU1.out.1.size; omega
  go_wp2_with fail
  refine (next_any p s a1 x V (by omega) c0 c1 HX.out).mono ?_
  rintro e w2 ⟨rfl, HB2⟩
  have HR2 : Hid (RI B p s w2 a1 l1 f1 U1) := HR1.out.below HB2.out
  have HU2 : Hid (Us w (pU p U) w2 (fun c => pU p U1 c ∨ v3.ownBlock = some c)) := HU1.out.below HB2.out
  have HOW2 : Hid (w2.ownsRow B 3 1 v3 n (rowCells ks)) := own_below HOW.out HB2.out
  have hB2 : B ≤ w2.heap.size := Nat.le_trans hBV HB2.out.size
  clear c0 c1
  by_cases h124 : x = 124
  ·subst h124
   have HGO : Hid (bt s a1 = 124) := HX.out.symm
   have hin : a1 < s.size := bt_in (by rw [← HX.out]; omega)
   obtain ⟨fv, rfl⟩ : ∃ fv, fu = fv + 1 := ⟨fu - 1, by omega⟩
   have hUl := HR2.out.lt
   obtain ⟨c0, c1, _, cf⟩ := HR2.out.cells
   have fz1 := cf 1
   have HRS : Hid (RI B p s (w2.setCell ⟨p, 1, none⟩ (.int .i64 ((a1 : Int) + 1))) (a1 + 1) l1 f1 U1) := HR2.out.step
   have HC := HD.out B p (a1 + 1) l1 f1 U1 _ HRS.out (by simpa using hB2) (by omega) (by omega) (by omega)
   go_wp2_with fail
   refine HC.mono ?_
   rintro e w3 ⟨k2, a2, l2, f2, U2, rfl, HR3, HU3, HF3, HB3⟩
   clear HC
   have HUS : Hid (Us w2 (pU p U1) w3 (pU p U2)) := (us_set _).trans HU3.out
   clear c0 c1 cf fz1
   have hb6 := HB3.out.1
   have hb7 := HB3.out.2.1
   have hb8 := HB3.out.2.2
   have HV2 : Hid (∀ c, v3.ownBlock = some c → c < w2.heap.size) := fun c hc => (HOW2.out.lt c hc).2
   have HOW3 : Hid (w3.ownsRow B 3 1 v3 n (rowCells ks)) := own_keptPR HOW2.out HUS.out.1 HNE.out
   have HNE3 : Hid (∀ c, v3.ownBlock = some c → ¬ pU p U2 c) := fun c hc hu => (HUS.out.2 c hu).elim (HNE.out c hc) (fun h => by have := HV2.out c hc; omega)
   have HUV : Hid (Us w (pU p U) w3 (fun c => pU p U2 c ∨ v3.ownBlock = some c)) := HU2.out.trans (HUS.out.frame _)
   have hB3 : B ≤ w3.heap.size := by have := HUS.out.1.size; omega
   have hown := HOW3.out.alloc (.cells #[.int .i64 k2] 3)
   have hn100 : n ≤ 1000 := by have := HKL.out.2.2; omega
   go_wp2_with (at_builtin; refine wpList_append_lies _ rfl (.tmp 17) (.tmp 20) 36 rfl B 3 i3 (.int .i64 0) 1 8 Tryz.underlying36 hi3 hz30 hz31 hz32 rfl (by decide) _ n (rowCells ks) rfl hown ⟨w3.heap.size, 0, none⟩ 1 1 [.int .i64 k2] rfl rfl (cell_one_new' w3 (.int .i64 k2) 3) (by simp [Value.oneCell']) (by decide) (by unfold maxLen; omega) (by omega) (by simp; omega) _ rfl ?_)
   intro g5 cap5 w6 hown5 hgrow5 hloc5 hg5
   obtain ⟨hk1, hk2, hk3⟩ := kid_more (n := n) (cap := cap5) (U := pU p U2) hgrow5 (hloc5.imp id (fun h => by simpa using h)) HR3.out.lt HNE3.out
   have HR6 : Hid (RI B p s w6 a2 l2 f2 U2) := HR3.out.kept hk1 (fun c hc e => HNE3.out c e hc)
   have HU6 : Hid (Us w (pU p U) w6 (fun c => pU p U2 c ∨ (Value.slice (some ⟨g5, 0, none⟩) (n + 1) cap5).ownBlock = some c)) := HUV.out.trans hk3
   have HN6 : Hid (∀ c, (Value.slice (some ⟨g5, 0, none⟩) (n + 1) cap5).ownBlock = some c → ¬ pU p U2 c) := hk2
   have HO6 : Hid (w6.ownsRow B 3 1 (.slice (some ⟨g5, 0, none⟩) (n + 1) cap5) (n + 1) (rowCells (ks ++ [k2]))) := by rw [rowCells_snoc]; exact hown5
   have HF6 : Hid ((f2 = true ∧ (f = true ∨ P = none)) ∨ (f = false ∧ f2 = false ∧ P = (altL O (bt s) fv a2 l2 (ks ++ [k2])).map (closeP 3))) := by
    rcases HF1.out with ⟨h1, h2⟩ | ⟨h1, h2, h3⟩
    ·rcases HF3.out with ⟨h4, _⟩ | ⟨h4, _, _⟩
     ·exact .inl ⟨h4, h2⟩
     ·rw [h1] at h4; cases h4
    ·rcases HF3.out with ⟨h4, h5 | h5⟩ | ⟨h4, h5, h6⟩
     ·rw [h2] at h5; cases h5
     ·exact .inl ⟨h4, .inr (by rw [h3, altL_none HGO.out h5]; rfl)⟩
     ·exact .inr ⟨h1, h5, by rw [h3, altL_go HGO.out h6]⟩
   clear hown hown5 hgrow5 hloc5 hg5 hk1 hk2 hk3 hUl
   go_wp2
   go_roundw
   case rel => exact ⟨_, ks ++ [k2], n + 1, a2, l2, f2, U2, fv, rfl, HO6, HN6, ⟨by rw [List.length_append, HKL.out.1]; rfl, by omega, by omega⟩, HR6, HU6, HF6, by show _ < _; omega, ⟨by omega, by omega, by omega, fun _ => by omega, by omega⟩⟩
   case measure =>
    have e1 := HR1.out.atOf
    have e2 := HR6.out.atOf
    first | (rw [e1, e2]; omega) | (simp only [e1, e2]; omega) | omega
  ·have hy : ¬ (x : Int) = 124 := by omega
   have hyd : decide ((x : Int) = 124) = false := by simp; omega
   have HST : Hid (bt s a1 ≠ 124) := by show _ ≠ _; rw [← HX.out]; exact h124
   have HEN : Hid (altL O (bt s) fu a1 l1 ks = some (a1, l1, ks)) := altL_end HST.out
   rw [HEN.out] at HF1
   go_wp2_with fail
   refine (addAll_any B p s a1 l1 f1 U1 3 v3 n ks _ HR2.out hB2 (by omega) HOW2.out HKL.out.1 hn1 HNE.out).mono ?_
   rintro e w5 ⟨k5, l5, U5, rfl, HCL, HR5, HU5, HL5⟩
   have h51 := HL5.out.1
   have h52 := HL5.out.2
   go_wp2
   go_ret
   refine ⟨k5, a1, l5, f1, U5, rfl, HR5, HU2.out.trans HU5.out, ?_, ?_⟩
   ·rcases HF1.out with h | ⟨h1, h2, h3⟩
    ·exact .inl h
    ·exact .inr ⟨h1, h2, by rw [h3, ← HCL.out]; rfl⟩
   ·show _ ∧ _
    refine ⟨hb1, hb2, ?_⟩
    by_cases e : n = 1
    ·rw [h52 e]; exact hb3
    ·have := HB4.out (by omega); omega
theorem altOK (s : ByteArray) (hs : s.size ≤ 20) (d : Nat) : AltOK s d := by
 induction d with
 | zero => exact fun B p a l f U w h1 h2 h3 h4 h5 => alternatives_any s 0 (fun d' h => absurd h (by omega)) hs B p a l f U w h1 h2 h3 h4 h5
 | succ d ih =>
  refine fun B p a l f U w h1 h2 h3 h4 h5 => alternatives_any s (d + 1) (fun d' h => ?_) hs B p a l f U w h1 h2 h3 h4 h5
  have e : d = d' := by omega
  subst e
  exact ih
end Go.Proofs.YtbepmeipjdpipaaGreat

namespace Go.Proofs.YtbepmeipjdpipaaGreat
open Go.RowKit
theorem RS.kept {B p a : Nat} {s : ByteArray} {w w' : World} {l : List Pc} {f : Bool} {U q : Nat → Prop} (h : RS B p s w a l f U) (hk : KeptP q w w') (hn : ∀ c, pU p U c → ¬ q c) : RS B p s w' a l f U := by
 obtain ⟨v, h1, h2, h3⟩ := h
 exact ⟨v, hk.blk h1 (hn p (.inl rfl)), h2.kept hk (fun c hc => hn c (.inr hc)), h3⟩
def BadP (s : ByteArray) (f : Bool) (P : Option St) : Prop := f = true ∨ P = none ∨ ∃ x, P = some x ∧ ¬ okStop s x.1
theorem closeP_at (op : Int) (x : Nat × List Pc × List Int) : (closeP op x).1 = x.1 := by unfold closeP; split <;> rfl
theorem lab_not {s : ByteArray} {a : Nat} (h : (isLab (bt s a) || decide (bt s a = 40)) = false) {N : Nat} {A : Nat → List Pc → Option St} {l : List Pc} : oneP (bt s) N A a l = none := by
 simp only [Bool.or_eq_false_iff, decide_eq_false_iff_not] at h
 unfold oneP sglP
 rw [if_neg (by rw [h.1]; simp), if_neg h.2]
 rfl
set_option maxHeartbeats 4000000 in
set_option maxRecDepth 100000 in
theorem rowS_any (s : ByteArray) (d : Nat) (hd : ∀ d', d = d' + 1 → AltSOK s d') (hs : s.size ≤ 20) (B p a : Nat) (l : List Pc) (f : Bool) (U : Nat → Prop) (w : World) (hr : RS B p s w a l f U) (hB : B ≤ w.heap.size) (hl : l.length + 3 * (2 * s.size - a) ≤ 200) (ha : a ≤ s.size) (had : s.size ≤ a + d) :
  Calls Tryz.prog 71 #[.pointer (some ⟨p, 0, none⟩)] w fun e w' => WPost s.size B p s w a l f U (rowP (bt s) s.size (altP (bt s) s.size d) a l) e w' := by
 have HD : Hid (∀ (B p a : Nat) (l : List Pc) (f : Bool) (U : Nat → Prop) (w : World), RS B p s w a l f U → B ≤ w.heap.size → l.length + 3 * (2 * s.size - a) ≤ 200 → a ≤ s.size → s.size ≤ a + d → Calls Tryz.prog 86 #[.pointer (some ⟨p, 0, none⟩)] w fun e w' => NPost s.size B p s w a l f U (oneP (bt s) s.size (altP (bt s) s.size d) a l) e w') := fun B p a l f U w h1 h2 h3 h4 h5 => one_any s d hd hs B p a l f U w h1 h2 h3 h4 h5
 have HC := HD.out B p a l f U w hr hB hl ha had
 obtain ⟨O, HO⟩ : ∃ O, Hid (O = oneP (bt s) s.size (altP (bt s) s.size d)) := ⟨_, rfl⟩
 obtain ⟨P, HP⟩ : ∃ P, Hid (P = rowP (bt s) s.size (altP (bt s) s.size d) a l) := ⟨_, rfl⟩
 have HPQ : Hid (P = rowK O (bt s) s.size (O a l)) := by show _ = _; rw [HP.out, HO.out]; rfl
 have HLN : Hid (∀ a1 l1, (isLab (bt s a1) || decide (bt s a1 = 40)) = false → O a1 l1 = none) := fun a1 l1 h => by rw [HO.out]; exact lab_not h
 rw [← HO.out] at HD HC
 rw [← HP.out]
 obtain ⟨i3, hi3, hz30, hz31, hz32⟩ := info_parts Tryz.info3
 clear hr hd HP HO
 go_enter Tryz.func71, Tryz.ntmps71
 go_wp2_with fail
 refine HC.mono ?_
 rintro e w1 ⟨k0, a0, l0, f0, U0, rfl, HR0, HU0, HF0, HB0⟩
 obtain ⟨hb1, hb2, hb3, _⟩ := HB0.out
 have hB1 : B ≤ w1.heap.size := by have := HU0.out.1.size; omega
 have hw01 := HU0.out.1.size
 have HBA : Hid (Below w1.heap.size w1 (w1.alloc (.cells #[.int .i64 k0] 3))) := below1 _ _
 have HOW0 : Hid ((w1.alloc (.cells #[.int .i64 k0] 3)).ownsRow B 3 1 (.slice (some ⟨w1.heap.size, 0, none⟩) 1 1) 1 (rowCells [k0])) := own_oneR w1 B (.int .i64 k0) hB1
 have hR0l := HR0.out.lt
 clear HC
 go_wp2_with fail
 go_loopw [3] (fun v wr => ∃ (v3 : Value) (ks : List Int) (n a1 : Nat) (l1 : List Pc) (f1 : Bool) (U1 : Nat → Prop) (fu : Nat), v3 = v ∧ Hid (wr.ownsRow B 3 1 v3 n (rowCells ks)) ∧ Hid (∀ c, v3.ownBlock = some c → ¬ pU p U1 c) ∧ Hid (ks.length = n ∧ 1 ≤ n ∧ n ≤ 100) ∧ Hid (RS B p s wr a1 l1 f1 U1) ∧ Hid (Us w (pU p U) wr (fun c => pU p U1 c ∨ v3.ownBlock = some c)) ∧
  Hid ((f1 = true ∧ BadP s f P) ∨ (f = false ∧ f1 = false ∧ P = (rowL O (bt s) fu a1 l1 ks).map (closeP 2))) ∧ Hid (s.size < a1 + fu) ∧ Hid (a ≤ a1 ∧ a1 ≤ 2 * s.size - a ∧ l1.length ≤ l.length + 3 * (a1 - a) ∧ (1 < n → l1.length + 2 ≤ l.length + 3 * (a1 - a)) ∧ n ≤ 1 + (a1 - a))) (fun _ wr => s.size + 1 - atOf wr p)
 case atStart =>
  refine ⟨_, [k0], 1, a0, l0, f0, U0, s.size + 1, rfl, HOW0, ?_, ⟨rfl, by omega, by omega⟩, HR0.out.below HBA.out, ⟨(HU0.out.below HBA.out).1, fun c hc => ?_⟩, ?_, by show _ < _; omega, ⟨hb1, hb2, hb3, fun h => by omega, by omega⟩⟩
  ·intro c hc hu
   have e5 : w1.heap.size = c := by simpa [Value.ownBlock] using hc
   have := hR0l c hu; omega
  ·rcases hc with hc | hc
   ·exact HU0.out.2 c hc
   ·have e5 : w1.heap.size = c := by simpa [Value.ownBlock] using hc
    right; omega
  ·rcases HF0.out with ⟨h1, h2 | h2⟩ | ⟨h1, h2, h3⟩
   ·exact .inl ⟨h1, .inl h2⟩
   ·exact .inl ⟨h1, .inr (.inl (by rw [HPQ.out, h2]; rfl))⟩
   ·exact .inr ⟨h1, h2, by rw [HPQ.out, h3]; rfl⟩
 case round =>
  obtain ⟨V, rfl⟩ : ∃ V, V = wr := ⟨_, rfl⟩
  obtain ⟨v3, ks, n, a1, l1, f1, U1, fu, rfl, HOW, HNE, HKL, HR1, HU1, HF1, HFU, HB1⟩ := hrel
  obtain ⟨hb1, hb2, hb3, hb4, hb5⟩ := HB1.out
  have HB4 : Hid (1 < n → l1.length + 2 ≤ l.length + 3 * (a1 - a)) := hb4
  have hfu := HFU.out
  have hn1 := HKL.out.2.1
  clear hb4
  obtain ⟨c0, c1, c2, _⟩ := HR1.out.cells
  have hBV : B ≤ V.heap.size := by have := HU1.out.1.size; omega
  rcases Bool.eq_false_or_eq_true f1 with hf | hf
  ·subst hf
   go_wp2_with fail
   go_quiet (fail)
   obtain ⟨W2, HW2⟩ : ∃ W2, Hid (W2 = V.drewN nq) := ⟨_, rfl⟩
   have HB2 : Hid (Below V.heap.size V W2) := by rw [HW2.out]; exact below_drewN (Below.refl _ _) _
   rw [← HW2.out]
   have HR2 : Hid (RS B p s W2 a1 l1 true U1) := HR1.out.below HB2.out
   have HU2 : Hid (Us w (pU p U) W2 (fun c => pU p U1 c ∨ v3.ownBlock = some c)) := HU1.out.below HB2.out
   have HOW2 : Hid (W2.ownsRow B 3 1 v3 n (rowCells ks)) := own_below HOW.out HB2.out
   have hB2 : B ≤ W2.heap.size := Nat.le_trans hBV HB2.out.size
   clear c0 c1 c2 HW2
   have HFI : Hid ((true = true ∧ (f = true ∨ P = none ∨ ∃ x, P = some x ∧ ¬ okStop s x.1)) ∨ (f = false ∧ true = false ∧ P = some (closeP 2 (a1, l1, ks)) ∧ okStop s a1)) := by
    rcases HF1.out with ⟨_, h⟩ | ⟨_, h, _⟩
    ·exact .inl ⟨rfl, h⟩
    ·cases h
   obtain ⟨ra, rc, rfl, HK0⟩ := rowOwn_of HOW2.out HKL.out.1
   have HK : Hid (RowOwn B W2.heap.size W2 ra ks) := HK0
   by_cases e1 : n = 1
   ·subst e1
    obtain ⟨b, o, rfl, hc⟩ := HK.out.toIn.num (i := 0) (by rw [HKL.out.1]; omega)
    obtain ⟨k, HKK⟩ : ∃ k, Hid (k = ks.getD 0 0) := ⟨_, rfl⟩
    rw [← HKK.out, Nat.add_zero] at hc
    have HCL : Hid (closeP 2 (a1, l1, ks) = (a1, l1, k)) := by show _ = _; unfold closeP; rw [if_pos HKL.out.1, ← HKK.out]
    rw [HCL.out] at HFI
    go_wp2
    go_ret
    exact ⟨k, a1, l1, true, U1, rfl, HR2, HU2.out.trans ⟨KeptP.refl _ _, fun c hc => .inl (.inl hc)⟩, (by show _ ∨ _; first | exact HFI | (have h0 := HFI.out; simpa using h0)), ⟨hb1, hb2, hb3⟩⟩
   ·have hne1 : ¬ (n : Int) = 1 := by omega
    have hdec : decide ((n : Int) = 1) = false := by simp; omega
    have hn1x : 1 < n := by omega
    go_wp2_with fail
    refine (put_any B p s a1 l1 true U1 2 0 ra n rc ks W2 HR2.out hB2 (by omega) HK.out HKL.out.1 (fun h c hc hu => HNE.out c (by rw [hc]; rfl) hu)).mono ?_
    rintro e w5 ⟨rfl, U5, h1, h2⟩
    have HR5 : Hid (RS B p s w5 a1 (l1 ++ [(2, 0, ks)]) true U5) := h1
    have HU5 : Hid (Us w (pU p U) w5 (pU p U5)) := HU2.out.trans (h2.weak (fun c hc => hc.elim (fun h => .inl (.inl h)) (fun h => .inl (.inr (by rw [h]; rfl)))))
    have HCL : Hid (closeP 2 (a1, l1, ks) = (a1, l1 ++ [(2, 0, ks)], (l1.length : Int))) := by show _ = _; unfold closeP; rw [if_neg (by rw [HKL.out.1]; exact e1)]
    rw [HCL.out] at HFI
    clear h1 h2
    go_wp2
    go_ret
    have hq := HB4.out hn1x
    exact ⟨_, a1, _, true, U5, rfl, HR5, HU5, (by show _ ∨ _; first | exact HFI | (have h0 := HFI.out; simpa using h0)), ⟨hb1, hb2, by simp <;> omega⟩⟩
  ·subst hf
   by_cases hin : a1 < s.size
   ·have hj1 : (a1 : Int) < (s.size : Int) := by omega
    have hj0 : (0 : Int) ≤ (a1 : Int) := by omega
    obtain ⟨x, HX⟩ : ∃ x, Hid (x = bt s a1) := ⟨_, rfl⟩
    have hsx : s[a1].toNat = x := by rw [HX.out, bt_lt hin]
    by_cases n124 : x = 124
    ·subst n124
     go_wp2_with fail
     go_quiet (fail)
     obtain ⟨W2, HW2⟩ : ∃ W2, Hid (W2 = V.drewN nq) := ⟨_, rfl⟩
     have HB2 : Hid (Below V.heap.size V W2) := by rw [HW2.out]; exact below_drewN (Below.refl _ _) _
     rw [← HW2.out]
     have HR2 : Hid (RS B p s W2 a1 l1 false U1) := HR1.out.below HB2.out
     have HU2 : Hid (Us w (pU p U) W2 (fun c => pU p U1 c ∨ v3.ownBlock = some c)) := HU1.out.below HB2.out
     have HOW2 : Hid (W2.ownsRow B 3 1 v3 n (rowCells ks)) := own_below HOW.out HB2.out
     have hB2 : B ≤ W2.heap.size := Nat.le_trans hBV HB2.out.size
     clear c0 c1 c2 HW2
     have HFI : Hid ((false = true ∧ (f = true ∨ P = none ∨ ∃ x, P = some x ∧ ¬ okStop s x.1)) ∨ (f = false ∧ false = false ∧ P = some (closeP 2 (a1, l1, ks)) ∧ okStop s a1)) := by
      rcases HF1.out with ⟨h, _⟩ | ⟨h1, _, h3⟩
      ·cases h
      ·exact .inr ⟨h1, rfl, by rw [h3, rowL_end (by rw [← HX.out]; decide)]; rfl, .inr (.inr HX.out.symm)⟩
     obtain ⟨ra, rc, rfl, HK0⟩ := rowOwn_of HOW2.out HKL.out.1
     have HK : Hid (RowOwn B W2.heap.size W2 ra ks) := HK0
     by_cases e1 : n = 1
     ·subst e1
      obtain ⟨b, o, rfl, hc⟩ := HK.out.toIn.num (i := 0) (by rw [HKL.out.1]; omega)
      obtain ⟨k, HKK⟩ : ∃ k, Hid (k = ks.getD 0 0) := ⟨_, rfl⟩
      rw [← HKK.out, Nat.add_zero] at hc
      have HCL : Hid (closeP 2 (a1, l1, ks) = (a1, l1, k)) := by show _ = _; unfold closeP; rw [if_pos HKL.out.1, ← HKK.out]
      rw [HCL.out] at HFI
      go_wp2
      go_ret
      exact ⟨k, a1, l1, false, U1, rfl, HR2, HU2.out.trans ⟨KeptP.refl _ _, fun c hc => .inl (.inl hc)⟩, (by show _ ∨ _; first | exact HFI | (have h0 := HFI.out; simpa using h0)), ⟨hb1, hb2, hb3⟩⟩
     ·have hne1 : ¬ (n : Int) = 1 := by omega
      have hdec : decide ((n : Int) = 1) = false := by simp; omega
      have hn1x : 1 < n := by omega
      go_wp2_with fail
      refine (put_any B p s a1 l1 false U1 2 0 ra n rc ks W2 HR2.out hB2 (by omega) HK.out HKL.out.1 (fun h c hc hu => HNE.out c (by rw [hc]; rfl) hu)).mono ?_
      rintro e w5 ⟨rfl, U5, h1, h2⟩
      have HR5 : Hid (RS B p s w5 a1 (l1 ++ [(2, 0, ks)]) false U5) := h1
      have HU5 : Hid (Us w (pU p U) w5 (pU p U5)) := HU2.out.trans (h2.weak (fun c hc => hc.elim (fun h => .inl (.inl h)) (fun h => .inl (.inr (by rw [h]; rfl)))))
      have HCL : Hid (closeP 2 (a1, l1, ks) = (a1, l1 ++ [(2, 0, ks)], (l1.length : Int))) := by show _ = _; unfold closeP; rw [if_neg (by rw [HKL.out.1]; exact e1)]
      rw [HCL.out] at HFI
      clear h1 h2
      go_wp2
      go_ret
      have hq := HB4.out hn1x
      exact ⟨_, a1, _, false, U5, rfl, HR5, HU5, (by show _ ∨ _; first | exact HFI | (have h0 := HFI.out; simpa using h0)), ⟨hb1, hb2, by simp <;> omega⟩⟩
    ·have m124 : ¬ (x : Int) = 124 := by omega
     have d124 : decide ((x : Int) = 124) = false := by simp; omega
     have b124 : ((x : Int) != 124) = true := by rw [bne_iff_ne]; exact m124
     by_cases n41 : x = 41
     ·subst n41
      go_wp2_with fail
      go_quiet (fail)
      obtain ⟨W2, HW2⟩ : ∃ W2, Hid (W2 = V.drewN nq) := ⟨_, rfl⟩
      have HB2 : Hid (Below V.heap.size V W2) := by rw [HW2.out]; exact below_drewN (Below.refl _ _) _
      rw [← HW2.out]
      have HR2 : Hid (RS B p s W2 a1 l1 false U1) := HR1.out.below HB2.out
      have HU2 : Hid (Us w (pU p U) W2 (fun c => pU p U1 c ∨ v3.ownBlock = some c)) := HU1.out.below HB2.out
      have HOW2 : Hid (W2.ownsRow B 3 1 v3 n (rowCells ks)) := own_below HOW.out HB2.out
      have hB2 : B ≤ W2.heap.size := Nat.le_trans hBV HB2.out.size
      clear c0 c1 c2 HW2
      have HFI : Hid ((false = true ∧ (f = true ∨ P = none ∨ ∃ x, P = some x ∧ ¬ okStop s x.1)) ∨ (f = false ∧ false = false ∧ P = some (closeP 2 (a1, l1, ks)) ∧ okStop s a1)) := by
       rcases HF1.out with ⟨h, _⟩ | ⟨h1, _, h3⟩
       ·cases h
       ·exact .inr ⟨h1, rfl, by rw [h3, rowL_end (by rw [← HX.out]; decide)]; rfl, .inr (.inl HX.out.symm)⟩
      obtain ⟨ra, rc, rfl, HK0⟩ := rowOwn_of HOW2.out HKL.out.1
      have HK : Hid (RowOwn B W2.heap.size W2 ra ks) := HK0
      by_cases e1 : n = 1
      ·subst e1
       obtain ⟨b, o, rfl, hc⟩ := HK.out.toIn.num (i := 0) (by rw [HKL.out.1]; omega)
       obtain ⟨k, HKK⟩ : ∃ k, Hid (k = ks.getD 0 0) := ⟨_, rfl⟩
       rw [← HKK.out, Nat.add_zero] at hc
       have HCL : Hid (closeP 2 (a1, l1, ks) = (a1, l1, k)) := by show _ = _; unfold closeP; rw [if_pos HKL.out.1, ← HKK.out]
       rw [HCL.out] at HFI
       go_wp2
       go_ret
       exact ⟨k, a1, l1, false, U1, rfl, HR2, HU2.out.trans ⟨KeptP.refl _ _, fun c hc => .inl (.inl hc)⟩, (by show _ ∨ _; first | exact HFI | (have h0 := HFI.out; simpa using h0)), ⟨hb1, hb2, hb3⟩⟩
      ·have hne1 : ¬ (n : Int) = 1 := by omega
       have hdec : decide ((n : Int) = 1) = false := by simp; omega
       have hn1x : 1 < n := by omega
       go_wp2_with fail
       refine (put_any B p s a1 l1 false U1 2 0 ra n rc ks W2 HR2.out hB2 (by omega) HK.out HKL.out.1 (fun h c hc hu => HNE.out c (by rw [hc]; rfl) hu)).mono ?_
       rintro e w5 ⟨rfl, U5, h1, h2⟩
       have HR5 : Hid (RS B p s w5 a1 (l1 ++ [(2, 0, ks)]) false U5) := h1
       have HU5 : Hid (Us w (pU p U) w5 (pU p U5)) := HU2.out.trans (h2.weak (fun c hc => hc.elim (fun h => .inl (.inl h)) (fun h => .inl (.inr (by rw [h]; rfl)))))
       have HCL : Hid (closeP 2 (a1, l1, ks) = (a1, l1 ++ [(2, 0, ks)], (l1.length : Int))) := by show _ = _; unfold closeP; rw [if_neg (by rw [HKL.out.1]; exact e1)]
       rw [HCL.out] at HFI
       clear h1 h2
       go_wp2
       go_ret
       have hq := HB4.out hn1x
       exact ⟨_, a1, _, false, U5, rfl, HR5, HU5, (by show _ ∨ _; first | exact HFI | (have h0 := HFI.out; simpa using h0)), ⟨hb1, hb2, by simp <;> omega⟩⟩
     ·have m41 : ¬ (x : Int) = 41 := by omega
      have d41 : decide ((x : Int) = 41) = false := by simp; omega
      have b41 : ((x : Int) != 41) = true := by rw [bne_iff_ne]; exact m41
      go_wp2_with fail
      go_quiet (fail)
      obtain ⟨W2, HW2⟩ : ∃ W2, Hid (W2 = V.drewN nq) := ⟨_, rfl⟩
      have HB2 : Hid (Below V.heap.size V W2) := by rw [HW2.out]; exact below_drewN (Below.refl _ _) _
      rw [← HW2.out]
      have HR2 : Hid (RS B p s W2 a1 l1 false U1) := HR1.out.below HB2.out
      have HU2 : Hid (Us w (pU p U) W2 (fun c => pU p U1 c ∨ v3.ownBlock = some c)) := HU1.out.below HB2.out
      have HOW2 : Hid (W2.ownsRow B 3 1 v3 n (rowCells ks)) := own_below HOW.out HB2.out
      have hB2 : B ≤ W2.heap.size := Nat.le_trans hBV HB2.out.size
      clear c0 c1 c2 HW2
      obtain ⟨fv, rfl⟩ : ∃ fv, fu = fv + 1 := ⟨fu - 1, by omega⟩
      have HC := HD.out B p a1 l1 false U1 W2 HR2.out hB2 (by omega) (by omega) (by omega)
      go_wp2_with fail
      refine HC.mono ?_
      rintro e w3 ⟨k2, a2, l2, f2, U2, rfl, HR3, HU3, HF3, HB3⟩
      clear HC
      have HUS : Hid (Us W2 (pU p U1) w3 (pU p U2)) := HU3.out
      have hb6 := HB3.out.1
      have hb7 := HB3.out.2.1
      have hb8 := HB3.out.2.2.1
      have hb9 := HB3.out.2.2.2 rfl hin
      have HV2 : Hid (∀ c, v3.ownBlock = some c → c < W2.heap.size) := fun c hc => (HOW2.out.lt c hc).2
      have HOW3 : Hid (w3.ownsRow B 3 1 v3 n (rowCells ks)) := own_keptPR HOW2.out HUS.out.1 HNE.out
      have HNE3 : Hid (∀ c, v3.ownBlock = some c → ¬ pU p U2 c) := fun c hc hu => (HUS.out.2 c hu).elim (HNE.out c hc) (fun h => by have := HV2.out c hc; omega)
      have HUV : Hid (Us w (pU p U) w3 (fun c => pU p U2 c ∨ v3.ownBlock = some c)) := HU2.out.trans (HUS.out.frame _)
      have hB3 : B ≤ w3.heap.size := by have := HUS.out.1.size; omega
      have hown := HOW3.out.alloc (.cells #[.int .i64 k2] 3)
      have hn100 : n ≤ 1000 := by have := HKL.out.2.2; omega
      go_wp2_with (at_builtin; refine wpList_append_lies _ rfl (.tmp 48) (.tmp 51) 36 rfl B 3 i3 (.int .i64 0) 1 8 Tryz.underlying36 hi3 hz30 hz31 hz32 rfl (by decide) _ n (rowCells ks) rfl hown ⟨w3.heap.size, 0, none⟩ 1 1 [.int .i64 k2] rfl rfl (cell_one_new' w3 (.int .i64 k2) 3) (by simp [Value.oneCell']) (by decide) (by unfold maxLen; omega) (by omega) (by simp; omega) _ rfl ?_)
      intro g5 cap5 w6 hown5 hgrow5 hloc5 hg5
      obtain ⟨hk1, hk2, hk3⟩ := kid_more (n := n) (cap := cap5) (U := pU p U2) hgrow5 (hloc5.imp id (fun h => by simpa using h)) HR3.out.lt HNE3.out
      have HR6 : Hid (RS B p s w6 a2 l2 f2 U2) := HR3.out.kept hk1 (fun c hc e => HNE3.out c e hc)
      have HU6 : Hid (Us w (pU p U) w6 (fun c => pU p U2 c ∨ (Value.slice (some ⟨g5, 0, none⟩) (n + 1) cap5).ownBlock = some c)) := HUV.out.trans hk3
      have HN6 : Hid (∀ c, (Value.slice (some ⟨g5, 0, none⟩) (n + 1) cap5).ownBlock = some c → ¬ pU p U2 c) := hk2
      have HO6 : Hid (w6.ownsRow B 3 1 (.slice (some ⟨g5, 0, none⟩) (n + 1) cap5) (n + 1) (rowCells (ks ++ [k2]))) := by rw [rowCells_snoc]; exact hown5
      have HF6 : Hid ((f2 = true ∧ BadP s f P) ∨ (f = false ∧ f2 = false ∧ P = (rowL O (bt s) fv a2 l2 (ks ++ [k2])).map (closeP 2))) := by
       rcases HF1.out with ⟨h, _⟩ | ⟨h1, _, h3⟩
       ·cases h
       ·rcases Bool.eq_false_or_eq_true (isLab (bt s a1) || decide (bt s a1 = 40)) with hg | hg
        ·rcases HF3.out with ⟨h4, h5 | h5⟩ | ⟨h4, h5, h6⟩
         ·cases h5
         ·exact .inl ⟨h4, .inr (.inl (by rw [h3, rowL_none hg h5]; rfl))⟩
         ·exact .inr ⟨h1, h5, by rw [h3, rowL_go hg h6]⟩
        ·have hn := HLN.out a1 l1 hg
         rcases HF3.out with ⟨h4, _⟩ | ⟨_, _, h6⟩
         ·refine .inl ⟨h4, .inr (.inr ⟨closeP 2 (a1, l1, ks), by rw [h3, rowL_end hg]; rfl, ?_⟩)⟩
          rw [closeP_at]
          rintro (h | h | h)
          ·have h' : s.size ≤ a1 := h
           omega
          ·exact n41 (by rw [HX.out]; exact h)
          ·exact n124 (by rw [HX.out]; exact h)
         ·rw [hn] at h6; cases h6
      clear hown hown5 hgrow5 hloc5 hg5 hk1 hk2 hk3
      go_wp2
      go_roundw
      case rel => exact ⟨_, ks ++ [k2], n + 1, a2, l2, f2, U2, fv, rfl, HO6, HN6, ⟨by rw [List.length_append, HKL.out.1]; rfl, by omega, by omega⟩, HR6, HU6, HF6, by show _ < _; omega, ⟨by omega, by omega, by omega, fun _ => by omega, by omega⟩⟩
      case measure =>
       have e1 := HR1.out.atOf
       have e2 := HR6.out.atOf
       first | (rw [e1, e2]; omega) | (simp only [e1, e2]; omega) | omega
   ·have hj1 : ¬ (a1 : Int) < (s.size : Int) := by omega
    go_wp2_with fail
    go_quiet (fail)
    obtain ⟨W2, HW2⟩ : ∃ W2, Hid (W2 = V.drewN nq) := ⟨_, rfl⟩
    have HB2 : Hid (Below V.heap.size V W2) := by rw [HW2.out]; exact below_drewN (Below.refl _ _) _
    rw [← HW2.out]
    have HR2 : Hid (RS B p s W2 a1 l1 false U1) := HR1.out.below HB2.out
    have HU2 : Hid (Us w (pU p U) W2 (fun c => pU p U1 c ∨ v3.ownBlock = some c)) := HU1.out.below HB2.out
    have HOW2 : Hid (W2.ownsRow B 3 1 v3 n (rowCells ks)) := own_below HOW.out HB2.out
    have hB2 : B ≤ W2.heap.size := Nat.le_trans hBV HB2.out.size
    clear c0 c1 c2 HW2
    have HFI : Hid ((false = true ∧ (f = true ∨ P = none ∨ ∃ x, P = some x ∧ ¬ okStop s x.1)) ∨ (f = false ∧ false = false ∧ P = some (closeP 2 (a1, l1, ks)) ∧ okStop s a1)) := by
     rcases HF1.out with ⟨h, _⟩ | ⟨h1, _, h3⟩
     ·cases h
     ·exact .inr ⟨h1, rfl, by rw [h3, rowL_end (by rw [bt_end hin]; decide)]; rfl, .inl (Nat.le_of_not_lt hin)⟩
    obtain ⟨ra, rc, rfl, HK0⟩ := rowOwn_of HOW2.out HKL.out.1
    have HK : Hid (RowOwn B W2.heap.size W2 ra ks) := HK0
    by_cases e1 : n = 1
    ·subst e1
     obtain ⟨b, o, rfl, hc⟩ := HK.out.toIn.num (i := 0) (by rw [HKL.out.1]; omega)
     obtain ⟨k, HKK⟩ : ∃ k, Hid (k = ks.getD 0 0) := ⟨_, rfl⟩
     rw [← HKK.out, Nat.add_zero] at hc
     have HCL : Hid (closeP 2 (a1, l1, ks) = (a1, l1, k)) := by show _ = _; unfold closeP; rw [if_pos HKL.out.1, ← HKK.out]
     rw [HCL.out] at HFI
     go_wp2
     go_ret
     exact ⟨k, a1, l1, false, U1, rfl, HR2, HU2.out.trans ⟨KeptP.refl _ _, fun c hc => .inl (.inl hc)⟩, (by show _ ∨ _; first | exact HFI | (have h0 := HFI.out; simpa using h0)), ⟨hb1, hb2, hb3⟩⟩
    ·have hne1 : ¬ (n : Int) = 1 := by omega
     have hdec : decide ((n : Int) = 1) = false := by simp; omega
     have hn1x : 1 < n := by omega
     go_wp2_with fail
     refine (put_any B p s a1 l1 false U1 2 0 ra n rc ks W2 HR2.out hB2 (by omega) HK.out HKL.out.1 (fun h c hc hu => HNE.out c (by rw [hc]; rfl) hu)).mono ?_
     rintro e w5 ⟨rfl, U5, h1, h2⟩
     have HR5 : Hid (RS B p s w5 a1 (l1 ++ [(2, 0, ks)]) false U5) := h1
     have HU5 : Hid (Us w (pU p U) w5 (pU p U5)) := HU2.out.trans (h2.weak (fun c hc => hc.elim (fun h => .inl (.inl h)) (fun h => .inl (.inr (by rw [h]; rfl)))))
     have HCL : Hid (closeP 2 (a1, l1, ks) = (a1, l1 ++ [(2, 0, ks)], (l1.length : Int))) := by show _ = _; unfold closeP; rw [if_neg (by rw [HKL.out.1]; exact e1)]
     rw [HCL.out] at HFI
     clear h1 h2
     go_wp2
     go_ret
     have hq := HB4.out hn1x
     exact ⟨_, a1, _, false, U5, rfl, HR5, HU5, (by show _ ∨ _; first | exact HFI | (have h0 := HFI.out; simpa using h0)), ⟨hb1, hb2, by simp <;> omega⟩⟩
end Go.Proofs.YtbepmeipjdpipaaGreat
