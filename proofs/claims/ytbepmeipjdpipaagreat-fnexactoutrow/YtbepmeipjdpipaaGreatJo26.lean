import Derived.Test.YtbepmeipjdpipaaGreatJo25
import Derived.Test.YtbepmeipjdpipaaGreatJo05
import Derived.Test.YtbepmeipjdpipaaGreatJo19
import Derived.Test.YtbepmeipjdpipaaGreatJo11
import Derived.Test.YtbepmeipjdpipaaGreatJo16
import Derived.Test.YtbepmeipjdpipaaGreatJo22
import Derived.Test.YtbepmeipjdpipaaGreatJo06
import Derived.Test.YtbepmeipjdpipaaGreatJo03
namespace Go.Proofs.YtbepmeipjdpipaaGreat
open Go.RowKit
set_option maxHeartbeats 4000000 in
set_option maxRecDepth 100000 in
theorem altsS_any (s : ByteArray) (d : Nat) (hd : ∀ d', d = d' + 1 → AltSOK s d') (hs : s.size ≤ 20) (B p a : Nat) (l : List Pc) (f : Bool) (U : Nat → Prop) (w : World) (hr : RS B p s w a l f U) (hB : B ≤ w.heap.size) (hl : l.length + 3 * (2 * s.size - a) ≤ 200) (ha : a ≤ s.size) (had : s.size ≤ a + d) :
  Calls Tryz.prog 56 #[.pointer (some ⟨p, 0, none⟩)] w fun e w' => WPost s.size B p s w a l f U (altP (bt s) s.size (d + 1) a l) e w' := by
 have HD : Hid (∀ (B p a : Nat) (l : List Pc) (f : Bool) (U : Nat → Prop) (w : World), RS B p s w a l f U → B ≤ w.heap.size → l.length + 3 * (2 * s.size - a) ≤ 200 → a ≤ s.size → s.size ≤ a + d → Calls Tryz.prog 71 #[.pointer (some ⟨p, 0, none⟩)] w fun e w' => WPost s.size B p s w a l f U (rowP (bt s) s.size (altP (bt s) s.size d) a l) e w') := fun B p a l f U w h1 h2 h3 h4 h5 => rowS_any s d hd hs B p a l f U w h1 h2 h3 h4 h5
 have HC := HD.out B p a l f U w hr hB hl ha had
 obtain ⟨O, HO⟩ : ∃ O, Hid (O = rowP (bt s) s.size (altP (bt s) s.size d)) := ⟨_, rfl⟩
 obtain ⟨P, HP⟩ : ∃ P, Hid (P = altP (bt s) s.size (d + 1) a l) := ⟨_, rfl⟩
 have HPQ : Hid (P = altK O (bt s) s.size (O a l)) := by show _ = _; rw [HP.out, HO.out]; rfl
 rw [← HO.out] at HD HC
 rw [← HP.out]
 obtain ⟨i3, hi3, hz30, hz31, hz32⟩ := info_parts Tryz.info3
 clear hr hd HP HO
 go_enter Tryz.func56, Tryz.ntmps56
 go_wp2_with fail
 refine HC.mono ?_
 rintro e w1 ⟨k0, a0, l0, f0, U0, rfl, HR0, HU0, HF0, HB0⟩
 obtain ⟨hb1, hb2, hb3⟩ := HB0.out
 have hB1 : B ≤ w1.heap.size := by have := HU0.out.1.size; omega
 have hw01 := HU0.out.1.size
 have HBA : Hid (Below w1.heap.size w1 (w1.alloc (.cells #[.int .i64 k0] 3))) := below1 _ _
 have HOW0 : Hid ((w1.alloc (.cells #[.int .i64 k0] 3)).ownsRow B 3 1 (.slice (some ⟨w1.heap.size, 0, none⟩) 1 1) 1 (rowCells [k0])) := own_oneR w1 B (.int .i64 k0) hB1
 have hR0l := HR0.out.lt
 clear HC
 go_wp2_with fail
 go_loopw [3] (fun v wr => ∃ (v3 : Value) (ks : List Int) (n a1 : Nat) (l1 : List Pc) (f1 : Bool) (U1 : Nat → Prop) (fu : Nat), v3 = v ∧ Hid (wr.ownsRow B 3 1 v3 n (rowCells ks)) ∧ Hid (∀ c, v3.ownBlock = some c → ¬ pU p U1 c) ∧ Hid (ks.length = n ∧ 1 ≤ n ∧ n ≤ 100) ∧ Hid (RS B p s wr a1 l1 f1 U1) ∧ Hid (Us w (pU p U) wr (fun c => pU p U1 c ∨ v3.ownBlock = some c)) ∧
  Hid ((f1 = true ∧ BadP s f P) ∨ (f = false ∧ f1 = false ∧ P = (altL O (bt s) fu a1 l1 ks).map (closeP 3) ∧ okStop s a1)) ∧ Hid (s.size < a1 + fu) ∧ Hid (a ≤ a1 ∧ a1 ≤ 2 * s.size - a ∧ l1.length ≤ l.length + 3 * (a1 - a) ∧ (1 < n → l1.length + 3 ≤ l.length + 3 * (a1 - a)) ∧ n ≤ 1 + (a1 - a))) (fun _ wr => s.size + 1 - atOf wr p)
 case atStart =>
  refine ⟨_, [k0], 1, a0, l0, f0, U0, s.size + 1, rfl, HOW0, ?_, ⟨rfl, by omega, by omega⟩, HR0.out.below HBA.out, ⟨(HU0.out.below HBA.out).1, fun c hc => ?_⟩, ?_, by show _ < _; omega, ⟨hb1, hb2, hb3, fun h => by omega, by omega⟩⟩
  ·intro c hc hu
   have e5 : w1.heap.size = c := by simpa [Value.ownBlock] using hc
   have := hR0l c hu; omega
  ·rcases hc with hc | hc
   ·exact HU0.out.2 c hc
   ·have e5 : w1.heap.size = c := by simpa [Value.ownBlock] using hc
    right; omega
  ·rcases HF0.out with ⟨h1, h2 | h2 | ⟨x, h2, h3⟩⟩ | ⟨h1, h2, h3, h4⟩
   ·exact .inl ⟨h1, .inl h2⟩
   ·exact .inl ⟨h1, .inr (.inl (by rw [HPQ.out, h2]; rfl))⟩
   ·refine .inl ⟨h1, .inr (.inr ⟨closeP 3 (x.1, x.2.1, [x.2.2]), ?_, by rw [closeP_at]; exact h3⟩)⟩
    rw [HPQ.out, h2]
    show (altL O (bt s) (s.size + 1) x.1 x.2.1 [x.2.2]).map (closeP 3) = _
    rw [altL_end (fun e => h3 (.inr (.inr e)))]
    rfl
   ·exact .inr ⟨h1, h2, by rw [HPQ.out, h3]; rfl, h4⟩
 case round =>
  obtain ⟨V, rfl⟩ : ∃ V, V = wr := ⟨_, rfl⟩
  obtain ⟨v3, ks, n, a1, l1, f1, U1, fu, rfl, HOW, HNE, HKL, HR1, HU1, HF1, HFU, HB1⟩ := hrel
  obtain ⟨hb1, hb2, hb3, hb4, hb5⟩ := HB1.out
  have HB4 : Hid (1 < n → l1.length + 3 ≤ l.length + 3 * (a1 - a)) := hb4
  have hfu := HFU.out
  have hn1 := HKL.out.2.1
  clear hb4
  obtain ⟨c0, c1, c2, _⟩ := HR1.out.cells
  have hBV : B ≤ V.heap.size := by have := HU1.out.1.size; omega
  rcases Bool.eq_false_or_eq_true f1 with hf | hf
  ·subst hf
   go_wp2_with fail
   go_quiet (fail)
   obtain ⟨W2, HW2⟩ : ∃ W2, Hid (W2 = V.drewN nq) := ⟨_, rfl⟩
   have HB2 : Hid (Below V.heap.size V W2) := by rw [HW2.out]; exact below_drewN (Below.refl _ _) _
   rw [← HW2.out]
   have HR2 : Hid (RS B p s W2 a1 l1 true U1) := HR1.out.below HB2.out
   have HU2 : Hid (Us w (pU p U) W2 (fun c => pU p U1 c ∨ v3.ownBlock = some c)) := HU1.out.below HB2.out
   have HOW2 : Hid (W2.ownsRow B 3 1 v3 n (rowCells ks)) := own_below HOW.out HB2.out
   have hB2 : B ≤ W2.heap.size := Nat.le_trans hBV HB2.out.size
   clear c0 c1 c2 HW2
   have HFI : Hid ((true = true ∧ (f = true ∨ P = none ∨ ∃ x, P = some x ∧ ¬ okStop s x.1)) ∨ (f = false ∧ true = false ∧ P = some (closeP 3 (a1, l1, ks)) ∧ okStop s a1)) := by
    rcases HF1.out with ⟨_, h⟩ | ⟨_, h, _⟩
    ·exact .inl ⟨rfl, h⟩
    ·cases h
   obtain ⟨ra, rc, rfl, HK0⟩ := rowOwn_of HOW2.out HKL.out.1
   have HK : Hid (RowOwn B W2.heap.size W2 ra ks) := HK0
   by_cases e1 : n = 1
   ·subst e1
    obtain ⟨b, o, rfl, hc⟩ := HK.out.toIn.num (i := 0) (by rw [HKL.out.1]; omega)
    obtain ⟨k, HKK⟩ : ∃ k, Hid (k = ks.getD 0 0) := ⟨_, rfl⟩
    rw [← HKK.out, Nat.add_zero] at hc
    have HCL : Hid (closeP 3 (a1, l1, ks) = (a1, l1, k)) := by show _ = _; unfold closeP; rw [if_pos HKL.out.1, ← HKK.out]
    rw [HCL.out] at HFI
    go_wp2
    go_ret
    exact ⟨k, a1, l1, true, U1, rfl, HR2, HU2.out.trans ⟨KeptP.refl _ _, fun c hc => .inl (.inl hc)⟩, (by show _ ∨ _; first | exact HFI | (have h0 := HFI.out; simpa using h0)), ⟨hb1, hb2, hb3⟩⟩
   ·have hne1 : ¬ (n : Int) = 1 := by omega
    have hdec : decide ((n : Int) = 1) = false := by simp; omega
    have hn1x : 1 < n := by omega
    go_wp2_with fail
    refine (put_any B p s a1 l1 true U1 3 0 ra n rc ks W2 HR2.out hB2 (by omega) HK.out HKL.out.1 (fun h c hc hu => HNE.out c (by rw [hc]; rfl) hu)).mono ?_
    rintro e w5 ⟨rfl, U5, h1, h2⟩
    have HR5 : Hid (RS B p s w5 a1 (l1 ++ [(3, 0, ks)]) true U5) := h1
    have HU5 : Hid (Us w (pU p U) w5 (pU p U5)) := HU2.out.trans (h2.weak (fun c hc => hc.elim (fun h => .inl (.inl h)) (fun h => .inl (.inr (by rw [h]; rfl)))))
    have HCL : Hid (closeP 3 (a1, l1, ks) = (a1, l1 ++ [(3, 0, ks)], (l1.length : Int))) := by show _ = _; unfold closeP; rw [if_neg (by rw [HKL.out.1]; exact e1)]
    rw [HCL.out] at HFI
    clear h1 h2
    go_wp2
    go_ret
    have hq := HB4.out hn1x
    exact ⟨_, a1, _, true, U5, rfl, HR5, HU5, (by show _ ∨ _; first | exact HFI | (have h0 := HFI.out; simpa using h0)), ⟨hb1, hb2, by simp <;> omega⟩⟩
  ·subst hf
   by_cases hin : a1 < s.size
   ·have hj1 : (a1 : Int) < (s.size : Int) := by omega
    have hj0 : (0 : Int) ≤ (a1 : Int) := by omega
    obtain ⟨x, HX⟩ : ∃ x, Hid (x = bt s a1) := ⟨_, rfl⟩
    have hsx : s[a1].toNat = x := by rw [HX.out, bt_lt hin]
    by_cases n124 : x = 124
    ·subst n124
     have HGO : Hid (bt s a1 = 124) := HX.out.symm
     go_wp2_with fail
     go_quiet (fail)
     obtain ⟨W2, HW2⟩ : ∃ W2, Hid (W2 = V.drewN nq) := ⟨_, rfl⟩
     have HB2 : Hid (Below V.heap.size V W2) := by rw [HW2.out]; exact below_drewN (Below.refl _ _) _
     rw [← HW2.out]
     have HR2 : Hid (RS B p s W2 a1 l1 false U1) := HR1.out.below HB2.out
     have HU2 : Hid (Us w (pU p U) W2 (fun c => pU p U1 c ∨ v3.ownBlock = some c)) := HU1.out.below HB2.out
     have HOW2 : Hid (W2.ownsRow B 3 1 v3 n (rowCells ks)) := own_below HOW.out HB2.out
     have hB2 : B ≤ W2.heap.size := Nat.le_trans hBV HB2.out.size
     clear c0 c1 c2 HW2
     obtain ⟨fv, rfl⟩ : ∃ fv, fu = fv + 1 := ⟨fu - 1, by omega⟩
     obtain ⟨c0, c1, c2, cf⟩ := HR2.out.cells
     have fz1 := cf 1
     have HRS : Hid (RS B p s (W2.setCell ⟨p, 1, none⟩ (.int .i64 ((a1 : Int) + 1))) (a1 + 1) l1 false U1) := HR2.out.step
     have HC := HD.out B p (a1 + 1) l1 false U1 _ HRS.out (by simpa using hB2) (by omega) (by omega) (by omega)
     go_wp2_with fail
     refine HC.mono ?_
     rintro e w3 ⟨k2, a2, l2, f2, U2, rfl, HR3, HU3, HF3, HB3⟩
     clear HC
     have HUS : Hid (Us W2 (pU p U1) w3 (pU p U2)) := (us_set _).trans HU3.out
     clear c0 c1 c2 cf fz1
     have hb6 := HB3.out.1
     have hb7 := HB3.out.2.1
     have hb8 := HB3.out.2.2
     have HV2 : Hid (∀ c, v3.ownBlock = some c → c < W2.heap.size) := fun c hc => (HOW2.out.lt c hc).2
     have HOW3 : Hid (w3.ownsRow B 3 1 v3 n (rowCells ks)) := own_keptPR HOW2.out HUS.out.1 HNE.out
     have HNE3 : Hid (∀ c, v3.ownBlock = some c → ¬ pU p U2 c) := fun c hc hu => (HUS.out.2 c hu).elim (HNE.out c hc) (fun h => by have := HV2.out c hc; omega)
     have HUV : Hid (Us w (pU p U) w3 (fun c => pU p U2 c ∨ v3.ownBlock = some c)) := HU2.out.trans (HUS.out.frame _)
     have hB3 : B ≤ w3.heap.size := by have := HUS.out.1.size; omega
     have hown := HOW3.out.alloc (.cells #[.int .i64 k2] 3)
     have hn100 : n ≤ 1000 := by have := HKL.out.2.2; omega
     go_wp2_with (at_builtin; refine wpList_append_lies _ rfl (.tmp 44) (.tmp 47) 36 rfl B 3 i3 (.int .i64 0) 1 8 Tryz.underlying36 hi3 hz30 hz31 hz32 rfl (by decide) _ n (rowCells ks) rfl hown ⟨w3.heap.size, 0, none⟩ 1 1 [.int .i64 k2] rfl rfl (cell_one_new' w3 (.int .i64 k2) 3) (by simp [Value.oneCell']) (by decide) (by unfold maxLen; omega) (by omega) (by simp; omega) _ rfl ?_)
     intro g5 cap5 w6 hown5 hgrow5 hloc5 hg5
     obtain ⟨hk1, hk2, hk3⟩ := kid_more (n := n) (cap := cap5) (U := pU p U2) hgrow5 (hloc5.imp id (fun h => by simpa using h)) HR3.out.lt HNE3.out
     have HR6 : Hid (RS B p s w6 a2 l2 f2 U2) := HR3.out.kept hk1 (fun c hc e => HNE3.out c e hc)
     have HU6 : Hid (Us w (pU p U) w6 (fun c => pU p U2 c ∨ (Value.slice (some ⟨g5, 0, none⟩) (n + 1) cap5).ownBlock = some c)) := HUV.out.trans hk3
     have HN6 : Hid (∀ c, (Value.slice (some ⟨g5, 0, none⟩) (n + 1) cap5).ownBlock = some c → ¬ pU p U2 c) := hk2
     have HO6 : Hid (w6.ownsRow B 3 1 (.slice (some ⟨g5, 0, none⟩) (n + 1) cap5) (n + 1) (rowCells (ks ++ [k2]))) := by rw [rowCells_snoc]; exact hown5
     have HF6 : Hid ((f2 = true ∧ BadP s f P) ∨ (f = false ∧ f2 = false ∧ P = (altL O (bt s) fv a2 l2 (ks ++ [k2])).map (closeP 3) ∧ okStop s a2)) := by
      rcases HF1.out with ⟨h, _⟩ | ⟨h1, _, h3, _⟩
      ·cases h
      ·rcases HF3.out with ⟨h4, h5 | h5 | ⟨x, h5, h6⟩⟩ | ⟨h4, h5, h6, h7⟩
       ·cases h5
       ·exact .inl ⟨h4, .inr (.inl (by rw [h3, altL_none HGO.out h5]; rfl))⟩
       ·refine .inl ⟨h4, .inr (.inr ⟨closeP 3 (x.1, x.2.1, ks ++ [x.2.2]), ?_, by rw [closeP_at]; exact h6⟩)⟩
        rw [h3, altL_go HGO.out h5, altL_end (fun e => h6 (.inr (.inr e)))]
        rfl
       ·exact .inr ⟨h1, h5, by rw [h3, altL_go HGO.out h6], h7⟩
     clear hown hown5 hgrow5 hloc5 hg5 hk1 hk2 hk3
     go_wp2
     go_roundw
     case rel => exact ⟨_, ks ++ [k2], n + 1, a2, l2, f2, U2, fv, rfl, HO6, HN6, ⟨by rw [List.length_append, HKL.out.1]; rfl, by omega, by omega⟩, HR6, HU6, HF6, by show _ < _; omega, ⟨by omega, by omega, by omega, fun _ => by omega, by omega⟩⟩
     case measure =>
      have e1 := HR1.out.atOf
      have e2 := HR6.out.atOf
      first | (rw [e1, e2]; omega) | (simp only [e1, e2]; omega) | omega
    ·have m124 : ¬ (x : Int) = 124 := by omega
     have d124 : decide ((x : Int) = 124) = false := by simp; omega
     go_wp2_with fail
     go_quiet (fail)
     obtain ⟨W2, HW2⟩ : ∃ W2, Hid (W2 = V.drewN nq) := ⟨_, rfl⟩
     have HB2 : Hid (Below V.heap.size V W2) := by rw [HW2.out]; exact below_drewN (Below.refl _ _) _
     rw [← HW2.out]
     have HR2 : Hid (RS B p s W2 a1 l1 false U1) := HR1.out.below HB2.out
     have HU2 : Hid (Us w (pU p U) W2 (fun c => pU p U1 c ∨ v3.ownBlock = some c)) := HU1.out.below HB2.out
     have HOW2 : Hid (W2.ownsRow B 3 1 v3 n (rowCells ks)) := own_below HOW.out HB2.out
     have hB2 : B ≤ W2.heap.size := Nat.le_trans hBV HB2.out.size
     clear c0 c1 c2 HW2
     have HFI : Hid ((false = true ∧ (f = true ∨ P = none ∨ ∃ x, P = some x ∧ ¬ okStop s x.1)) ∨ (f = false ∧ false = false ∧ P = some (closeP 3 (a1, l1, ks)) ∧ okStop s a1)) := by
      rcases HF1.out with ⟨h, _⟩ | ⟨h1, _, h3, h5⟩
      ·cases h
      ·exact .inr ⟨h1, rfl, by rw [h3, altL_end (by rw [← HX.out]; exact n124)]; rfl, h5⟩
     obtain ⟨ra, rc, rfl, HK0⟩ := rowOwn_of HOW2.out HKL.out.1
     have HK : Hid (RowOwn B W2.heap.size W2 ra ks) := HK0
     by_cases e1 : n = 1
     ·subst e1
      obtain ⟨b, o, rfl, hc⟩ := HK.out.toIn.num (i := 0) (by rw [HKL.out.1]; omega)
      obtain ⟨k, HKK⟩ : ∃ k, Hid (k = ks.getD 0 0) := ⟨_, rfl⟩
      rw [← HKK.out, Nat.add_zero] at hc
      have HCL : Hid (closeP 3 (a1, l1, ks) = (a1, l1, k)) := by show _ = _; unfold closeP; rw [if_pos HKL.out.1, ← HKK.out]
      rw [HCL.out] at HFI
      go_wp2
      go_ret
      exact ⟨k, a1, l1, false, U1, rfl, HR2, HU2.out.trans ⟨KeptP.refl _ _, fun c hc => .inl (.inl hc)⟩, (by show _ ∨ _; first | exact HFI | (have h0 := HFI.out; simpa using h0)), ⟨hb1, hb2, hb3⟩⟩
     ·have hne1 : ¬ (n : Int) = 1 := by omega
      have hdec : decide ((n : Int) = 1) = false := by simp; omega
      have hn1x : 1 < n := by omega
      go_wp2_with fail
      refine (put_any B p s a1 l1 false U1 3 0 ra n rc ks W2 HR2.out hB2 (by omega) HK.out HKL.out.1 (fun h c hc hu => HNE.out c (by rw [hc]; rfl) hu)).mono ?_
      rintro e w5 ⟨rfl, U5, h1, h2⟩
      have HR5 : Hid (RS B p s w5 a1 (l1 ++ [(3, 0, ks)]) false U5) := h1
      have HU5 : Hid (Us w (pU p U) w5 (pU p U5)) := HU2.out.trans (h2.weak (fun c hc => hc.elim (fun h => .inl (.inl h)) (fun h => .inl (.inr (by rw [h]; rfl)))))
      have HCL : Hid (closeP 3 (a1, l1, ks) = (a1, l1 ++ [(3, 0, ks)], (l1.length : Int))) := by show _ = _; unfold closeP; rw [if_neg (by rw [HKL.out.1]; exact e1)]
      rw [HCL.out] at HFI
      clear h1 h2
      go_wp2
      go_ret
      have hq := HB4.out hn1x
      exact ⟨_, a1, _, false, U5, rfl, HR5, HU5, (by show _ ∨ _; first | exact HFI | (have h0 := HFI.out; simpa using h0)), ⟨hb1, hb2, by simp <;> omega⟩⟩
   ·have hj1 : ¬ (a1 : Int) < (s.size : Int) := by omega
    go_wp2_with fail
    go_quiet (fail)
    obtain ⟨W2, HW2⟩ : ∃ W2, Hid (W2 = V.drewN nq) := ⟨_, rfl⟩
    have HB2 : Hid (Below V.heap.size V W2) := by rw [HW2.out]; exact below_drewN (Below.refl _ _) _
    rw [← HW2.out]
    have HR2 : Hid (RS B p s W2 a1 l1 false U1) := HR1.out.below HB2.out
    have HU2 : Hid (Us w (pU p U) W2 (fun c => pU p U1 c ∨ v3.ownBlock = some c)) := HU1.out.below HB2.out
    have HOW2 : Hid (W2.ownsRow B 3 1 v3 n (rowCells ks)) := own_below HOW.out HB2.out
    have hB2 : B ≤ W2.heap.size := Nat.le_trans hBV HB2.out.size
    clear c0 c1 c2 HW2
    have HFI : Hid ((false = true ∧ (f = true ∨ P = none ∨ ∃ x, P = some x ∧ ¬ okStop s x.1)) ∨ (f = false ∧ false = false ∧ P = some (closeP 3 (a1, l1, ks)) ∧ okStop s a1)) := by
     rcases HF1.out with ⟨h, _⟩ | ⟨h1, _, h3, h5⟩
     ·cases h
     ·exact .inr ⟨h1, rfl, by rw [h3, altL_end (by rw [bt_end hin]; decide)]; rfl, h5⟩
    obtain ⟨ra, rc, rfl, HK0⟩ := rowOwn_of HOW2.out HKL.out.1
    have HK : Hid (RowOwn B W2.heap.size W2 ra ks) := HK0
    by_cases e1 : n = 1
    ·subst e1
     obtain ⟨b, o, rfl, hc⟩ := HK.out.toIn.num (i := 0) (by rw [HKL.out.1]; omega)
     obtain ⟨k, HKK⟩ : ∃ k, Hid (k = ks.getD 0 0) := ⟨_, rfl⟩
     rw [← HKK.out, Nat.add_zero] at hc
     have HCL : Hid (closeP 3 (a1, l1, ks) = (a1, l1, k)) := by show _ = _; unfold closeP; rw [if_pos HKL.out.1, ← HKK.out]
     rw [HCL.out] at HFI
     go_wp2
     go_ret
     exact ⟨k, a1, l1, false, U1, rfl, HR2, HU2.out.trans ⟨KeptP.refl _ _, fun c hc => .inl (.inl hc)⟩, (by show _ ∨ _; first | exact HFI | (have h0 := HFI.out; simpa using h0)), ⟨hb1, hb2, hb3⟩⟩
    ·have hne1 : ¬ (n : Int) = 1 := by omega
     have hdec : decide ((n : Int) = 1) = false := by simp; omega
     have hn1x : 1 < n := by omega
     go_wp2_with fail
     refine (put_any B p s a1 l1 false U1 3 0 ra n rc ks W2 HR2.out hB2 (by omega) HK.out HKL.out.1 (fun h c hc hu => HNE.out c (by rw [hc]; rfl) hu)).mono ?_
     rintro e w5 ⟨rfl, U5, h1, h2⟩
     have HR5 : Hid (RS B p s w5 a1 (l1 ++ [(3, 0, ks)]) false U5) := h1
     have HU5 : Hid (Us w (pU p U) w5 (pU p U5)) := HU2.out.trans (h2.weak (fun c hc => hc.elim (fun h => .inl (.inl h)) (fun h => .inl (.inr (by rw [h]; rfl)))))
     have HCL : Hid (closeP 3 (a1, l1, ks) = (a1, l1 ++ [(3, 0, ks)], (l1.length : Int))) := by show _ = _; unfold closeP; rw [if_neg (by rw [HKL.out.1]; exact e1)]
     rw [HCL.out] at HFI
     clear h1 h2
     go_wp2
     go_ret
     have hq := HB4.out hn1x
     exact ⟨_, a1, _, false, U5, rfl, HR5, HU5, (by show _ ∨ _; first | exact HFI | (have h0 := HFI.out; simpa using h0)), ⟨hb1, hb2, by simp <;> omega⟩⟩
theorem altSOK (s : ByteArray) (hs : s.size ≤ 20) (d : Nat) : AltSOK s d := by
 induction d with
 | zero => exact fun B p a l f U w h1 h2 h3 h4 h5 => altsS_any s 0 (fun d' h => absurd h (by omega)) hs B p a l f U w h1 h2 h3 h4 h5
 | succ d ih =>
  refine fun B p a l f U w h1 h2 h3 h4 h5 => altsS_any s (d + 1) (fun d' h => ?_) hs B p a l f U w h1 h2 h3 h4 h5
  have e : d = d' := by omega
  subst e
  exact ih
end Go.Proofs.YtbepmeipjdpipaaGreat

namespace Go.Proofs.YtbepmeipjdpipaaGreat
open Go.RowKit
set_option maxHeartbeats 2000000 in
set_option maxRecDepth 100000 in
theorem specRead_any (s : ByteArray) (w : World) (hs : s.size ≤ 9223372036854775807) :
  Calls Tryz.prog 41 #[.string s] w fun e w' => RPost (readP s) w e w' := by
 by_cases h20 : 20 < s.size
 ·have hd : (20 : Int) < (s.size : Int) := by omega
  have HN : Hid (readP s = none) := readP_size h20
  obtain ⟨W, HW⟩ : ∃ W, Hid (W = w.alloc (.cells #[.slice none 0 0] 73)) := ⟨_, rfl⟩
  have HBW : Hid (Below w.heap.size w W) := by rw [HW.out]; exact below1 _ _
  have c2 : W.cell? ⟨w.heap.size, 0, none⟩ = some (.slice none 0 0) := by rw [HW.out]; exact (blk_one w w.heap.size rfl _ _).cell (i := 0) (by omega)
  go_enter Tryz.func41, Tryz.ntmps41
  go_wp2
  rw [← HW.out]
  refine bodyPost_ret (v := .tuple #[.agg #[.slice none 0 0], .bool false]) (by simp [results, Tryz.results41, go_sem, c2]) rfl ?_
  rw [HN.out]
  exact ⟨none, 0, 0, false, rfl, rfl, rfl, .inl rfl, HBW⟩
 ·have hd : ¬ (20 : Int) < (s.size : Int) := by omega
  obtain ⟨E, HE⟩ : ∃ E, Hid (E = w.heap.size) := ⟨_, rfl⟩
  obtain ⟨W, HW⟩ : ∃ W, Hid (W = (w.alloc (.cells #[.slice none 0 0] 73)).alloc (.cells #[.string s, .int .i64 0, .bool false, .slice none 0 0] 96)) := ⟨_, rfl⟩
  have HBW : Hid (Below w.heap.size w W) := by rw [HW.out]; exact below2 w _ _
  have HSW : Hid (W.heap.size = E + 2) := by rw [HW.out, HE.out]; show _ = _; simp
  have HK2 : Hid (Blk W E 1 (fun _ => .slice none 0 0)) := by rw [HW.out]; exact (blk_one w E HE.out _ _).alloc _
  have HR0 : Hid (RS (E + 2) (E + 1) s W 0 [] false (fun _ => False)) := by
   refine ⟨.slice none 0 0, ?_, LaidO.nil _ _, fun h => h⟩
   rw [HW.out]
   have e : E + 1 = (w.alloc (.cells #[.slice none 0 0] 73)).heap.size := by rw [HE.out]; simp
   rw [e]
   exact blk_new _ #[.string s, .int .i64 0, .bool false, .slice none 0 0] _ _ (fun i hi => by
    have hi2 : i < 4 := hi
    rcases (show i = 0 ∨ i = 1 ∨ i = 2 ∨ i = 3 by omega) with rfl | rfl | rfl | rfl <;> rfl)
  obtain ⟨P, HP⟩ : ∃ P, Hid (P = altP (bt s) s.size (s.size + 1) 0 []) := ⟨_, rfl⟩
  have HC := altSOK s (by omega) s.size (E + 2) (E + 1) 0 [] false (fun _ => False) W HR0.out (by rw [HSW.out]; exact Nat.le_refl _) (by simp; omega) (Nat.zero_le _) (by omega)
  rw [← HP.out] at HC
  obtain ⟨Z, HZ⟩ : ∃ Z, Hid (Z = readP s) := ⟨_, rfl⟩
  have HN1 : Hid (P = none → Z = none) := fun h => by rw [HZ.out]; exact readP_none h20 HP.out h
  have HN2 : Hid (∀ a l k, P = some (a, l, k) → Z = if a < s.size then none else if okP l = true then some l else none) := fun a l k h => by rw [HZ.out]; exact readP_some h20 HP.out h
  rw [← HZ.out]
  go_enter Tryz.func41, Tryz.ntmps41
  go_upto_region 4 with fail
  rw [← HE.out, ← HW.out]
  clear HW
  go_wp2_with fail
  refine HC.mono ?_
  rintro e w1 ⟨k, a1, l1, f1, U1, rfl, HR1, HU1, HF1, HB1⟩
  clear HC
  have hb1 := HB1.out.1
  have hb2 := HB1.out.2.1
  have hb3 := HB1.out.2.2
  simp only [List.length_nil, Nat.zero_add, Nat.sub_zero] at hb2 hb3
  have HBX1 : Hid (Below E W w1) := HU1.out.1.to_below (by rw [HSW.out]; omega) (fun c hc => (show c = E + 1 ∨ False from hc).elim (fun h => by omega) (fun h => h.elim))
  have HBX1' : Hid (Below (E + 1) W w1) := HU1.out.1.to_below (by rw [HSW.out]; omega) (fun c hc => (show c = E + 1 ∨ False from hc).elim (fun h => by omega) (fun h => h.elim))
  have HBE1 : Hid (Below w.heap.size w w1) := HBW.out.trans (HBX1.out.mono (by rw [HE.out]; exact Nat.le_refl _))
  obtain ⟨v, hbl, hla, hup⟩ := HR1.out
  obtain ⟨a9, cap9, rfl, hpo⟩ := hla.toOwn
  have HPO : Hid (PathOwn (E + 2) w1.heap.size w1 a9 l1) := hpo
  obtain ⟨n9, HN9⟩ : ∃ n, Hid (l1.length = n) := ⟨_, rfl⟩
  rw [HN9.out] at hbl hb3
  have r0 : w1.cell? ⟨E + 1, 0, none⟩ = some (.string s) := hbl.cell (i := 0) (by omega)
  have r1 : w1.cell? ⟨E + 1, 1, none⟩ = some (.int .i64 (a1 : Int)) := hbl.cell (i := 1) (by omega)
  have r2 : w1.cell? ⟨E + 1, 2, none⟩ = some (.bool f1) := hbl.cell (i := 2) (by omega)
  have r3 : w1.cell? ⟨E + 1, 3, none⟩ = some (.slice a9 n9 cap9) := hbl.cell (i := 3) (by omega)
  have HBL : Hid (Blk w1 (E + 1) 4 (rcS s a1 (.slice a9 n9 cap9) f1)) := hbl
  have HK21 : Hid (Blk w1 E 1 (fun _ => .slice none 0 0)) := HK2.out.of_block (HBX1'.out.block E (by omega))
  have hsz1 := HBX1.out.size
  have hS := HSW.out
  clear hbl hla hup hpo
  obtain ⟨W2, HW2⟩ : ∃ W2, Hid (W2 = w1.alloc (.cells #[.slice a9 n9 cap9] 73)) := ⟨_, rfl⟩
  have HBW2 : Hid (Below w1.heap.size w1 W2) := by rw [HW2.out]; exact below1 _ _
  have HBE2 : Hid (Below w.heap.size w W2) := HBE1.out.trans (HBW2.out.mono HBE1.out.size)
  have HK22 : Hid (Blk W2 E 1 (fun _ => .slice none 0 0)) := HK21.out.of_block (HBW2.out.block _ HK21.out.lt)
  have HBX : Hid (Blk W2 w1.heap.size 1 (fun _ => .slice a9 n9 cap9)) := by rw [HW2.out]; exact blk_one w1 _ rfl _ _
  have HPO2 : Hid (PathOwn (E + 2) w1.heap.size W2 a9 l1) := HPO.out.below HBW2.out (Nat.le_refl _)
  have HBL2 : Hid (Blk W2 (E + 1) 4 (rcS s a1 (.slice a9 n9 cap9) f1)) := HBL.out.of_block (HBW2.out.block _ HBL.out.lt)
  have HNO : Hid (∀ wx, Below w.heap.size w wx → Z = none → RPost Z w (.returned (.tuple #[.agg #[.slice none 0 0], .bool false])) wx) := by
   intro wx h1 h2
   rw [h2]
   exact ⟨none, 0, 0, false, rfl, rfl, rfl, .inl rfl, h1⟩
  go_upto_region 6 with fail
  rw [← HW2.out]
  clear r0 r1 r2 r3 HW2
  have r1 : W2.cell? ⟨E + 1, 1, none⟩ = some (.int .i64 (a1 : Int)) := HBL2.out.cell (i := 1) (by omega)
  have r3 : W2.cell? ⟨E + 1, 2, none⟩ = some (.bool f1) := HBL2.out.cell (i := 2) (by omega)
  have c2 := HK22.out.cell (i := 0) (by omega)
  have z2 := HK22.out.frozen 0
  have x0 := HBX.out.cell (i := 0) (by omega)
  have HSETN : Hid (∀ wx, Blk wx E 1 (fun _ => .slice none 0 0) → Blk (wx.setCell ⟨E, 0, none⟩ (.slice none 0 0)) E 1 (fun _ => .slice none 0 0)) := fun wx h => (h.set 0 (by omega) _).congr (fun i hi => by
   obtain rfl : i = 0 := by omega
   simp)
  rcases Bool.eq_false_or_eq_true f1 with hf | hf
  ·subst hf
   have HZN : Hid (Z = none) := by
    rcases HF1.out with ⟨_, h | h | ⟨x, h, h2⟩⟩ | ⟨_, h, _⟩
    ·cases h
    ·exact HN1.out h
    ·have := HN2.out x.1 x.2.1 x.2.2 h
     rw [if_pos (Nat.lt_of_not_le (fun e => h2 (.inl e)))] at this
     exact this
    ·cases h
   have k2 := (HSETN.out _ HK22.out).cell (i := 0) (by omega)
   go_wp2
   refine bodyPost_ret (v := .tuple #[.agg #[.slice none 0 0], .bool false]) (by simp [results, Tryz.results41, go_sem, k2]) rfl ?_
   exact HNO.out _ (HBE2.out.setCell (by rw [HE.out]; exact Nat.le_refl _) _) HZN.out
  ·subst hf
   have HZX : Hid (Z = if a1 < s.size then none else if okP l1 = true then some l1 else none) := by
    rcases HF1.out with ⟨h, _⟩ | ⟨_, _, h3, _⟩
    ·cases h
    ·exact HN2.out _ _ _ h3
   by_cases hlt : a1 < s.size
   ·have hl1 : (a1 : Int) < (s.size : Int) := by omega
    have HZN : Hid (Z = none) := by show _ = _; rw [HZX.out, if_pos hlt]
    have k2 := (HSETN.out _ HK22.out).cell (i := 0) (by omega)
    go_wp2
    refine bodyPost_ret (v := .tuple #[.agg #[.slice none 0 0], .bool false]) (by simp [results, Tryz.results41, go_sem, k2]) rfl ?_
    exact HNO.out _ (HBE2.out.setCell (by rw [HE.out]; exact Nat.le_refl _) _) HZN.out
   ·have hl1 : ¬ (a1 : Int) < (s.size : Int) := by omega
    obtain ⟨R, HRO⟩ : ∃ r, Hid (r = okP l1) := ⟨_, rfl⟩
    rw [if_neg hlt, ← HRO.out] at HZX
    have hn9 : n9 ≤ 1048576 := by omega
    have HKL : Hid (∀ i, i < n9 → (pat l1 i).2.2.length ≤ 1048576) := by
     have h3 : P = some (a1, l1, k) := by
      rcases HF1.out with ⟨h, _⟩ | ⟨_, _, h, _⟩
      ·cases h
      ·exact h
     rw [HP.out] at h3
     have hkb := altP_kb (by omega) _ _ _ _ KB.nil h3
     intro i hi
     exact Nat.le_trans (hkb.pat (by rw [HN9.out]; exact hi)) (by omega)
    go_wp2_with fail
    refine (specPathOk_any (E + 2) w1.heap.size a9 n9 cap9 l1 R W2 HPO2.out.toIn HBW2.out.size HN9.out hn9 HKL.out HRO.out).mono ?_
    rintro e w3 ⟨rfl, HB3⟩
    have HBE3 : Hid (Below w.heap.size w w3) := HBE2.out.trans (HB3.out.mono HBE2.out.size)
    have HK23 : Hid (Blk w3 E 1 (fun _ => .slice none 0 0)) := HK22.out.of_block (HB3.out.block _ HK22.out.lt)
    have HX3 : Hid (Blk w3 w1.heap.size 1 (fun _ => .slice a9 n9 cap9)) := HBX.out.of_block (HB3.out.block _ HBX.out.lt)
    have HPO3 : Hid (PathOwn (E + 2) w1.heap.size w3 a9 l1) := HPO2.out.below HB3.out HBW2.out.size
    clear c2 z2 x0 r1 r3
    have c2 := HK23.out.cell (i := 0) (by omega)
    have z2 := HK23.out.frozen 0
    have x0 := HX3.out.cell (i := 0) (by omega)
    rcases Bool.eq_false_or_eq_true R with hR | hR
    ·subst hR
     have HZS : Hid (Z = some l1) := by show _ = _; rw [HZX.out]; rfl
     have k2 : (w3.setCell ⟨E, 0, none⟩ (.slice a9 n9 cap9)).cell? ⟨E, 0, none⟩ = some (.slice a9 n9 cap9) := (HK23.out.set 0 (by omega) (.slice a9 n9 cap9)).cell (i := 0) (by omega)
     go_wp2
     refine bodyPost_ret (v := .tuple #[.agg #[.slice a9 n9 cap9], .bool true]) (by simp [results, Tryz.results41, go_sem, k2]) rfl ?_
     rw [HZS.out]
     refine ⟨a9, n9, cap9, true, rfl, rfl, HN9, ?_, HBE3.out.setCell (by rw [HE.out]; exact Nat.le_refl _) _⟩
     exact (HPO3.out.setCell (by omega) _).wide (by have := HE.out; omega) (by have := HB3.out.size; have := HBW2.out.size; simp; omega)
    ·subst hR
     have HZN : Hid (Z = none) := by show _ = _; rw [HZX.out]; rfl
     have k2 := (HSETN.out _ HK23.out).cell (i := 0) (by omega)
     go_wp2
     refine bodyPost_ret (v := .tuple #[.agg #[.slice none 0 0], .bool false]) (by simp [results, Tryz.results41, go_sem, k2]) rfl ?_
     exact HNO.out _ (HBE3.out.setCell (by rw [HE.out]; exact Nat.le_refl _) _) HZN.out
end Go.Proofs.YtbepmeipjdpipaaGreat

namespace Go.Proofs.YtbepmeipjdpipaaGreat
open Go.RowKit
set_option maxHeartbeats 2000000 in
set_option maxRecDepth 100000 in
theorem readPath_any (s : ByteArray) (w : World) (hs : s.size ≤ 9223372036854775807) :
  Calls Tryz.prog 46 #[.string s] w fun e w' => RPost (readP s) w e w' := by
 by_cases h20 : 20 < s.size
 ·have hd : (20 : Int) < (s.size : Int) := by omega
  have HN : Hid (readP s = none) := readP_size h20
  obtain ⟨W, HW⟩ : ∃ W, Hid (W = w.alloc (.cells #[.slice none 0 0] 73)) := ⟨_, rfl⟩
  have HBW : Hid (Below w.heap.size w W) := by rw [HW.out]; exact below1 _ _
  have c2 : W.cell? ⟨w.heap.size, 0, none⟩ = some (.slice none 0 0) := by rw [HW.out]; exact (blk_one w w.heap.size rfl _ _).cell (i := 0) (by omega)
  go_enter Tryz.func46, Tryz.ntmps46
  go_wp2
  rw [← HW.out]
  refine bodyPost_ret (v := .tuple #[.agg #[.slice none 0 0], .bool false]) (by simp [results, Tryz.results46, go_sem, c2]) rfl ?_
  rw [HN.out]
  exact ⟨none, 0, 0, false, rfl, rfl, rfl, .inl rfl, HBW⟩
 ·have hd : ¬ (20 : Int) < (s.size : Int) := by omega
  obtain ⟨E, HE⟩ : ∃ E, Hid (E = w.heap.size) := ⟨_, rfl⟩
  obtain ⟨W, HW⟩ : ∃ W, Hid (W = (w.alloc (.cells #[.slice none 0 0] 73)).alloc (.cells #[.string s, .int .i64 0, .slice none 0 0, .bool false] 109)) := ⟨_, rfl⟩
  have HBW : Hid (Below w.heap.size w W) := by rw [HW.out]; exact below2 w _ _
  have HSW : Hid (W.heap.size = E + 2) := by rw [HW.out, HE.out]; show _ = _; simp
  have HK2 : Hid (Blk W E 1 (fun _ => .slice none 0 0)) := by rw [HW.out]; exact (blk_one w E HE.out _ _).alloc _
  have HR0 : Hid (RI (E + 2) (E + 1) s W 0 [] false (fun _ => False)) := by
   refine ⟨.slice none 0 0, ?_, LaidO.nil _ _, fun h => h⟩
   rw [HW.out]
   have e : E + 1 = (w.alloc (.cells #[.slice none 0 0] 73)).heap.size := by rw [HE.out]; simp
   rw [e]
   exact blk_new _ #[.string s, .int .i64 0, .slice none 0 0, .bool false] _ _ (fun i hi => by
    have hi2 : i < 4 := hi
    rcases (show i = 0 ∨ i = 1 ∨ i = 2 ∨ i = 3 by omega) with rfl | rfl | rfl | rfl <;> rfl)
  obtain ⟨P, HP⟩ : ∃ P, Hid (P = altP (bt s) s.size (s.size + 1) 0 []) := ⟨_, rfl⟩
  have HC := altOK s (by omega) s.size (E + 2) (E + 1) 0 [] false (fun _ => False) W HR0.out (by rw [HSW.out]; exact Nat.le_refl _) (by simp; omega) (Nat.zero_le _) (by omega)
  rw [← HP.out] at HC
  obtain ⟨Z, HZ⟩ : ∃ Z, Hid (Z = readP s) := ⟨_, rfl⟩
  have HN1 : Hid (P = none → Z = none) := fun h => by rw [HZ.out]; exact readP_none h20 HP.out h
  have HN2 : Hid (∀ a l k, P = some (a, l, k) → Z = if a < s.size then none else if okP l = true then some l else none) := fun a l k h => by rw [HZ.out]; exact readP_some h20 HP.out h
  rw [← HZ.out]
  go_enter Tryz.func46, Tryz.ntmps46
  go_upto_region 4 with fail
  rw [← HE.out, ← HW.out]
  clear HW
  go_wp2_with fail
  refine HC.mono ?_
  rintro e w1 ⟨k, a1, l1, f1, U1, rfl, HR1, HU1, HF1, HB1⟩
  clear HC
  have hb1 := HB1.out.1
  have hb2 := HB1.out.2.1
  have hb3 := HB1.out.2.2
  simp only [List.length_nil, Nat.zero_add, Nat.sub_zero] at hb2 hb3
  have HBX1 : Hid (Below E W w1) := HU1.out.1.to_below (by rw [HSW.out]; omega) (fun c hc => (show c = E + 1 ∨ False from hc).elim (fun h => by omega) (fun h => h.elim))
  have HBX1' : Hid (Below (E + 1) W w1) := HU1.out.1.to_below (by rw [HSW.out]; omega) (fun c hc => (show c = E + 1 ∨ False from hc).elim (fun h => by omega) (fun h => h.elim))
  have HBE1 : Hid (Below w.heap.size w w1) := HBW.out.trans (HBX1.out.mono (by rw [HE.out]; exact Nat.le_refl _))
  obtain ⟨v, hbl, hla, hup⟩ := HR1.out
  obtain ⟨a9, cap9, rfl, hpo⟩ := hla.toOwn
  have HPO : Hid (PathOwn (E + 2) w1.heap.size w1 a9 l1) := hpo
  obtain ⟨n9, HN9⟩ : ∃ n, Hid (l1.length = n) := ⟨_, rfl⟩
  rw [HN9.out] at hbl hb3
  have r0 : w1.cell? ⟨E + 1, 0, none⟩ = some (.string s) := hbl.cell (i := 0) (by omega)
  have r1 : w1.cell? ⟨E + 1, 1, none⟩ = some (.int .i64 (a1 : Int)) := hbl.cell (i := 1) (by omega)
  have r2 : w1.cell? ⟨E + 1, 2, none⟩ = some (.slice a9 n9 cap9) := hbl.cell (i := 2) (by omega)
  have r3 : w1.cell? ⟨E + 1, 3, none⟩ = some (.bool f1) := hbl.cell (i := 3) (by omega)
  have HBL : Hid (Blk w1 (E + 1) 4 (rcI s a1 (.slice a9 n9 cap9) f1)) := hbl
  have HK21 : Hid (Blk w1 E 1 (fun _ => .slice none 0 0)) := HK2.out.of_block (HBX1'.out.block E (by omega))
  have hsz1 := HBX1.out.size
  have hS := HSW.out
  clear hbl hla hup hpo
  obtain ⟨W2, HW2⟩ : ∃ W2, Hid (W2 = w1.alloc (.cells #[.slice a9 n9 cap9] 73)) := ⟨_, rfl⟩
  have HBW2 : Hid (Below w1.heap.size w1 W2) := by rw [HW2.out]; exact below1 _ _
  have HBE2 : Hid (Below w.heap.size w W2) := HBE1.out.trans (HBW2.out.mono HBE1.out.size)
  have HK22 : Hid (Blk W2 E 1 (fun _ => .slice none 0 0)) := HK21.out.of_block (HBW2.out.block _ HK21.out.lt)
  have HBX : Hid (Blk W2 w1.heap.size 1 (fun _ => .slice a9 n9 cap9)) := by rw [HW2.out]; exact blk_one w1 _ rfl _ _
  have HPO2 : Hid (PathOwn (E + 2) w1.heap.size W2 a9 l1) := HPO.out.below HBW2.out (Nat.le_refl _)
  have HBL2 : Hid (Blk W2 (E + 1) 4 (rcI s a1 (.slice a9 n9 cap9) f1)) := HBL.out.of_block (HBW2.out.block _ HBL.out.lt)
  have HNO : Hid (∀ wx, Below w.heap.size w wx → Z = none → RPost Z w (.returned (.tuple #[.agg #[.slice none 0 0], .bool false])) wx) := by
   intro wx h1 h2
   rw [h2]
   exact ⟨none, 0, 0, false, rfl, rfl, rfl, .inl rfl, h1⟩
  go_upto_region 6 with fail
  rw [← HW2.out]
  clear r0 r1 r2 r3 HW2
  have r1 : W2.cell? ⟨E + 1, 1, none⟩ = some (.int .i64 (a1 : Int)) := HBL2.out.cell (i := 1) (by omega)
  have r3 : W2.cell? ⟨E + 1, 3, none⟩ = some (.bool f1) := HBL2.out.cell (i := 3) (by omega)
  have c2 := HK22.out.cell (i := 0) (by omega)
  have z2 := HK22.out.frozen 0
  have x0 := HBX.out.cell (i := 0) (by omega)
  have HSETN : Hid (∀ wx, Blk wx E 1 (fun _ => .slice none 0 0) → Blk (wx.setCell ⟨E, 0, none⟩ (.slice none 0 0)) E 1 (fun _ => .slice none 0 0)) := fun wx h => (h.set 0 (by omega) _).congr (fun i hi => by
   obtain rfl : i = 0 := by omega
   simp)
  rcases Bool.eq_false_or_eq_true f1 with hf | hf
  ·subst hf
   have HZN : Hid (Z = none) := by
    rcases HF1.out with ⟨_, h | h⟩ | ⟨_, h, _⟩
    ·cases h
    ·exact HN1.out h
    ·cases h
   have k2 := (HSETN.out _ HK22.out).cell (i := 0) (by omega)
   go_wp2
   refine bodyPost_ret (v := .tuple #[.agg #[.slice none 0 0], .bool false]) (by simp [results, Tryz.results46, go_sem, k2]) rfl ?_
   exact HNO.out _ (HBE2.out.setCell (by rw [HE.out]; exact Nat.le_refl _) _) HZN.out
  ·subst hf
   have HZX : Hid (Z = if a1 < s.size then none else if okP l1 = true then some l1 else none) := by
    rcases HF1.out with ⟨h, _⟩ | ⟨_, _, h3⟩
    ·cases h
    ·exact HN2.out _ _ _ h3
   by_cases hlt : a1 < s.size
   ·have hl1 : (a1 : Int) < (s.size : Int) := by omega
    have HZN : Hid (Z = none) := by show _ = _; rw [HZX.out, if_pos hlt]
    have k2 := (HSETN.out _ HK22.out).cell (i := 0) (by omega)
    go_wp2
    refine bodyPost_ret (v := .tuple #[.agg #[.slice none 0 0], .bool false]) (by simp [results, Tryz.results46, go_sem, k2]) rfl ?_
    exact HNO.out _ (HBE2.out.setCell (by rw [HE.out]; exact Nat.le_refl _) _) HZN.out
   ·have hl1 : ¬ (a1 : Int) < (s.size : Int) := by omega
    obtain ⟨R, HRO⟩ : ∃ r, Hid (r = okP l1) := ⟨_, rfl⟩
    rw [if_neg hlt, ← HRO.out] at HZX
    have hn9 : n9 ≤ 1048576 := by omega
    have HKL : Hid (∀ i, i < n9 → (pat l1 i).2.2.length ≤ 1048576) := by
     have h3 : P = some (a1, l1, k) := by
      rcases HF1.out with ⟨h, _⟩ | ⟨_, _, h⟩
      ·cases h
      ·exact h
     rw [HP.out] at h3
     have hkb := altP_kb (by omega) _ _ _ _ KB.nil h3
     intro i hi
     exact Nat.le_trans (hkb.pat (by rw [HN9.out]; exact hi)) (by omega)
    go_wp2_with fail
    refine (pathOk_any (E + 2) w1.heap.size a9 n9 cap9 l1 R W2 HPO2.out.toIn HBW2.out.size HN9.out hn9 HKL.out HRO.out).mono ?_
    rintro e w3 ⟨rfl, HB3⟩
    have HBE3 : Hid (Below w.heap.size w w3) := HBE2.out.trans (HB3.out.mono HBE2.out.size)
    have HK23 : Hid (Blk w3 E 1 (fun _ => .slice none 0 0)) := HK22.out.of_block (HB3.out.block _ HK22.out.lt)
    have HX3 : Hid (Blk w3 w1.heap.size 1 (fun _ => .slice a9 n9 cap9)) := HBX.out.of_block (HB3.out.block _ HBX.out.lt)
    have HPO3 : Hid (PathOwn (E + 2) w1.heap.size w3 a9 l1) := HPO2.out.below HB3.out HBW2.out.size
    clear c2 z2 x0 r1 r3
    have c2 := HK23.out.cell (i := 0) (by omega)
    have z2 := HK23.out.frozen 0
    have x0 := HX3.out.cell (i := 0) (by omega)
    rcases Bool.eq_false_or_eq_true R with hR | hR
    ·subst hR
     have HZS : Hid (Z = some l1) := by show _ = _; rw [HZX.out]; rfl
     have k2 : (w3.setCell ⟨E, 0, none⟩ (.slice a9 n9 cap9)).cell? ⟨E, 0, none⟩ = some (.slice a9 n9 cap9) := (HK23.out.set 0 (by omega) (.slice a9 n9 cap9)).cell (i := 0) (by omega)
     go_wp2
     refine bodyPost_ret (v := .tuple #[.agg #[.slice a9 n9 cap9], .bool true]) (by simp [results, Tryz.results46, go_sem, k2]) rfl ?_
     rw [HZS.out]
     refine ⟨a9, n9, cap9, true, rfl, rfl, HN9, ?_, HBE3.out.setCell (by rw [HE.out]; exact Nat.le_refl _) _⟩
     exact (HPO3.out.setCell (by omega) _).wide (by have := HE.out; omega) (by have := HB3.out.size; have := HBW2.out.size; simp; omega)
    ·subst hR
     have HZN : Hid (Z = none) := by show _ = _; rw [HZX.out]; rfl
     have k2 := (HSETN.out _ HK23.out).cell (i := 0) (by omega)
     go_wp2
     refine bodyPost_ret (v := .tuple #[.agg #[.slice none 0 0], .bool false]) (by simp [results, Tryz.results46, go_sem, k2]) rfl ?_
     exact HNO.out _ (HBE3.out.setCell (by rw [HE.out]; exact Nat.le_refl _) _) HZN.out
end Go.Proofs.YtbepmeipjdpipaaGreat

namespace Go.Proofs.YtbepmeipjdpipaaGreat
open Go.RowKit
theorem specAtom_any (x0 x1 x2 : Tx) (w : World) (hs : x0.size ≤ 1048576 ∧ x1.size ≤ 1048576 ∧ x2.size ≤ 1048576) :
  Calls Tryz.prog 21 #[.agg #[.string x0, .string x1, .string x2]] w fun e w' => e = .returned (.bool (atOk (x0, x1, x2))) ∧ Hid (Below w.heap.size w w') :=
 specAtom_of x0 x1 x2 w hs (fun w0 => specRead_any x1 w0 (by omega)) fun lo hi a n cap w0 h1 h2 h3 h4 =>
  (specNfaOf_any lo hi a n cap (atP x1) w0 h1 h2 h3 (by omega) (fun i _ => by have := (atP_len x1).2 i; omega)).mono fun _ _ ⟨s, aa, an, ac, eb, m, mc, h, _, _, _, _, hb⟩ => ⟨s, aa, an, ac, eb, m, mc, h, hb⟩
theorem implAtom_any (x0 x1 x2 : Tx) (w : World) (hs : x0.size ≤ 1048576 ∧ x1.size ≤ 1048576 ∧ x2.size ≤ 1048576) :
  Calls Tryz.prog 27 #[.agg #[.string x0, .string x1, .string x2]] w fun e w' => e = .returned (.bool (atOk (x0, x1, x2))) ∧ Hid (Below w.heap.size w w') :=
 implAtom_of x0 x1 x2 w hs (fun w0 => readPath_any x1 w0 (by omega)) fun lo hi a n cap w0 h1 h2 h3 h4 =>
  (implNfaOf_any lo hi a n cap (atP x1) w0 h1 h2 h3 (by omega) (fun i _ => by have := (atP_len x1).2 i; omega)).mono fun _ _ ⟨s, aa, an, ac, eb, m, mc, h, _, _, _, _, hb⟩ => ⟨s, aa, an, ac, eb, m, mc, h, hb⟩
end Go.Proofs.YtbepmeipjdpipaaGreat

namespace Go.Proofs.YtbepmeipjdpipaaGreat
open Go.RowKit
theorem empty_eq {s : ByteArray} : (s.toList == (⟨#[]⟩ : ByteArray).toList) = decide (s = ⟨#[]⟩) := toList_eq
set_option maxHeartbeats 8000000 in
set_option maxRecDepth 100000 in
theorem filterOk_any (lo hi : Nat) (a : Option Addr) (n cap : Nat) (ns : List Tx) (f0 : Tx) (f1 : Int) (f2 : Tx) (f3 : Int) (w : World) (ha : FlIn 1 lo hi w a n (tC ns)) (hh : hi ≤ w.heap.size) (hn : ns.length = n) (hm : n ≤ 9223372036854775807) :
  Calls Tryz.prog 29 #[.agg #[.string f0, .int .i64 f1, .string f2, .int .i64 f3], .slice a n cap] w fun e w' => e = .returned (.bool (flOk ns (f0, f1, f2, f3))) ∧ Hid (Below w.heap.size w w') := by
 obtain ⟨B, HB⟩ : ∃ B, Hid (B = w.heap.size) := ⟨_, rfl⟩
 obtain ⟨W, HW⟩ : ∃ W, Hid (W = w.alloc (.cells #[.string f0, .int .i64 f1, .string f2, .int .i64 f3] 53)) := ⟨_, rfl⟩
 have HBW : Hid (Below w.heap.size w W) := by rw [HW.out]; exact below1 w _
 have HX : Hid (Blk W B 4 (q4 (.string f0) (.int .i64 f1) (.string f2) (.int .i64 f3))) := by rw [HW.out]; exact blk_four w B HB.out _ _ _ _ _
 obtain ⟨u0, HU0⟩ : ∃ b : Bool, Hid (b = inL f0 ns) := ⟨_, rfl⟩
 obtain ⟨u2, HU2⟩ : ∃ b : Bool, Hid (b = inL f2 ns) := ⟨_, rfl⟩
 have HC : Hid (∀ (x : Tx) (r : Bool), r = inL x ns → Calls Tryz.prog 50 #[.slice a n cap, .string x] W fun e w' => e = .returned (.bool r) ∧ W = w') := fun x r hr => contains_any lo hi a n cap ns x r W (ha.below HBW.out hh) hn hm hr
 obtain ⟨r, HR⟩ : ∃ b : Bool, Hid (b = flOk ns (f0, f1, f2, f3)) := ⟨_, rfl⟩
 have HRE : Hid (r = (u0 && (decide (1 ≤ f1) && decide (f1 ≤ 2)) && ((f2.toList == (⟨#[]⟩ : ByteArray).toList) || (u2 && decide (f3 = 0))) && (decide (0 ≤ f3) && decide (f3 ≤ 99)))) := by rw [HR.out, HU0.out, HU2.out]; rfl
 rw [← HR.out]
 clear ha hh hn hm HR
 go_enter Tryz.func29, Tryz.ntmps29
 obtain ⟨FF, HFF⟩ : ∃ F : Func, Hid (F = Tryz.f29) := ⟨_, rfl⟩
 rw [← HFF.out]
 go_upto_region 1 with fail
 rw [← HB.out]
 first | rw [← HW.out] | (rw [show _ = W from HW.out.symm])
 clear HW
 obtain ⟨q0, q1, q2, q3⟩ := q_cells HX.out
 by_cases ho : f1 = 1
 ·subst ho
  have HO : Hid ((decide ((1 : Int) ≤ 1) && decide ((1 : Int) ≤ 2)) = true) := by show _ = _; decide
  rw [HO.out, Bool.and_true] at HRE
  go_wp2_with fail
  refine (HC.out f0 u0 HU0.out).mono ?_
  rintro e1 w1 ⟨rfl, rfl⟩
  rcases Bool.eq_false_or_eq_true u0 with h | h
  ·subst h
   by_cases he : f2 = ⟨#[]⟩
   ·subst he
    have HE : Hid (r = (decide (0 ≤ f3) && decide (f3 ≤ 99))) := by show _ = _; rw [HRE.out]; simp
    by_cases h0 : 0 ≤ f3
    ·have hr : r = decide (f3 ≤ 99) := by rw [HE.out, decide_eq_true h0]; rfl
     subst hr
     go_wp2
     obtain rfl : FF = Tryz.f29 := HFF.out
     go_ret
     exact ⟨rfl, HBW.out⟩
    ·have hr : r = false := by rw [HE.out, decide_eq_false h0]; rfl
     subst hr
     go_wp2
     obtain rfl : FF = Tryz.f29 := HFF.out
     go_ret
     exact ⟨rfl, HBW.out⟩
   ·have he0 : (f2.toList == (⟨#[]⟩ : ByteArray).toList) = false := by rw [empty_eq]; exact decide_eq_false he
    have HE : Hid (r = ((u2 && decide (f3 = 0)) && (decide (0 ≤ f3) && decide (f3 ≤ 99)))) := by show _ = _; rw [HRE.out, he0]; rfl
    have he1 : f2.toList.isEmpty = false := by rw [List.isEmpty_eq_false_iff]; intro e; exact he (toList_inj.1 (by rw [e]; decide +kernel))
    clear he0
    have HNE : Hid (¬ f2 = ⟨#[]⟩) := he
    clear he
    by_cases h0 : f3 = 0
    ·subst h0
     have hr : r = u2 := by rw [HE.out]; simp
     subst hr
     go_wp2_with fail
     refine (HC.out f2 r HU2.out).mono ?_
     rintro e1 w1 ⟨rfl, rfl⟩
     go_wp2
     obtain rfl : FF = Tryz.f29 := HFF.out
     go_ret
     exact ⟨rfl, HBW.out⟩
    ·have hr : r = false := by rw [HE.out, decide_eq_false h0]; simp
     subst hr
     go_wp2
     obtain rfl : FF = Tryz.f29 := HFF.out
     go_ret
     exact ⟨rfl, HBW.out⟩
  ·subst h
   have hr : r = false := by rw [HRE.out]; simp
   subst hr
   go_wp2
   obtain rfl : FF = Tryz.f29 := HFF.out
   go_ret
   exact ⟨rfl, HBW.out⟩
 by_cases ho2 : f1 = 2
 ·subst ho2
  have HO : Hid ((decide ((1 : Int) ≤ 2) && decide ((2 : Int) ≤ 2)) = true) := by show _ = _; decide
  rw [HO.out, Bool.and_true] at HRE
  go_wp2_with fail
  refine (HC.out f0 u0 HU0.out).mono ?_
  rintro e1 w1 ⟨rfl, rfl⟩
  rcases Bool.eq_false_or_eq_true u0 with h | h
  ·subst h
   by_cases he : f2 = ⟨#[]⟩
   ·subst he
    have HE : Hid (r = (decide (0 ≤ f3) && decide (f3 ≤ 99))) := by show _ = _; rw [HRE.out]; simp
    by_cases h0 : 0 ≤ f3
    ·have hr : r = decide (f3 ≤ 99) := by rw [HE.out, decide_eq_true h0]; rfl
     subst hr
     go_wp2
     obtain rfl : FF = Tryz.f29 := HFF.out
     go_ret
     exact ⟨rfl, HBW.out⟩
    ·have hr : r = false := by rw [HE.out, decide_eq_false h0]; rfl
     subst hr
     go_wp2
     obtain rfl : FF = Tryz.f29 := HFF.out
     go_ret
     exact ⟨rfl, HBW.out⟩
   ·have he0 : (f2.toList == (⟨#[]⟩ : ByteArray).toList) = false := by rw [empty_eq]; exact decide_eq_false he
    have HE : Hid (r = ((u2 && decide (f3 = 0)) && (decide (0 ≤ f3) && decide (f3 ≤ 99)))) := by show _ = _; rw [HRE.out, he0]; rfl
    have he1 : f2.toList.isEmpty = false := by rw [List.isEmpty_eq_false_iff]; intro e; exact he (toList_inj.1 (by rw [e]; decide +kernel))
    clear he0
    have HNE : Hid (¬ f2 = ⟨#[]⟩) := he
    clear he
    by_cases h0 : f3 = 0
    ·subst h0
     have hr : r = u2 := by rw [HE.out]; simp
     subst hr
     go_wp2_with fail
     refine (HC.out f2 r HU2.out).mono ?_
     rintro e1 w1 ⟨rfl, rfl⟩
     go_wp2
     obtain rfl : FF = Tryz.f29 := HFF.out
     go_ret
     exact ⟨rfl, HBW.out⟩
    ·have hr : r = false := by rw [HE.out, decide_eq_false h0]; simp
     subst hr
     go_wp2
     obtain rfl : FF = Tryz.f29 := HFF.out
     go_ret
     exact ⟨rfl, HBW.out⟩
  ·subst h
   have hr : r = false := by rw [HRE.out]; simp
   subst hr
   go_wp2
   obtain rfl : FF = Tryz.f29 := HFF.out
   go_ret
   exact ⟨rfl, HBW.out⟩
 have hr : r = false := by
  rw [HRE.out]
  have : (decide (1 ≤ f1) && decide (f1 ≤ 2)) = false := by
   rw [Bool.and_eq_false_iff, decide_eq_false_iff_not, decide_eq_false_iff_not]; omega
  rw [this]; simp
 subst hr
 go_wp2
 obtain rfl : FF = Tryz.f29 := HFF.out
 go_ret
 exact ⟨rfl, HBW.out⟩
set_option maxHeartbeats 8000000 in
set_option maxRecDepth 100000 in
theorem chosenOk_any (lo hi : Nat) (a : Option Addr) (n cap : Nat) (o : List Tx) (lo2 hi2 : Nat) (b : Option Addr) (m cap2 : Nat) (ns : List Tx) (w : World) (ha : FlIn 1 lo hi w a n (tC o)) (hn : o.length = n) (hm : n ≤ 1048576) (hcap : n ≤ cap ∧ cap ≤ 9223372036854775807) (hb : FlIn 1 lo2 hi2 w b m (tC ns)) (hn2 : ns.length = m) (hm2 : m ≤ 9223372036854775807) :
  Calls Tryz.prog 30 #[.slice a n cap, .slice b m cap2] w fun e w' => e = .returned (.bool (ousOk ns o n && decide (0 < o.length))) ∧ w = w' := by
 have HA : Hid (FlIn 1 lo hi w a n (tC o)) := ha
 have HN : Hid (o.length = n) := hn
 have HC : Hid (∀ (x : Tx) (r : Bool), r = inL x ns → Calls Tryz.prog 50 #[.slice b m cap2, .string x] w fun e w' => e = .returned (.bool r) ∧ w = w') := fun x r hr => contains_any lo2 hi2 b m cap2 ns x r w hb hn2 hm2 hr
 have HD : Hid (∀ (k : Nat) (x : Tx) (r : Bool), k ≤ n → r = inL x (o.take k) → Calls Tryz.prog 50 #[.slice a k cap, .string x] w fun e w' => e = .returned (.bool r) ∧ w = w') := fun k x r hk hr => contains_any lo hi a k cap (o.take k) x r w (ha.take hk) (by rw [List.length_take]; omega) (by omega) hr
 obtain ⟨r, HR⟩ : ∃ b : Bool, Hid (b = (ousOk ns o n && decide (0 < o.length))) := ⟨_, rfl⟩
 rw [← HR.out]
 clear ha hn hb hn2 hm2
 obtain ⟨hcp, hcm⟩ := hcap
 go_enter Tryz.func30, Tryz.ntmps30
 go_wp2
 go_loop [9] (fun i => ∃ k : Nat, i = .int .i64 (k : Int) ∧ k ≤ n ∧ Hid (ousOk ns o k = true)) (fun i => n - (intOf i).toNat)
 case atStart => exact ⟨0, rfl, by omega, rfl⟩
 case round =>
  obtain ⟨k, rfl, hk, HP⟩ := hrel
  by_cases hlt : k < n
  ·have hlt1 : (k : Int) < (n : Int) := by omega
   have hlt0 : (0 : Int) ≤ (k : Int) := by omega
   obtain ⟨bb, oo, rfl, _, _, hc⟩ := HA.out.at hlt
   obtain ⟨y, HY⟩ : ∃ y, Hid (y = tat o k) := ⟨_, rfl⟩
   have p0 := hc 0 (by omega)
   rw [tC0, ← HY.out, Nat.mul_one, Nat.add_zero] at p0
   clear hc
   obtain ⟨u, HU⟩ : ∃ b : Bool, Hid (b = inL y ns) := ⟨_, rfl⟩
   obtain ⟨v, HV⟩ : ∃ b : Bool, Hid (b = inL y (o.take k)) := ⟨_, rfl⟩
   have HSU : Hid (ouOk ns o k = (u && !v)) := by rw [HU.out, HV.out, HY.out]; rfl
   have HNO : Hid (ouOk ns o k = false → r = false) := fun h => by rw [HR.out, ousOk_no (i := k) (by omega) h]; rfl
   go_wp2_with fail
   refine (HC.out y u HU.out).mono ?_
   rintro e1 w1 ⟨rfl, rfl⟩
   rcases Bool.eq_false_or_eq_true u with h | h
   ·subst h
    go_wp2_with fail
    refine (HD.out k y v (by omega) HV.out).mono ?_
    rintro e1 w1 ⟨rfl, rfl⟩
    rcases Bool.eq_false_or_eq_true v with h | h
    ·subst h
     have hr : r = false := HNO.out (by rw [HSU.out]; rfl)
     subst hr
     go_wp2
     go_ret
     exact ⟨rfl, rfl⟩
    ·subst h
     go_wp2
     go_roundw
     case rel => exact ⟨k + 1, by go_num, by omega, by show _ = _; rw [ousOk_succ, HP.out, HSU.out]; rfl⟩
     case measure => simp [intOf]; omega
   ·subst h
    have hr : r = false := HNO.out (by rw [HSU.out]; rfl)
    subst hr
    go_wp2
    go_ret
    exact ⟨rfl, rfl⟩
  ·obtain rfl : k = n := by omega
   have hr : r = decide ((k : Int) > 0) := by
    rw [HR.out, HP.out, HN.out]
    by_cases h : 0 < k
    ·rw [decide_eq_true h, decide_eq_true (by omega)]; rfl
    ·rw [decide_eq_false h, decide_eq_false (by omega)]; rfl
   subst hr
   go_wp2
   go_ret
   exact ⟨rfl, rfl⟩
end Go.Proofs.YtbepmeipjdpipaaGreat
