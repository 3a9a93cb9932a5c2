import Derived.Test.YtbepmeipjdpipaaGreatJn22
import Derived.Test.YtbepmeipjdpipaaGreatJn05
import Derived.Test.YtbepmeipjdpipaaGreatJn17
import Derived.Test.YtbepmeipjdpipaaGreatJn09
import Derived.Test.YtbepmeipjdpipaaGreatJn14
import Derived.Test.YtbepmeipjdpipaaGreatJn20
namespace Go.Proofs.YtbepmeipjdpipaaGreat
open Go.RowKit

theorem RS.kept {B p a : Nat} {s : ByteArray} {w w' : World} {l : List Pc} {f : Bool} {U q : Nat → Prop} (h : RS B p s w a l f U) (hk : KeptP q w w') (hn : ∀ c, pU p U c → ¬ q c) : RS B p s w' a l f U := by
  obtain ⟨v, h1, h2, h3⟩ := h
  exact ⟨v, hk.blk h1 (hn p (.inl rfl)), h2.kept hk (fun c hc => hn c (.inr hc)), h3⟩
def BadP (s : ByteArray) (f : Bool) (P : Option St) : Prop := f = true ∨ P = none ∨ ∃ x, P = some x ∧ ¬ okStop s x.1
theorem closeP_at (op : Int) (x : Nat × List Pc × List Int) : (closeP op x).1 = x.1 := by unfold closeP; split <;> rfl
theorem lab_not {s : ByteArray} {a : Nat} (h : (isLab (bt s a) || decide (bt s a = 40)) = false) {N : Nat} {A : Nat → List Pc → Option St} {l : List Pc} : oneP (bt s) N A a l = none := by
  simp only [Bool.or_eq_false_iff, decide_eq_false_iff_not] at h
  unfold oneP sglP
  rw [if_neg (by rw [h.1]; simp), if_neg h.2]
  rfl

set_option maxHeartbeats 4000000 in
set_option maxRecDepth 100000 in
theorem rowS_any (s : ByteArray) (d : Nat) (hd : ∀ d', d = d' + 1 → AltSOK s d') (hs : s.size ≤ 20) (B p a : Nat) (l : List Pc) (f : Bool) (U : Nat → Prop) (w : World) (hr : RS B p s w a l f U) (hB : B ≤ w.heap.size) (hl : l.length + 3 * (2 * s.size - a) ≤ 200) (ha : a ≤ s.size) (had : s.size ≤ a + d) :
    Calls Tryz.prog 71 #[.pointer (some ⟨p, 0, none⟩)] w fun e w' => WPost s.size B p s w a l f U (rowP (bt s) s.size (altP (bt s) s.size d) a l) e w' := by
  have HD : Hid (∀ (B p a : Nat) (l : List Pc) (f : Bool) (U : Nat → Prop) (w : World), RS B p s w a l f U → B ≤ w.heap.size → l.length + 3 * (2 * s.size - a) ≤ 200 → a ≤ s.size → s.size ≤ a + d → Calls Tryz.prog 86 #[.pointer (some ⟨p, 0, none⟩)] w fun e w' => NPost s.size B p s w a l f U (oneP (bt s) s.size (altP (bt s) s.size d) a l) e w') := fun B p a l f U w h1 h2 h3 h4 h5 => one_any s d hd hs B p a l f U w h1 h2 h3 h4 h5
  have HC := HD.out B p a l f U w hr hB hl ha had
  obtain ⟨O, HO⟩ : ∃ O, Hid (O = oneP (bt s) s.size (altP (bt s) s.size d)) := ⟨_, rfl⟩
  obtain ⟨P, HP⟩ : ∃ P, Hid (P = rowP (bt s) s.size (altP (bt s) s.size d) a l) := ⟨_, rfl⟩
  have HPQ : Hid (P = rowK O (bt s) s.size (O a l)) := by show _ = _; rw [HP.out, HO.out]; rfl
  have HLN : Hid (∀ a1 l1, (isLab (bt s a1) || decide (bt s a1 = 40)) = false → O a1 l1 = none) := fun a1 l1 h => by rw [HO.out]; exact lab_not h
  rw [← HO.out] at HD HC
  rw [← HP.out]
  obtain ⟨i3, hi3, hz30, hz31, hz32⟩ := info_parts Tryz.info3
  clear hr hd HP HO
  go_enter Tryz.func71, Tryz.ntmps71
  go_wp2_with fail
  refine HC.mono ?_
  rintro e w1 ⟨k0, a0, l0, f0, U0, rfl, HR0, HU0, HF0, HB0⟩
  obtain ⟨hb1, hb2, hb3, _⟩ := HB0.out
  have hB1 : B ≤ w1.heap.size := by have := HU0.out.1.size; omega
  have hw01 := HU0.out.1.size
  have HBA : Hid (Below w1.heap.size w1 (w1.alloc (.cells #[.int .i64 k0] 3))) := below1 _ _
  have HOW0 : Hid ((w1.alloc (.cells #[.int .i64 k0] 3)).ownsRow B 3 1 (.slice (some ⟨w1.heap.size, 0, none⟩) 1 1) 1 (rowCells [k0])) := own_oneR w1 B (.int .i64 k0) hB1
  have hR0l := HR0.out.lt
  clear HC
  go_wp2_with fail
  go_loopw [3] (fun v wr => ∃ (v3 : Value) (ks : List Int) (n a1 : Nat) (l1 : List Pc) (f1 : Bool) (U1 : Nat → Prop) (fu : Nat), v3 = v ∧ Hid (wr.ownsRow B 3 1 v3 n (rowCells ks)) ∧ Hid (∀ c, v3.ownBlock = some c → ¬ pU p U1 c) ∧ Hid (ks.length = n ∧ 1 ≤ n ∧ n ≤ 100) ∧ Hid (RS B p s wr a1 l1 f1 U1) ∧ Hid (Us w (pU p U) wr (fun c => pU p U1 c ∨ v3.ownBlock = some c)) ∧
    Hid ((f1 = true ∧ BadP s f P) ∨ (f = false ∧ f1 = false ∧ P = (rowL O (bt s) fu a1 l1 ks).map (closeP 2))) ∧ Hid (s.size < a1 + fu) ∧ Hid (a ≤ a1 ∧ a1 ≤ 2 * s.size - a ∧ l1.length ≤ l.length + 3 * (a1 - a) ∧ (1 < n → l1.length + 2 ≤ l.length + 3 * (a1 - a)) ∧ n ≤ 1 + (a1 - a))) (fun _ wr => s.size + 1 - atOf wr p)
  case atStart =>
    refine ⟨_, [k0], 1, a0, l0, f0, U0, s.size + 1, rfl, HOW0, ?_, ⟨rfl, by omega, by omega⟩, HR0.out.below HBA.out, ⟨(HU0.out.below HBA.out).1, fun c hc => ?_⟩, ?_, by show _ < _; omega, ⟨hb1, hb2, hb3, fun h => by omega, by omega⟩⟩
    · intro c hc hu
      have e5 : w1.heap.size = c := by simpa [Value.ownBlock] using hc
      have := hR0l c hu; omega
    · rcases hc with hc | hc
      · exact HU0.out.2 c hc
      · have e5 : w1.heap.size = c := by simpa [Value.ownBlock] using hc
        right; omega
    · rcases HF0.out with ⟨h1, h2 | h2⟩ | ⟨h1, h2, h3⟩
      · exact .inl ⟨h1, .inl h2⟩
      · exact .inl ⟨h1, .inr (.inl (by rw [HPQ.out, h2]; rfl))⟩
      · exact .inr ⟨h1, h2, by rw [HPQ.out, h3]; rfl⟩
  case round =>
    obtain ⟨V, rfl⟩ : ∃ V, V = wr := ⟨_, rfl⟩
    obtain ⟨v3, ks, n, a1, l1, f1, U1, fu, rfl, HOW, HNE, HKL, HR1, HU1, HF1, HFU, HB1⟩ := hrel
    obtain ⟨hb1, hb2, hb3, hb4, hb5⟩ := HB1.out
    have HB4 : Hid (1 < n → l1.length + 2 ≤ l.length + 3 * (a1 - a)) := hb4
    have hfu := HFU.out
    have hn1 := HKL.out.2.1
    clear hb4
    obtain ⟨c0, c1, c2, _⟩ := HR1.out.cells
    have hBV : B ≤ V.heap.size := by have := HU1.out.1.size; omega
    rcases Bool.eq_false_or_eq_true f1 with hf | hf
    · subst hf
      go_wp2_with fail
      go_quiet (fail)
      obtain ⟨W2, HW2⟩ : ∃ W2, Hid (W2 = V.drewN nq) := ⟨_, rfl⟩
      have HB2 : Hid (Below V.heap.size V W2) := by rw [HW2.out]; exact below_drewN (Below.refl _ _) _
      rw [← HW2.out]
      have HR2 : Hid (RS B p s W2 a1 l1 true U1) := HR1.out.below HB2.out
      have HU2 : Hid (Us w (pU p U) W2 (fun c => pU p U1 c ∨ v3.ownBlock = some c)) := HU1.out.below HB2.out
      have HOW2 : Hid (W2.ownsRow B 3 1 v3 n (rowCells ks)) := own_below HOW.out HB2.out
      have hB2 : B ≤ W2.heap.size := Nat.le_trans hBV HB2.out.size
      clear c0 c1 c2 HW2
      have HFI : Hid ((true = true ∧ (f = true ∨ P = none ∨ ∃ x, P = some x ∧ ¬ okStop s x.1)) ∨ (f = false ∧ true = false ∧ P = some (closeP 2 (a1, l1, ks)) ∧ okStop s a1)) := by
        rcases HF1.out with ⟨_, h⟩ | ⟨_, h, _⟩
        · exact .inl ⟨rfl, h⟩
        · cases h
      obtain ⟨ra, rc, rfl, HK0⟩ := rowOwn_of HOW2.out HKL.out.1
      have HK : Hid (RowOwn B W2.heap.size W2 ra ks) := HK0
      by_cases e1 : n = 1
      · subst e1
        obtain ⟨b, o, rfl, hc⟩ := HK.out.toIn.num (i := 0) (by rw [HKL.out.1]; omega)
        obtain ⟨k, HKK⟩ : ∃ k, Hid (k = ks.getD 0 0) := ⟨_, rfl⟩
        rw [← HKK.out, Nat.add_zero] at hc
        have HCL : Hid (closeP 2 (a1, l1, ks) = (a1, l1, k)) := by show _ = _; unfold closeP; rw [if_pos HKL.out.1, ← HKK.out]
        rw [HCL.out] at HFI
        go_wp2
        go_ret
        exact ⟨k, a1, l1, true, U1, rfl, HR2, HU2.out.trans ⟨KeptP.refl _ _, fun c hc => .inl (.inl hc)⟩, (by show _ ∨ _; first | exact HFI | (have h0 := HFI.out; simpa using h0)), ⟨hb1, hb2, hb3⟩⟩
      · have hne1 : ¬ (n : Int) = 1 := by omega
        have hdec : decide ((n : Int) = 1) = false := by simp; omega
        have hn1x : 1 < n := by omega
        go_wp2_with fail
        refine (put_any B p s a1 l1 true U1 2 0 ra n rc ks W2 HR2.out hB2 (by omega) HK.out HKL.out.1 (fun h c hc hu => HNE.out c (by rw [hc]; rfl) hu)).mono ?_
        rintro e w5 ⟨rfl, U5, h1, h2⟩
        have HR5 : Hid (RS B p s w5 a1 (l1 ++ [(2, 0, ks)]) true U5) := h1
        have HU5 : Hid (Us w (pU p U) w5 (pU p U5)) := HU2.out.trans (h2.weak (fun c hc => hc.elim (fun h => .inl (.inl h)) (fun h => .inl (.inr (by rw [h]; rfl)))))
        have HCL : Hid (closeP 2 (a1, l1, ks) = (a1, l1 ++ [(2, 0, ks)], (l1.length : Int))) := by show _ = _; unfold closeP; rw [if_neg (by rw [HKL.out.1]; exact e1)]
        rw [HCL.out] at HFI
        clear h1 h2
        go_wp2
        go_ret
        have hq := HB4.out hn1x
        exact ⟨_, a1, _, true, U5, rfl, HR5, HU5, (by show _ ∨ _; first | exact HFI | (have h0 := HFI.out; simpa using h0)), ⟨hb1, hb2, by simp <;> omega⟩⟩
    · subst hf
      by_cases hin : a1 < s.size
      · have hj1 : (a1 : Int) < (s.size : Int) := by omega
        have hj0 : (0 : Int) ≤ (a1 : Int) := by omega
        obtain ⟨x, HX⟩ : ∃ x, Hid (x = bt s a1) := ⟨_, rfl⟩
        have hsx : s[a1].toNat = x := by rw [HX.out, bt_lt hin]
        by_cases n124 : x = 124
        · subst n124
          go_wp2_with fail
          go_quiet (fail)
          obtain ⟨W2, HW2⟩ : ∃ W2, Hid (W2 = V.drewN nq) := ⟨_, rfl⟩
          have HB2 : Hid (Below V.heap.size V W2) := by rw [HW2.out]; exact below_drewN (Below.refl _ _) _
          rw [← HW2.out]
          have HR2 : Hid (RS B p s W2 a1 l1 false U1) := HR1.out.below HB2.out
          have HU2 : Hid (Us w (pU p U) W2 (fun c => pU p U1 c ∨ v3.ownBlock = some c)) := HU1.out.below HB2.out
          have HOW2 : Hid (W2.ownsRow B 3 1 v3 n (rowCells ks)) := own_below HOW.out HB2.out
          have hB2 : B ≤ W2.heap.size := Nat.le_trans hBV HB2.out.size
          clear c0 c1 c2 HW2
          have HFI : Hid ((false = true ∧ (f = true ∨ P = none ∨ ∃ x, P = some x ∧ ¬ okStop s x.1)) ∨ (f = false ∧ false = false ∧ P = some (closeP 2 (a1, l1, ks)) ∧ okStop s a1)) := by
            rcases HF1.out with ⟨h, _⟩ | ⟨h1, _, h3⟩
            · cases h
            · exact .inr ⟨h1, rfl, by rw [h3, rowL_end (by rw [← HX.out]; decide)]; rfl, .inr (.inr HX.out.symm)⟩
          obtain ⟨ra, rc, rfl, HK0⟩ := rowOwn_of HOW2.out HKL.out.1
          have HK : Hid (RowOwn B W2.heap.size W2 ra ks) := HK0
          by_cases e1 : n = 1
          · subst e1
            obtain ⟨b, o, rfl, hc⟩ := HK.out.toIn.num (i := 0) (by rw [HKL.out.1]; omega)
            obtain ⟨k, HKK⟩ : ∃ k, Hid (k = ks.getD 0 0) := ⟨_, rfl⟩
            rw [← HKK.out, Nat.add_zero] at hc
            have HCL : Hid (closeP 2 (a1, l1, ks) = (a1, l1, k)) := by show _ = _; unfold closeP; rw [if_pos HKL.out.1, ← HKK.out]
            rw [HCL.out] at HFI
            go_wp2
            go_ret
            exact ⟨k, a1, l1, false, U1, rfl, HR2, HU2.out.trans ⟨KeptP.refl _ _, fun c hc => .inl (.inl hc)⟩, (by show _ ∨ _; first | exact HFI | (have h0 := HFI.out; simpa using h0)), ⟨hb1, hb2, hb3⟩⟩
          · have hne1 : ¬ (n : Int) = 1 := by omega
            have hdec : decide ((n : Int) = 1) = false := by simp; omega
            have hn1x : 1 < n := by omega
            go_wp2_with fail
            refine (put_any B p s a1 l1 false U1 2 0 ra n rc ks W2 HR2.out hB2 (by omega) HK.out HKL.out.1 (fun h c hc hu => HNE.out c (by rw [hc]; rfl) hu)).mono ?_
            rintro e w5 ⟨rfl, U5, h1, h2⟩
            have HR5 : Hid (RS B p s w5 a1 (l1 ++ [(2, 0, ks)]) false U5) := h1
            have HU5 : Hid (Us w (pU p U) w5 (pU p U5)) := HU2.out.trans (h2.weak (fun c hc => hc.elim (fun h => .inl (.inl h)) (fun h => .inl (.inr (by rw [h]; rfl)))))
            have HCL : Hid (closeP 2 (a1, l1, ks) = (a1, l1 ++ [(2, 0, ks)], (l1.length : Int))) := by show _ = _; unfold closeP; rw [if_neg (by rw [HKL.out.1]; exact e1)]
            rw [HCL.out] at HFI
            clear h1 h2
            go_wp2
            go_ret
            have hq := HB4.out hn1x
            exact ⟨_, a1, _, false, U5, rfl, HR5, HU5, (by show _ ∨ _; first | exact HFI | (have h0 := HFI.out; simpa using h0)), ⟨hb1, hb2, by simp <;> omega⟩⟩
        · have m124 : ¬ (x : Int) = 124 := by omega
          have d124 : decide ((x : Int) = 124) = false := by simp; omega
          have b124 : ((x : Int) != 124) = true := by rw [bne_iff_ne]; exact m124
          by_cases n41 : x = 41
          · subst n41
            go_wp2_with fail
            go_quiet (fail)
            obtain ⟨W2, HW2⟩ : ∃ W2, Hid (W2 = V.drewN nq) := ⟨_, rfl⟩
            have HB2 : Hid (Below V.heap.size V W2) := by rw [HW2.out]; exact below_drewN (Below.refl _ _) _
            rw [← HW2.out]
            have HR2 : Hid (RS B p s W2 a1 l1 false U1) := HR1.out.below HB2.out
            have HU2 : Hid (Us w (pU p U) W2 (fun c => pU p U1 c ∨ v3.ownBlock = some c)) := HU1.out.below HB2.out
            have HOW2 : Hid (W2.ownsRow B 3 1 v3 n (rowCells ks)) := own_below HOW.out HB2.out
            have hB2 : B ≤ W2.heap.size := Nat.le_trans hBV HB2.out.size
            clear c0 c1 c2 HW2
            have HFI : Hid ((false = true ∧ (f = true ∨ P = none ∨ ∃ x, P = some x ∧ ¬ okStop s x.1)) ∨ (f = false ∧ false = false ∧ P = some (closeP 2 (a1, l1, ks)) ∧ okStop s a1)) := by
              rcases HF1.out with ⟨h, _⟩ | ⟨h1, _, h3⟩
              · cases h
              · exact .inr ⟨h1, rfl, by rw [h3, rowL_end (by rw [← HX.out]; decide)]; rfl, .inr (.inl HX.out.symm)⟩
            obtain ⟨ra, rc, rfl, HK0⟩ := rowOwn_of HOW2.out HKL.out.1
            have HK : Hid (RowOwn B W2.heap.size W2 ra ks) := HK0
            by_cases e1 : n = 1
            · subst e1
              obtain ⟨b, o, rfl, hc⟩ := HK.out.toIn.num (i := 0) (by rw [HKL.out.1]; omega)
              obtain ⟨k, HKK⟩ : ∃ k, Hid (k = ks.getD 0 0) := ⟨_, rfl⟩
              rw [← HKK.out, Nat.add_zero] at hc
              have HCL : Hid (closeP 2 (a1, l1, ks) = (a1, l1, k)) := by show _ = _; unfold closeP; rw [if_pos HKL.out.1, ← HKK.out]
              rw [HCL.out] at HFI
              go_wp2
              go_ret
              exact ⟨k, a1, l1, false, U1, rfl, HR2, HU2.out.trans ⟨KeptP.refl _ _, fun c hc => .inl (.inl hc)⟩, (by show _ ∨ _; first | exact HFI | (have h0 := HFI.out; simpa using h0)), ⟨hb1, hb2, hb3⟩⟩
            · have hne1 : ¬ (n : Int) = 1 := by omega
              have hdec : decide ((n : Int) = 1) = false := by simp; omega
              have hn1x : 1 < n := by omega
              go_wp2_with fail
              refine (put_any B p s a1 l1 false U1 2 0 ra n rc ks W2 HR2.out hB2 (by omega) HK.out HKL.out.1 (fun h c hc hu => HNE.out c (by rw [hc]; rfl) hu)).mono ?_
              rintro e w5 ⟨rfl, U5, h1, h2⟩
              have HR5 : Hid (RS B p s w5 a1 (l1 ++ [(2, 0, ks)]) false U5) := h1
              have HU5 : Hid (Us w (pU p U) w5 (pU p U5)) := HU2.out.trans (h2.weak (fun c hc => hc.elim (fun h => .inl (.inl h)) (fun h => .inl (.inr (by rw [h]; rfl)))))
              have HCL : Hid (closeP 2 (a1, l1, ks) = (a1, l1 ++ [(2, 0, ks)], (l1.length : Int))) := by show _ = _; unfold closeP; rw [if_neg (by rw [HKL.out.1]; exact e1)]
              rw [HCL.out] at HFI
              clear h1 h2
              go_wp2
              go_ret
              have hq := HB4.out hn1x
              exact ⟨_, a1, _, false, U5, rfl, HR5, HU5, (by show _ ∨ _; first | exact HFI | (have h0 := HFI.out; simpa using h0)), ⟨hb1, hb2, by simp <;> omega⟩⟩
          · have m41 : ¬ (x : Int) = 41 := by omega
            have d41 : decide ((x : Int) = 41) = false := by simp; omega
            have b41 : ((x : Int) != 41) = true := by rw [bne_iff_ne]; exact m41
            go_wp2_with fail
            go_quiet (fail)
            obtain ⟨W2, HW2⟩ : ∃ W2, Hid (W2 = V.drewN nq) := ⟨_, rfl⟩
            have HB2 : Hid (Below V.heap.size V W2) := by rw [HW2.out]; exact below_drewN (Below.refl _ _) _
            rw [← HW2.out]
            have HR2 : Hid (RS B p s W2 a1 l1 false U1) := HR1.out.below HB2.out
            have HU2 : Hid (Us w (pU p U) W2 (fun c => pU p U1 c ∨ v3.ownBlock = some c)) := HU1.out.below HB2.out
            have HOW2 : Hid (W2.ownsRow B 3 1 v3 n (rowCells ks)) := own_below HOW.out HB2.out
            have hB2 : B ≤ W2.heap.size := Nat.le_trans hBV HB2.out.size
            clear c0 c1 c2 HW2
            obtain ⟨fv, rfl⟩ : ∃ fv, fu = fv + 1 := ⟨fu - 1, by omega⟩
            have HC := HD.out B p a1 l1 false U1 W2 HR2.out hB2 (by omega) (by omega) (by omega)
            go_wp2_with fail
            refine HC.mono ?_
            rintro e w3 ⟨k2, a2, l2, f2, U2, rfl, HR3, HU3, HF3, HB3⟩
            clear HC
            have HUS : Hid (Us W2 (pU p U1) w3 (pU p U2)) := HU3.out
            have hb6 := HB3.out.1
            have hb7 := HB3.out.2.1
            have hb8 := HB3.out.2.2.1
            have hb9 := HB3.out.2.2.2 rfl hin
            have HV2 : Hid (∀ c, v3.ownBlock = some c → c < W2.heap.size) := fun c hc => (HOW2.out.lt c hc).2
            have HOW3 : Hid (w3.ownsRow B 3 1 v3 n (rowCells ks)) := own_keptPR HOW2.out HUS.out.1 HNE.out
            have HNE3 : Hid (∀ c, v3.ownBlock = some c → ¬ pU p U2 c) := fun c hc hu => (HUS.out.2 c hu).elim (HNE.out c hc) (fun h => by have := HV2.out c hc; omega)
            have HUV : Hid (Us w (pU p U) w3 (fun c => pU p U2 c ∨ v3.ownBlock = some c)) := HU2.out.trans (HUS.out.frame _)
            have hB3 : B ≤ w3.heap.size := by have := HUS.out.1.size; omega
            have hown := HOW3.out.alloc (.cells #[.int .i64 k2] 3)
            have hn100 : n ≤ 1000 := by have := HKL.out.2.2; omega
            go_wp2_with (at_builtin; refine wpList_append_lies _ rfl (.tmp 48) (.tmp 51) 36 rfl B 3 i3 (.int .i64 0) 1 8 Tryz.underlying36 hi3 hz30 hz31 hz32 rfl (by decide) _ n (rowCells ks) rfl hown ⟨w3.heap.size, 0, none⟩ 1 1 [.int .i64 k2] rfl rfl (cell_one_new' w3 (.int .i64 k2) 3) (by simp [Value.oneCell']) (by decide) (by unfold maxLen; omega) (by omega) (by simp; omega) _ rfl ?_)
            intro g5 cap5 w6 hown5 hgrow5 hloc5 hg5
            obtain ⟨hk1, hk2, hk3⟩ := kid_more (n := n) (cap := cap5) (U := pU p U2) hgrow5 (hloc5.imp id (fun h => by simpa using h)) HR3.out.lt HNE3.out
            have HR6 : Hid (RS B p s w6 a2 l2 f2 U2) := HR3.out.kept hk1 (fun c hc e => HNE3.out c e hc)
            have HU6 : Hid (Us w (pU p U) w6 (fun c => pU p U2 c ∨ (Value.slice (some ⟨g5, 0, none⟩) (n + 1) cap5).ownBlock = some c)) := HUV.out.trans hk3
            have HN6 : Hid (∀ c, (Value.slice (some ⟨g5, 0, none⟩) (n + 1) cap5).ownBlock = some c → ¬ pU p U2 c) := hk2
            have HO6 : Hid (w6.ownsRow B 3 1 (.slice (some ⟨g5, 0, none⟩) (n + 1) cap5) (n + 1) (rowCells (ks ++ [k2]))) := by rw [rowCells_snoc]; exact hown5
            have HF6 : Hid ((f2 = true ∧ BadP s f P) ∨ (f = false ∧ f2 = false ∧ P = (rowL O (bt s) fv a2 l2 (ks ++ [k2])).map (closeP 2))) := by
              rcases HF1.out with ⟨h, _⟩ | ⟨h1, _, h3⟩
              · cases h
              · rcases Bool.eq_false_or_eq_true (isLab (bt s a1) || decide (bt s a1 = 40)) with hg | hg
                · rcases HF3.out with ⟨h4, h5 | h5⟩ | ⟨h4, h5, h6⟩
                  · cases h5
                  · exact .inl ⟨h4, .inr (.inl (by rw [h3, rowL_none hg h5]; rfl))⟩
                  · exact .inr ⟨h1, h5, by rw [h3, rowL_go hg h6]⟩
                · have hn := HLN.out a1 l1 hg
                  rcases HF3.out with ⟨h4, _⟩ | ⟨_, _, h6⟩
                  · refine .inl ⟨h4, .inr (.inr ⟨closeP 2 (a1, l1, ks), by rw [h3, rowL_end hg]; rfl, ?_⟩)⟩
                    rw [closeP_at]
                    rintro (h | h | h)
                    · have h' : s.size ≤ a1 := h
                      omega
                    · exact n41 (by rw [HX.out]; exact h)
                    · exact n124 (by rw [HX.out]; exact h)
                  · rw [hn] at h6; cases h6
            clear hown hown5 hgrow5 hloc5 hg5 hk1 hk2 hk3
            go_wp2
            go_roundw
            case rel => exact ⟨_, ks ++ [k2], n + 1, a2, l2, f2, U2, fv, rfl, HO6, HN6, ⟨by rw [List.length_append, HKL.out.1]; rfl, by omega, by omega⟩, HR6, HU6, HF6, by show _ < _; omega, ⟨by omega, by omega, by omega, fun _ => by omega, by omega⟩⟩
            case measure =>
              have e1 := HR1.out.atOf
              have e2 := HR6.out.atOf
              first | (rw [e1, e2]; omega) | (simp only [e1, e2]; omega) | omega
      · have hj1 : ¬ (a1 : Int) < (s.size : Int) := by omega
        go_wp2_with fail
        go_quiet (fail)
        obtain ⟨W2, HW2⟩ : ∃ W2, Hid (W2 = V.drewN nq) := ⟨_, rfl⟩
        have HB2 : Hid (Below V.heap.size V W2) := by rw [HW2.out]; exact below_drewN (Below.refl _ _) _
        rw [← HW2.out]
        have HR2 : Hid (RS B p s W2 a1 l1 false U1) := HR1.out.below HB2.out
        have HU2 : Hid (Us w (pU p U) W2 (fun c => pU p U1 c ∨ v3.ownBlock = some c)) := HU1.out.below HB2.out
        have HOW2 : Hid (W2.ownsRow B 3 1 v3 n (rowCells ks)) := own_below HOW.out HB2.out
        have hB2 : B ≤ W2.heap.size := Nat.le_trans hBV HB2.out.size
        clear c0 c1 c2 HW2
        have HFI : Hid ((false = true ∧ (f = true ∨ P = none ∨ ∃ x, P = some x ∧ ¬ okStop s x.1)) ∨ (f = false ∧ false = false ∧ P = some (closeP 2 (a1, l1, ks)) ∧ okStop s a1)) := by
          rcases HF1.out with ⟨h, _⟩ | ⟨h1, _, h3⟩
          · cases h
          · exact .inr ⟨h1, rfl, by rw [h3, rowL_end (by rw [bt_end hin]; decide)]; rfl, .inl (Nat.le_of_not_lt hin)⟩
        obtain ⟨ra, rc, rfl, HK0⟩ := rowOwn_of HOW2.out HKL.out.1
        have HK : Hid (RowOwn B W2.heap.size W2 ra ks) := HK0
        by_cases e1 : n = 1
        · subst e1
          obtain ⟨b, o, rfl, hc⟩ := HK.out.toIn.num (i := 0) (by rw [HKL.out.1]; omega)
          obtain ⟨k, HKK⟩ : ∃ k, Hid (k = ks.getD 0 0) := ⟨_, rfl⟩
          rw [← HKK.out, Nat.add_zero] at hc
          have HCL : Hid (closeP 2 (a1, l1, ks) = (a1, l1, k)) := by show _ = _; unfold closeP; rw [if_pos HKL.out.1, ← HKK.out]
          rw [HCL.out] at HFI
          go_wp2
          go_ret
          exact ⟨k, a1, l1, false, U1, rfl, HR2, HU2.out.trans ⟨KeptP.refl _ _, fun c hc => .inl (.inl hc)⟩, (by show _ ∨ _; first | exact HFI | (have h0 := HFI.out; simpa using h0)), ⟨hb1, hb2, hb3⟩⟩
        · have hne1 : ¬ (n : Int) = 1 := by omega
          have hdec : decide ((n : Int) = 1) = false := by simp; omega
          have hn1x : 1 < n := by omega
          go_wp2_with fail
          refine (put_any B p s a1 l1 false U1 2 0 ra n rc ks W2 HR2.out hB2 (by omega) HK.out HKL.out.1 (fun h c hc hu => HNE.out c (by rw [hc]; rfl) hu)).mono ?_
          rintro e w5 ⟨rfl, U5, h1, h2⟩
          have HR5 : Hid (RS B p s w5 a1 (l1 ++ [(2, 0, ks)]) false U5) := h1
          have HU5 : Hid (Us w (pU p U) w5 (pU p U5)) := HU2.out.trans (h2.weak (fun c hc => hc.elim (fun h => .inl (.inl h)) (fun h => .inl (.inr (by rw [h]; rfl)))))
          have HCL : Hid (closeP 2 (a1, l1, ks) = (a1, l1 ++ [(2, 0, ks)], (l1.length : Int))) := by show _ = _; unfold closeP; rw [if_neg (by rw [HKL.out.1]; exact e1)]
          rw [HCL.out] at HFI
          clear h1 h2
          go_wp2
          go_ret
          have hq := HB4.out hn1x
          exact ⟨_, a1, _, false, U5, rfl, HR5, HU5, (by show _ ∨ _; first | exact HFI | (have h0 := HFI.out; simpa using h0)), ⟨hb1, hb2, by simp <;> omega⟩⟩

end Go.Proofs.YtbepmeipjdpipaaGreat

namespace Go.Proofs.YtbepmeipjdpipaaGreat
open Go.RowKit

set_option maxHeartbeats 4000000 in
set_option maxRecDepth 100000 in
theorem altsS_any (s : ByteArray) (d : Nat) (hd : ∀ d', d = d' + 1 → AltSOK s d') (hs : s.size ≤ 20) (B p a : Nat) (l : List Pc) (f : Bool) (U : Nat → Prop) (w : World) (hr : RS B p s w a l f U) (hB : B ≤ w.heap.size) (hl : l.length + 3 * (2 * s.size - a) ≤ 200) (ha : a ≤ s.size) (had : s.size ≤ a + d) :
    Calls Tryz.prog 56 #[.pointer (some ⟨p, 0, none⟩)] w fun e w' => WPost s.size B p s w a l f U (altP (bt s) s.size (d + 1) a l) e w' := by
  have HD : Hid (∀ (B p a : Nat) (l : List Pc) (f : Bool) (U : Nat → Prop) (w : World), RS B p s w a l f U → B ≤ w.heap.size → l.length + 3 * (2 * s.size - a) ≤ 200 → a ≤ s.size → s.size ≤ a + d → Calls Tryz.prog 71 #[.pointer (some ⟨p, 0, none⟩)] w fun e w' => WPost s.size B p s w a l f U (rowP (bt s) s.size (altP (bt s) s.size d) a l) e w') := fun B p a l f U w h1 h2 h3 h4 h5 => rowS_any s d hd hs B p a l f U w h1 h2 h3 h4 h5
  have HC := HD.out B p a l f U w hr hB hl ha had
  obtain ⟨O, HO⟩ : ∃ O, Hid (O = rowP (bt s) s.size (altP (bt s) s.size d)) := ⟨_, rfl⟩
  obtain ⟨P, HP⟩ : ∃ P, Hid (P = altP (bt s) s.size (d + 1) a l) := ⟨_, rfl⟩
  have HPQ : Hid (P = altK O (bt s) s.size (O a l)) := by show _ = _; rw [HP.out, HO.out]; rfl

  rw [← HO.out] at HD HC
  rw [← HP.out]
  obtain ⟨i3, hi3, hz30, hz31, hz32⟩ := info_parts Tryz.info3
  clear hr hd HP HO
  go_enter Tryz.func56, Tryz.ntmps56
  go_wp2_with fail
  refine HC.mono ?_
  rintro e w1 ⟨k0, a0, l0, f0, U0, rfl, HR0, HU0, HF0, HB0⟩
  obtain ⟨hb1, hb2, hb3⟩ := HB0.out
  have hB1 : B ≤ w1.heap.size := by have := HU0.out.1.size; omega
  have hw01 := HU0.out.1.size
  have HBA : Hid (Below w1.heap.size w1 (w1.alloc (.cells #[.int .i64 k0] 3))) := below1 _ _
  have HOW0 : Hid ((w1.alloc (.cells #[.int .i64 k0] 3)).ownsRow B 3 1 (.slice (some ⟨w1.heap.size, 0, none⟩) 1 1) 1 (rowCells [k0])) := own_oneR w1 B (.int .i64 k0) hB1
  have hR0l := HR0.out.lt
  clear HC
  go_wp2_with fail
  go_loopw [3] (fun v wr => ∃ (v3 : Value) (ks : List Int) (n a1 : Nat) (l1 : List Pc) (f1 : Bool) (U1 : Nat → Prop) (fu : Nat), v3 = v ∧ Hid (wr.ownsRow B 3 1 v3 n (rowCells ks)) ∧ Hid (∀ c, v3.ownBlock = some c → ¬ pU p U1 c) ∧ Hid (ks.length = n ∧ 1 ≤ n ∧ n ≤ 100) ∧ Hid (RS B p s wr a1 l1 f1 U1) ∧ Hid (Us w (pU p U) wr (fun c => pU p U1 c ∨ v3.ownBlock = some c)) ∧
    Hid ((f1 = true ∧ BadP s f P) ∨ (f = false ∧ f1 = false ∧ P = (altL O (bt s) fu a1 l1 ks).map (closeP 3) ∧ okStop s a1)) ∧ Hid (s.size < a1 + fu) ∧ Hid (a ≤ a1 ∧ a1 ≤ 2 * s.size - a ∧ l1.length ≤ l.length + 3 * (a1 - a) ∧ (1 < n → l1.length + 3 ≤ l.length + 3 * (a1 - a)) ∧ n ≤ 1 + (a1 - a))) (fun _ wr => s.size + 1 - atOf wr p)
  case atStart =>
    refine ⟨_, [k0], 1, a0, l0, f0, U0, s.size + 1, rfl, HOW0, ?_, ⟨rfl, by omega, by omega⟩, HR0.out.below HBA.out, ⟨(HU0.out.below HBA.out).1, fun c hc => ?_⟩, ?_, by show _ < _; omega, ⟨hb1, hb2, hb3, fun h => by omega, by omega⟩⟩
    · intro c hc hu
      have e5 : w1.heap.size = c := by simpa [Value.ownBlock] using hc
      have := hR0l c hu; omega
    · rcases hc with hc | hc
      · exact HU0.out.2 c hc
      · have e5 : w1.heap.size = c := by simpa [Value.ownBlock] using hc
        right; omega
    · rcases HF0.out with ⟨h1, h2 | h2 | ⟨x, h2, h3⟩⟩ | ⟨h1, h2, h3, h4⟩
      · exact .inl ⟨h1, .inl h2⟩
      · exact .inl ⟨h1, .inr (.inl (by rw [HPQ.out, h2]; rfl))⟩
      · refine .inl ⟨h1, .inr (.inr ⟨closeP 3 (x.1, x.2.1, [x.2.2]), ?_, by rw [closeP_at]; exact h3⟩)⟩
        rw [HPQ.out, h2]
        show (altL O (bt s) (s.size + 1) x.1 x.2.1 [x.2.2]).map (closeP 3) = _
        rw [altL_end (fun e => h3 (.inr (.inr e)))]
        rfl
      · exact .inr ⟨h1, h2, by rw [HPQ.out, h3]; rfl, h4⟩
  case round =>
    obtain ⟨V, rfl⟩ : ∃ V, V = wr := ⟨_, rfl⟩
    obtain ⟨v3, ks, n, a1, l1, f1, U1, fu, rfl, HOW, HNE, HKL, HR1, HU1, HF1, HFU, HB1⟩ := hrel
    obtain ⟨hb1, hb2, hb3, hb4, hb5⟩ := HB1.out
    have HB4 : Hid (1 < n → l1.length + 3 ≤ l.length + 3 * (a1 - a)) := hb4
    have hfu := HFU.out
    have hn1 := HKL.out.2.1
    clear hb4
    obtain ⟨c0, c1, c2, _⟩ := HR1.out.cells
    have hBV : B ≤ V.heap.size := by have := HU1.out.1.size; omega
    rcases Bool.eq_false_or_eq_true f1 with hf | hf
    · subst hf
      go_wp2_with fail
      go_quiet (fail)
      obtain ⟨W2, HW2⟩ : ∃ W2, Hid (W2 = V.drewN nq) := ⟨_, rfl⟩
      have HB2 : Hid (Below V.heap.size V W2) := by rw [HW2.out]; exact below_drewN (Below.refl _ _) _
      rw [← HW2.out]
      have HR2 : Hid (RS B p s W2 a1 l1 true U1) := HR1.out.below HB2.out
      have HU2 : Hid (Us w (pU p U) W2 (fun c => pU p U1 c ∨ v3.ownBlock = some c)) := HU1.out.below HB2.out
      have HOW2 : Hid (W2.ownsRow B 3 1 v3 n (rowCells ks)) := own_below HOW.out HB2.out
      have hB2 : B ≤ W2.heap.size := Nat.le_trans hBV HB2.out.size
      clear c0 c1 c2 HW2
      have HFI : Hid ((true = true ∧ (f = true ∨ P = none ∨ ∃ x, P = some x ∧ ¬ okStop s x.1)) ∨ (f = false ∧ true = false ∧ P = some (closeP 3 (a1, l1, ks)) ∧ okStop s a1)) := by
        rcases HF1.out with ⟨_, h⟩ | ⟨_, h, _⟩
        · exact .inl ⟨rfl, h⟩
        · cases h
      obtain ⟨ra, rc, rfl, HK0⟩ := rowOwn_of HOW2.out HKL.out.1
      have HK : Hid (RowOwn B W2.heap.size W2 ra ks) := HK0
      by_cases e1 : n = 1
      · subst e1
        obtain ⟨b, o, rfl, hc⟩ := HK.out.toIn.num (i := 0) (by rw [HKL.out.1]; omega)
        obtain ⟨k, HKK⟩ : ∃ k, Hid (k = ks.getD 0 0) := ⟨_, rfl⟩
        rw [← HKK.out, Nat.add_zero] at hc
        have HCL : Hid (closeP 3 (a1, l1, ks) = (a1, l1, k)) := by show _ = _; unfold closeP; rw [if_pos HKL.out.1, ← HKK.out]
        rw [HCL.out] at HFI
        go_wp2
        go_ret
        exact ⟨k, a1, l1, true, U1, rfl, HR2, HU2.out.trans ⟨KeptP.refl _ _, fun c hc => .inl (.inl hc)⟩, (by show _ ∨ _; first | exact HFI | (have h0 := HFI.out; simpa using h0)), ⟨hb1, hb2, hb3⟩⟩
      · have hne1 : ¬ (n : Int) = 1 := by omega
        have hdec : decide ((n : Int) = 1) = false := by simp; omega
        have hn1x : 1 < n := by omega
        go_wp2_with fail
        refine (put_any B p s a1 l1 true U1 3 0 ra n rc ks W2 HR2.out hB2 (by omega) HK.out HKL.out.1 (fun h c hc hu => HNE.out c (by rw [hc]; rfl) hu)).mono ?_
        rintro e w5 ⟨rfl, U5, h1, h2⟩
        have HR5 : Hid (RS B p s w5 a1 (l1 ++ [(3, 0, ks)]) true U5) := h1
        have HU5 : Hid (Us w (pU p U) w5 (pU p U5)) := HU2.out.trans (h2.weak (fun c hc => hc.elim (fun h => .inl (.inl h)) (fun h => .inl (.inr (by rw [h]; rfl)))))
        have HCL : Hid (closeP 3 (a1, l1, ks) = (a1, l1 ++ [(3, 0, ks)], (l1.length : Int))) := by show _ = _; unfold closeP; rw [if_neg (by rw [HKL.out.1]; exact e1)]
        rw [HCL.out] at HFI
        clear h1 h2
        go_wp2
        go_ret
        have hq := HB4.out hn1x
        exact ⟨_, a1, _, true, U5, rfl, HR5, HU5, (by show _ ∨ _; first | exact HFI | (have h0 := HFI.out; simpa using h0)), ⟨hb1, hb2, by simp <;> omega⟩⟩
    · subst hf
      by_cases hin : a1 < s.size
      · have hj1 : (a1 : Int) < (s.size : Int) := by omega
        have hj0 : (0 : Int) ≤ (a1 : Int) := by omega
        obtain ⟨x, HX⟩ : ∃ x, Hid (x = bt s a1) := ⟨_, rfl⟩
        have hsx : s[a1].toNat = x := by rw [HX.out, bt_lt hin]
        by_cases n124 : x = 124
        · subst n124
          have HGO : Hid (bt s a1 = 124) := HX.out.symm
          go_wp2_with fail
          go_quiet (fail)
          obtain ⟨W2, HW2⟩ : ∃ W2, Hid (W2 = V.drewN nq) := ⟨_, rfl⟩
          have HB2 : Hid (Below V.heap.size V W2) := by rw [HW2.out]; exact below_drewN (Below.refl _ _) _
          rw [← HW2.out]
          have HR2 : Hid (RS B p s W2 a1 l1 false U1) := HR1.out.below HB2.out
          have HU2 : Hid (Us w (pU p U) W2 (fun c => pU p U1 c ∨ v3.ownBlock = some c)) := HU1.out.below HB2.out
          have HOW2 : Hid (W2.ownsRow B 3 1 v3 n (rowCells ks)) := own_below HOW.out HB2.out
          have hB2 : B ≤ W2.heap.size := Nat.le_trans hBV HB2.out.size
          clear c0 c1 c2 HW2
          obtain ⟨fv, rfl⟩ : ∃ fv, fu = fv + 1 := ⟨fu - 1, by omega⟩
          obtain ⟨c0, c1, c2, cf⟩ := HR2.out.cells
          have fz1 := cf 1
          have HRS : Hid (RS B p s (W2.setCell ⟨p, 1, none⟩ (.int .i64 ((a1 : Int) + 1))) (a1 + 1) l1 false U1) := HR2.out.step
          have HC := HD.out B p (a1 + 1) l1 false U1 _ HRS.out (by simpa using hB2) (by omega) (by omega) (by omega)
          go_wp2_with fail
          refine HC.mono ?_
          rintro e w3 ⟨k2, a2, l2, f2, U2, rfl, HR3, HU3, HF3, HB3⟩
          clear HC
          have HUS : Hid (Us W2 (pU p U1) w3 (pU p U2)) := (us_set _).trans HU3.out
          clear c0 c1 c2 cf fz1
          have hb6 := HB3.out.1
          have hb7 := HB3.out.2.1
          have hb8 := HB3.out.2.2
          have HV2 : Hid (∀ c, v3.ownBlock = some c → c < W2.heap.size) := fun c hc => (HOW2.out.lt c hc).2
          have HOW3 : Hid (w3.ownsRow B 3 1 v3 n (rowCells ks)) := own_keptPR HOW2.out HUS.out.1 HNE.out
          have HNE3 : Hid (∀ c, v3.ownBlock = some c → ¬ pU p U2 c) := fun c hc hu => (HUS.out.2 c hu).elim (HNE.out c hc) (fun h => by have := HV2.out c hc; omega)
          have HUV : Hid (Us w (pU p U) w3 (fun c => pU p U2 c ∨ v3.ownBlock = some c)) := HU2.out.trans (HUS.out.frame _)
          have hB3 : B ≤ w3.heap.size := by have := HUS.out.1.size; omega
          have hown := HOW3.out.alloc (.cells #[.int .i64 k2] 3)
          have hn100 : n ≤ 1000 := by have := HKL.out.2.2; omega
          go_wp2_with (at_builtin; refine wpList_append_lies _ rfl (.tmp 44) (.tmp 47) 36 rfl B 3 i3 (.int .i64 0) 1 8 Tryz.underlying36 hi3 hz30 hz31 hz32 rfl (by decide) _ n (rowCells ks) rfl hown ⟨w3.heap.size, 0, none⟩ 1 1 [.int .i64 k2] rfl rfl (cell_one_new' w3 (.int .i64 k2) 3) (by simp [Value.oneCell']) (by decide) (by unfold maxLen; omega) (by omega) (by simp; omega) _ rfl ?_)
          intro g5 cap5 w6 hown5 hgrow5 hloc5 hg5
          obtain ⟨hk1, hk2, hk3⟩ := kid_more (n := n) (cap := cap5) (U := pU p U2) hgrow5 (hloc5.imp id (fun h => by simpa using h)) HR3.out.lt HNE3.out
          have HR6 : Hid (RS B p s w6 a2 l2 f2 U2) := HR3.out.kept hk1 (fun c hc e => HNE3.out c e hc)
          have HU6 : Hid (Us w (pU p U) w6 (fun c => pU p U2 c ∨ (Value.slice (some ⟨g5, 0, none⟩) (n + 1) cap5).ownBlock = some c)) := HUV.out.trans hk3
          have HN6 : Hid (∀ c, (Value.slice (some ⟨g5, 0, none⟩) (n + 1) cap5).ownBlock = some c → ¬ pU p U2 c) := hk2
          have HO6 : Hid (w6.ownsRow B 3 1 (.slice (some ⟨g5, 0, none⟩) (n + 1) cap5) (n + 1) (rowCells (ks ++ [k2]))) := by rw [rowCells_snoc]; exact hown5
          have HF6 : Hid ((f2 = true ∧ BadP s f P) ∨ (f = false ∧ f2 = false ∧ P = (altL O (bt s) fv a2 l2 (ks ++ [k2])).map (closeP 3) ∧ okStop s a2)) := by
            rcases HF1.out with ⟨h, _⟩ | ⟨h1, _, h3, _⟩
            · cases h
            · rcases HF3.out with ⟨h4, h5 | h5 | ⟨x, h5, h6⟩⟩ | ⟨h4, h5, h6, h7⟩
              · cases h5
              · exact .inl ⟨h4, .inr (.inl (by rw [h3, altL_none HGO.out h5]; rfl))⟩
              · refine .inl ⟨h4, .inr (.inr ⟨closeP 3 (x.1, x.2.1, ks ++ [x.2.2]), ?_, by rw [closeP_at]; exact h6⟩)⟩
                rw [h3, altL_go HGO.out h5, altL_end (fun e => h6 (.inr (.inr e)))]
                rfl
              · exact .inr ⟨h1, h5, by rw [h3, altL_go HGO.out h6], h7⟩
          clear hown hown5 hgrow5 hloc5 hg5 hk1 hk2 hk3
          go_wp2
          go_roundw
          case rel => exact ⟨_, ks ++ [k2], n + 1, a2, l2, f2, U2, fv, rfl, HO6, HN6, ⟨by rw [List.length_append, HKL.out.1]; rfl, by omega, by omega⟩, HR6, HU6, HF6, by show _ < _; omega, ⟨by omega, by omega, by omega, fun _ => by omega, by omega⟩⟩
          case measure =>
            have e1 := HR1.out.atOf
            have e2 := HR6.out.atOf
            first | (rw [e1, e2]; omega) | (simp only [e1, e2]; omega) | omega
        · have m124 : ¬ (x : Int) = 124 := by omega
          have d124 : decide ((x : Int) = 124) = false := by simp; omega
          go_wp2_with fail
          go_quiet (fail)
          obtain ⟨W2, HW2⟩ : ∃ W2, Hid (W2 = V.drewN nq) := ⟨_, rfl⟩
          have HB2 : Hid (Below V.heap.size V W2) := by rw [HW2.out]; exact below_drewN (Below.refl _ _) _
          rw [← HW2.out]
          have HR2 : Hid (RS B p s W2 a1 l1 false U1) := HR1.out.below HB2.out
          have HU2 : Hid (Us w (pU p U) W2 (fun c => pU p U1 c ∨ v3.ownBlock = some c)) := HU1.out.below HB2.out
          have HOW2 : Hid (W2.ownsRow B 3 1 v3 n (rowCells ks)) := own_below HOW.out HB2.out
          have hB2 : B ≤ W2.heap.size := Nat.le_trans hBV HB2.out.size
          clear c0 c1 c2 HW2
          have HFI : Hid ((false = true ∧ (f = true ∨ P = none ∨ ∃ x, P = some x ∧ ¬ okStop s x.1)) ∨ (f = false ∧ false = false ∧ P = some (closeP 3 (a1, l1, ks)) ∧ okStop s a1)) := by
            rcases HF1.out with ⟨h, _⟩ | ⟨h1, _, h3, h5⟩
            · cases h
            · exact .inr ⟨h1, rfl, by rw [h3, altL_end (by rw [← HX.out]; exact n124)]; rfl, h5⟩
          obtain ⟨ra, rc, rfl, HK0⟩ := rowOwn_of HOW2.out HKL.out.1
          have HK : Hid (RowOwn B W2.heap.size W2 ra ks) := HK0
          by_cases e1 : n = 1
          · subst e1
            obtain ⟨b, o, rfl, hc⟩ := HK.out.toIn.num (i := 0) (by rw [HKL.out.1]; omega)
            obtain ⟨k, HKK⟩ : ∃ k, Hid (k = ks.getD 0 0) := ⟨_, rfl⟩
            rw [← HKK.out, Nat.add_zero] at hc
            have HCL : Hid (closeP 3 (a1, l1, ks) = (a1, l1, k)) := by show _ = _; unfold closeP; rw [if_pos HKL.out.1, ← HKK.out]
            rw [HCL.out] at HFI
            go_wp2
            go_ret
            exact ⟨k, a1, l1, false, U1, rfl, HR2, HU2.out.trans ⟨KeptP.refl _ _, fun c hc => .inl (.inl hc)⟩, (by show _ ∨ _; first | exact HFI | (have h0 := HFI.out; simpa using h0)), ⟨hb1, hb2, hb3⟩⟩
          · have hne1 : ¬ (n : Int) = 1 := by omega
            have hdec : decide ((n : Int) = 1) = false := by simp; omega
            have hn1x : 1 < n := by omega
            go_wp2_with fail
            refine (put_any B p s a1 l1 false U1 3 0 ra n rc ks W2 HR2.out hB2 (by omega) HK.out HKL.out.1 (fun h c hc hu => HNE.out c (by rw [hc]; rfl) hu)).mono ?_
            rintro e w5 ⟨rfl, U5, h1, h2⟩
            have HR5 : Hid (RS B p s w5 a1 (l1 ++ [(3, 0, ks)]) false U5) := h1
            have HU5 : Hid (Us w (pU p U) w5 (pU p U5)) := HU2.out.trans (h2.weak (fun c hc => hc.elim (fun h => .inl (.inl h)) (fun h => .inl (.inr (by rw [h]; rfl)))))
            have HCL : Hid (closeP 3 (a1, l1, ks) = (a1, l1 ++ [(3, 0, ks)], (l1.length : Int))) := by show _ = _; unfold closeP; rw [if_neg (by rw [HKL.out.1]; exact e1)]
            rw [HCL.out] at HFI
            clear h1 h2
            go_wp2
            go_ret
            have hq := HB4.out hn1x
            exact ⟨_, a1, _, false, U5, rfl, HR5, HU5, (by show _ ∨ _; first | exact HFI | (have h0 := HFI.out; simpa using h0)), ⟨hb1, hb2, by simp <;> omega⟩⟩
      · have hj1 : ¬ (a1 : Int) < (s.size : Int) := by omega
        go_wp2_with fail
        go_quiet (fail)
        obtain ⟨W2, HW2⟩ : ∃ W2, Hid (W2 = V.drewN nq) := ⟨_, rfl⟩
        have HB2 : Hid (Below V.heap.size V W2) := by rw [HW2.out]; exact below_drewN (Below.refl _ _) _
        rw [← HW2.out]
        have HR2 : Hid (RS B p s W2 a1 l1 false U1) := HR1.out.below HB2.out
        have HU2 : Hid (Us w (pU p U) W2 (fun c => pU p U1 c ∨ v3.ownBlock = some c)) := HU1.out.below HB2.out
        have HOW2 : Hid (W2.ownsRow B 3 1 v3 n (rowCells ks)) := own_below HOW.out HB2.out
        have hB2 : B ≤ W2.heap.size := Nat.le_trans hBV HB2.out.size
        clear c0 c1 c2 HW2
        have HFI : Hid ((false = true ∧ (f = true ∨ P = none ∨ ∃ x, P = some x ∧ ¬ okStop s x.1)) ∨ (f = false ∧ false = false ∧ P = some (closeP 3 (a1, l1, ks)) ∧ okStop s a1)) := by
          rcases HF1.out with ⟨h, _⟩ | ⟨h1, _, h3, h5⟩
          · cases h
          · exact .inr ⟨h1, rfl, by rw [h3, altL_end (by rw [bt_end hin]; decide)]; rfl, h5⟩
        obtain ⟨ra, rc, rfl, HK0⟩ := rowOwn_of HOW2.out HKL.out.1
        have HK : Hid (RowOwn B W2.heap.size W2 ra ks) := HK0
        by_cases e1 : n = 1
        · subst e1
          obtain ⟨b, o, rfl, hc⟩ := HK.out.toIn.num (i := 0) (by rw [HKL.out.1]; omega)
          obtain ⟨k, HKK⟩ : ∃ k, Hid (k = ks.getD 0 0) := ⟨_, rfl⟩
          rw [← HKK.out, Nat.add_zero] at hc
          have HCL : Hid (closeP 3 (a1, l1, ks) = (a1, l1, k)) := by show _ = _; unfold closeP; rw [if_pos HKL.out.1, ← HKK.out]
          rw [HCL.out] at HFI
          go_wp2
          go_ret
          exact ⟨k, a1, l1, false, U1, rfl, HR2, HU2.out.trans ⟨KeptP.refl _ _, fun c hc => .inl (.inl hc)⟩, (by show _ ∨ _; first | exact HFI | (have h0 := HFI.out; simpa using h0)), ⟨hb1, hb2, hb3⟩⟩
        · have hne1 : ¬ (n : Int) = 1 := by omega
          have hdec : decide ((n : Int) = 1) = false := by simp; omega
          have hn1x : 1 < n := by omega
          go_wp2_with fail
          refine (put_any B p s a1 l1 false U1 3 0 ra n rc ks W2 HR2.out hB2 (by omega) HK.out HKL.out.1 (fun h c hc hu => HNE.out c (by rw [hc]; rfl) hu)).mono ?_
          rintro e w5 ⟨rfl, U5, h1, h2⟩
          have HR5 : Hid (RS B p s w5 a1 (l1 ++ [(3, 0, ks)]) false U5) := h1
          have HU5 : Hid (Us w (pU p U) w5 (pU p U5)) := HU2.out.trans (h2.weak (fun c hc => hc.elim (fun h => .inl (.inl h)) (fun h => .inl (.inr (by rw [h]; rfl)))))
          have HCL : Hid (closeP 3 (a1, l1, ks) = (a1, l1 ++ [(3, 0, ks)], (l1.length : Int))) := by show _ = _; unfold closeP; rw [if_neg (by rw [HKL.out.1]; exact e1)]
          rw [HCL.out] at HFI
          clear h1 h2
          go_wp2
          go_ret
          have hq := HB4.out hn1x
          exact ⟨_, a1, _, false, U5, rfl, HR5, HU5, (by show _ ∨ _; first | exact HFI | (have h0 := HFI.out; simpa using h0)), ⟨hb1, hb2, by simp <;> omega⟩⟩

theorem altSOK (s : ByteArray) (hs : s.size ≤ 20) (d : Nat) : AltSOK s d := by
  induction d with
  | zero => exact fun B p a l f U w h1 h2 h3 h4 h5 => altsS_any s 0 (fun d' h => absurd h (by omega)) hs B p a l f U w h1 h2 h3 h4 h5
  | succ d ih =>
    refine fun B p a l f U w h1 h2 h3 h4 h5 => altsS_any s (d + 1) (fun d' h => ?_) hs B p a l f U w h1 h2 h3 h4 h5
    have e : d = d' := by omega
    subst e
    exact ih
end Go.Proofs.YtbepmeipjdpipaaGreat

namespace Go.Proofs.YtbepmeipjdpipaaGreat
open Go.RowKit

set_option maxHeartbeats 2000000 in
set_option maxRecDepth 100000 in
theorem specRead_any (s : ByteArray) (w : World) (hs : s.size ≤ 9223372036854775807) :
    Calls Tryz.prog 41 #[.string s] w fun e w' => RPost (readP s) w e w' := by
  by_cases h20 : 20 < s.size
  · have hd : (20 : Int) < (s.size : Int) := by omega
    have HN : Hid (readP s = none) := readP_size h20
    obtain ⟨W, HW⟩ : ∃ W, Hid (W = w.alloc (.cells #[.slice none 0 0] 73)) := ⟨_, rfl⟩
    have HBW : Hid (Below w.heap.size w W) := by rw [HW.out]; exact below1 _ _
    have c2 : W.cell? ⟨w.heap.size, 0, none⟩ = some (.slice none 0 0) := by rw [HW.out]; exact (blk_one w w.heap.size rfl _ _).cell (i := 0) (by omega)
    go_enter Tryz.func41, Tryz.ntmps41
    go_wp2
    rw [← HW.out]
    refine bodyPost_ret (v := .tuple #[.agg #[.slice none 0 0], .bool false]) (by simp [results, Tryz.results41, go_sem, c2]) rfl ?_
    rw [HN.out]
    exact ⟨none, 0, 0, false, rfl, rfl, rfl, .inl rfl, HBW⟩
  · have hd : ¬ (20 : Int) < (s.size : Int) := by omega
    obtain ⟨E, HE⟩ : ∃ E, Hid (E = w.heap.size) := ⟨_, rfl⟩
    obtain ⟨W, HW⟩ : ∃ W, Hid (W = (w.alloc (.cells #[.slice none 0 0] 73)).alloc (.cells #[.string s, .int .i64 0, .bool false, .slice none 0 0] 96)) := ⟨_, rfl⟩
    have HBW : Hid (Below w.heap.size w W) := by rw [HW.out]; exact below2 w _ _
    have HSW : Hid (W.heap.size = E + 2) := by rw [HW.out, HE.out]; show _ = _; simp
    have HK2 : Hid (Blk W E 1 (fun _ => .slice none 0 0)) := by rw [HW.out]; exact (blk_one w E HE.out _ _).alloc _
    have HR0 : Hid (RS (E + 2) (E + 1) s W 0 [] false (fun _ => False)) := by
      refine ⟨.slice none 0 0, ?_, LaidO.nil _ _, fun h => h⟩
      rw [HW.out]
      have e : E + 1 = (w.alloc (.cells #[.slice none 0 0] 73)).heap.size := by rw [HE.out]; simp
      rw [e]
      exact blk_new _ #[.string s, .int .i64 0, .bool false, .slice none 0 0] _ _ (fun i hi => by
        have hi2 : i < 4 := hi
        rcases (show i = 0 ∨ i = 1 ∨ i = 2 ∨ i = 3 by omega) with rfl | rfl | rfl | rfl <;> rfl)
    obtain ⟨P, HP⟩ : ∃ P, Hid (P = altP (bt s) s.size (s.size + 1) 0 []) := ⟨_, rfl⟩
    have HC := altSOK s (by omega) s.size (E + 2) (E + 1) 0 [] false (fun _ => False) W HR0.out (by rw [HSW.out]; exact Nat.le_refl _) (by simp; omega) (Nat.zero_le _) (by omega)
    rw [← HP.out] at HC
    obtain ⟨Z, HZ⟩ : ∃ Z, Hid (Z = readP s) := ⟨_, rfl⟩
    have HN1 : Hid (P = none → Z = none) := fun h => by rw [HZ.out]; exact readP_none h20 HP.out h
    have HN2 : Hid (∀ a l k, P = some (a, l, k) → Z = if a < s.size then none else if okP l = true then some l else none) := fun a l k h => by rw [HZ.out]; exact readP_some h20 HP.out h
    rw [← HZ.out]
    go_enter Tryz.func41, Tryz.ntmps41
    go_upto_region 4 with fail
    rw [← HE.out, ← HW.out]
    clear HW
    go_wp2_with fail
    refine HC.mono ?_
    rintro e w1 ⟨k, a1, l1, f1, U1, rfl, HR1, HU1, HF1, HB1⟩
    clear HC
    have hb1 := HB1.out.1
    have hb2 := HB1.out.2.1
    have hb3 := HB1.out.2.2
    simp only [List.length_nil, Nat.zero_add, Nat.sub_zero] at hb2 hb3
    have HBX1 : Hid (Below E W w1) := HU1.out.1.to_below (by rw [HSW.out]; omega) (fun c hc => (show c = E + 1 ∨ False from hc).elim (fun h => by omega) (fun h => h.elim))
    have HBX1' : Hid (Below (E + 1) W w1) := HU1.out.1.to_below (by rw [HSW.out]; omega) (fun c hc => (show c = E + 1 ∨ False from hc).elim (fun h => by omega) (fun h => h.elim))
    have HBE1 : Hid (Below w.heap.size w w1) := HBW.out.trans (HBX1.out.mono (by rw [HE.out]; exact Nat.le_refl _))
    obtain ⟨v, hbl, hla, hup⟩ := HR1.out
    obtain ⟨a9, cap9, rfl, hpo⟩ := hla.toOwn
    have HPO : Hid (PathOwn (E + 2) w1.heap.size w1 a9 l1) := hpo
    obtain ⟨n9, HN9⟩ : ∃ n, Hid (l1.length = n) := ⟨_, rfl⟩
    rw [HN9.out] at hbl hb3
    have r0 : w1.cell? ⟨E + 1, 0, none⟩ = some (.string s) := hbl.cell (i := 0) (by omega)
    have r1 : w1.cell? ⟨E + 1, 1, none⟩ = some (.int .i64 (a1 : Int)) := hbl.cell (i := 1) (by omega)
    have r2 : w1.cell? ⟨E + 1, 2, none⟩ = some (.bool f1) := hbl.cell (i := 2) (by omega)
    have r3 : w1.cell? ⟨E + 1, 3, none⟩ = some (.slice a9 n9 cap9) := hbl.cell (i := 3) (by omega)
    have HBL : Hid (Blk w1 (E + 1) 4 (rcS s a1 (.slice a9 n9 cap9) f1)) := hbl
    have HK21 : Hid (Blk w1 E 1 (fun _ => .slice none 0 0)) := HK2.out.of_block (HBX1'.out.block E (by omega))
    have hsz1 := HBX1.out.size
    have hS := HSW.out
    clear hbl hla hup hpo
    obtain ⟨W2, HW2⟩ : ∃ W2, Hid (W2 = w1.alloc (.cells #[.slice a9 n9 cap9] 73)) := ⟨_, rfl⟩
    have HBW2 : Hid (Below w1.heap.size w1 W2) := by rw [HW2.out]; exact below1 _ _
    have HBE2 : Hid (Below w.heap.size w W2) := HBE1.out.trans (HBW2.out.mono HBE1.out.size)
    have HK22 : Hid (Blk W2 E 1 (fun _ => .slice none 0 0)) := HK21.out.of_block (HBW2.out.block _ HK21.out.lt)
    have HBX : Hid (Blk W2 w1.heap.size 1 (fun _ => .slice a9 n9 cap9)) := by rw [HW2.out]; exact blk_one w1 _ rfl _ _
    have HPO2 : Hid (PathOwn (E + 2) w1.heap.size W2 a9 l1) := HPO.out.below HBW2.out (Nat.le_refl _)
    have HBL2 : Hid (Blk W2 (E + 1) 4 (rcS s a1 (.slice a9 n9 cap9) f1)) := HBL.out.of_block (HBW2.out.block _ HBL.out.lt)
    have HNO : Hid (∀ wx, Below w.heap.size w wx → Z = none → RPost Z w (.returned (.tuple #[.agg #[.slice none 0 0], .bool false])) wx) := by
      intro wx h1 h2
      rw [h2]
      exact ⟨none, 0, 0, false, rfl, rfl, rfl, .inl rfl, h1⟩
    go_upto_region 6 with fail
    rw [← HW2.out]
    clear r0 r1 r2 r3 HW2
    have r1 : W2.cell? ⟨E + 1, 1, none⟩ = some (.int .i64 (a1 : Int)) := HBL2.out.cell (i := 1) (by omega)
    have r3 : W2.cell? ⟨E + 1, 2, none⟩ = some (.bool f1) := HBL2.out.cell (i := 2) (by omega)
    have c2 := HK22.out.cell (i := 0) (by omega)
    have z2 := HK22.out.frozen 0
    have x0 := HBX.out.cell (i := 0) (by omega)
    have HSETN : Hid (∀ wx, Blk wx E 1 (fun _ => .slice none 0 0) → Blk (wx.setCell ⟨E, 0, none⟩ (.slice none 0 0)) E 1 (fun _ => .slice none 0 0)) := fun wx h => (h.set 0 (by omega) _).congr (fun i hi => by
      obtain rfl : i = 0 := by omega
      simp)
    rcases Bool.eq_false_or_eq_true f1 with hf | hf
    · subst hf
      have HZN : Hid (Z = none) := by
        rcases HF1.out with ⟨_, h | h | ⟨x, h, h2⟩⟩ | ⟨_, h, _⟩
        · cases h
        · exact HN1.out h
        · have := HN2.out x.1 x.2.1 x.2.2 h
          rw [if_pos (Nat.lt_of_not_le (fun e => h2 (.inl e)))] at this
          exact this
        · cases h
      have k2 := (HSETN.out _ HK22.out).cell (i := 0) (by omega)
      go_wp2
      refine bodyPost_ret (v := .tuple #[.agg #[.slice none 0 0], .bool false]) (by simp [results, Tryz.results41, go_sem, k2]) rfl ?_
      exact HNO.out _ (HBE2.out.setCell (by rw [HE.out]; exact Nat.le_refl _) _) HZN.out
    · subst hf
      have HZX : Hid (Z = if a1 < s.size then none else if okP l1 = true then some l1 else none) := by
        rcases HF1.out with ⟨h, _⟩ | ⟨_, _, h3, _⟩
        · cases h
        · exact HN2.out _ _ _ h3
      by_cases hlt : a1 < s.size
      · have hl1 : (a1 : Int) < (s.size : Int) := by omega
        have HZN : Hid (Z = none) := by show _ = _; rw [HZX.out, if_pos hlt]
        have k2 := (HSETN.out _ HK22.out).cell (i := 0) (by omega)
        go_wp2
        refine bodyPost_ret (v := .tuple #[.agg #[.slice none 0 0], .bool false]) (by simp [results, Tryz.results41, go_sem, k2]) rfl ?_
        exact HNO.out _ (HBE2.out.setCell (by rw [HE.out]; exact Nat.le_refl _) _) HZN.out
      · have hl1 : ¬ (a1 : Int) < (s.size : Int) := by omega
        obtain ⟨R, HRO⟩ : ∃ r, Hid (r = okP l1) := ⟨_, rfl⟩
        rw [if_neg hlt, ← HRO.out] at HZX
        have hn9 : n9 ≤ 1048576 := by omega
        have HKL : Hid (∀ i, i < n9 → (pat l1 i).2.2.length ≤ 1048576) := by
          have h3 : P = some (a1, l1, k) := by
            rcases HF1.out with ⟨h, _⟩ | ⟨_, _, h, _⟩
            · cases h
            · exact h
          rw [HP.out] at h3
          have hkb := altP_kb (by omega) _ _ _ _ KB.nil h3
          intro i hi
          exact Nat.le_trans (hkb.pat (by rw [HN9.out]; exact hi)) (by omega)
        go_wp2_with fail
        refine (specPathOk_any (E + 2) w1.heap.size a9 n9 cap9 l1 R W2 HPO2.out.toIn HBW2.out.size HN9.out hn9 HKL.out HRO.out).mono ?_
        rintro e w3 ⟨rfl, HB3⟩
        have HBE3 : Hid (Below w.heap.size w w3) := HBE2.out.trans (HB3.out.mono HBE2.out.size)
        have HK23 : Hid (Blk w3 E 1 (fun _ => .slice none 0 0)) := HK22.out.of_block (HB3.out.block _ HK22.out.lt)
        have HX3 : Hid (Blk w3 w1.heap.size 1 (fun _ => .slice a9 n9 cap9)) := HBX.out.of_block (HB3.out.block _ HBX.out.lt)
        have HPO3 : Hid (PathOwn (E + 2) w1.heap.size w3 a9 l1) := HPO2.out.below HB3.out HBW2.out.size
        clear c2 z2 x0 r1 r3
        have c2 := HK23.out.cell (i := 0) (by omega)
        have z2 := HK23.out.frozen 0
        have x0 := HX3.out.cell (i := 0) (by omega)
        rcases Bool.eq_false_or_eq_true R with hR | hR
        · subst hR
          have HZS : Hid (Z = some l1) := by show _ = _; rw [HZX.out]; rfl
          have k2 : (w3.setCell ⟨E, 0, none⟩ (.slice a9 n9 cap9)).cell? ⟨E, 0, none⟩ = some (.slice a9 n9 cap9) := (HK23.out.set 0 (by omega) (.slice a9 n9 cap9)).cell (i := 0) (by omega)
          go_wp2
          refine bodyPost_ret (v := .tuple #[.agg #[.slice a9 n9 cap9], .bool true]) (by simp [results, Tryz.results41, go_sem, k2]) rfl ?_
          rw [HZS.out]
          refine ⟨a9, n9, cap9, true, rfl, rfl, HN9, ?_, HBE3.out.setCell (by rw [HE.out]; exact Nat.le_refl _) _⟩
          exact (HPO3.out.setCell (by omega) _).wide (by have := HE.out; omega) (by have := HB3.out.size; have := HBW2.out.size; simp; omega)
        · subst hR
          have HZN : Hid (Z = none) := by show _ = _; rw [HZX.out]; rfl
          have k2 := (HSETN.out _ HK23.out).cell (i := 0) (by omega)
          go_wp2
          refine bodyPost_ret (v := .tuple #[.agg #[.slice none 0 0], .bool false]) (by simp [results, Tryz.results41, go_sem, k2]) rfl ?_
          exact HNO.out _ (HBE3.out.setCell (by rw [HE.out]; exact Nat.le_refl _) _) HZN.out
end Go.Proofs.YtbepmeipjdpipaaGreat

namespace Go.Proofs.YtbepmeipjdpipaaGreat
open Go.RowKit

set_option maxHeartbeats 2000000 in
set_option maxRecDepth 100000 in
theorem readPath_any (s : ByteArray) (w : World) (hs : s.size ≤ 9223372036854775807) :
    Calls Tryz.prog 46 #[.string s] w fun e w' => RPost (readP s) w e w' := by
  by_cases h20 : 20 < s.size
  · have hd : (20 : Int) < (s.size : Int) := by omega
    have HN : Hid (readP s = none) := readP_size h20
    obtain ⟨W, HW⟩ : ∃ W, Hid (W = w.alloc (.cells #[.slice none 0 0] 73)) := ⟨_, rfl⟩
    have HBW : Hid (Below w.heap.size w W) := by rw [HW.out]; exact below1 _ _
    have c2 : W.cell? ⟨w.heap.size, 0, none⟩ = some (.slice none 0 0) := by rw [HW.out]; exact (blk_one w w.heap.size rfl _ _).cell (i := 0) (by omega)
    go_enter Tryz.func46, Tryz.ntmps46
    go_wp2
    rw [← HW.out]
    refine bodyPost_ret (v := .tuple #[.agg #[.slice none 0 0], .bool false]) (by simp [results, Tryz.results46, go_sem, c2]) rfl ?_
    rw [HN.out]
    exact ⟨none, 0, 0, false, rfl, rfl, rfl, .inl rfl, HBW⟩
  · have hd : ¬ (20 : Int) < (s.size : Int) := by omega
    obtain ⟨E, HE⟩ : ∃ E, Hid (E = w.heap.size) := ⟨_, rfl⟩
    obtain ⟨W, HW⟩ : ∃ W, Hid (W = (w.alloc (.cells #[.slice none 0 0] 73)).alloc (.cells #[.string s, .int .i64 0, .slice none 0 0, .bool false] 109)) := ⟨_, rfl⟩
    have HBW : Hid (Below w.heap.size w W) := by rw [HW.out]; exact below2 w _ _
    have HSW : Hid (W.heap.size = E + 2) := by rw [HW.out, HE.out]; show _ = _; simp
    have HK2 : Hid (Blk W E 1 (fun _ => .slice none 0 0)) := by rw [HW.out]; exact (blk_one w E HE.out _ _).alloc _
    have HR0 : Hid (RI (E + 2) (E + 1) s W 0 [] false (fun _ => False)) := by
      refine ⟨.slice none 0 0, ?_, LaidO.nil _ _, fun h => h⟩
      rw [HW.out]
      have e : E + 1 = (w.alloc (.cells #[.slice none 0 0] 73)).heap.size := by rw [HE.out]; simp
      rw [e]
      exact blk_new _ #[.string s, .int .i64 0, .slice none 0 0, .bool false] _ _ (fun i hi => by
        have hi2 : i < 4 := hi
        rcases (show i = 0 ∨ i = 1 ∨ i = 2 ∨ i = 3 by omega) with rfl | rfl | rfl | rfl <;> rfl)
    obtain ⟨P, HP⟩ : ∃ P, Hid (P = altP (bt s) s.size (s.size + 1) 0 []) := ⟨_, rfl⟩
    have HC := altOK s (by omega) s.size (E + 2) (E + 1) 0 [] false (fun _ => False) W HR0.out (by rw [HSW.out]; exact Nat.le_refl _) (by simp; omega) (Nat.zero_le _) (by omega)
    rw [← HP.out] at HC
    obtain ⟨Z, HZ⟩ : ∃ Z, Hid (Z = readP s) := ⟨_, rfl⟩
    have HN1 : Hid (P = none → Z = none) := fun h => by rw [HZ.out]; exact readP_none h20 HP.out h
    have HN2 : Hid (∀ a l k, P = some (a, l, k) → Z = if a < s.size then none else if okP l = true then some l else none) := fun a l k h => by rw [HZ.out]; exact readP_some h20 HP.out h
    rw [← HZ.out]
    go_enter Tryz.func46, Tryz.ntmps46
    go_upto_region 4 with fail
    rw [← HE.out, ← HW.out]
    clear HW
    go_wp2_with fail
    refine HC.mono ?_
    rintro e w1 ⟨k, a1, l1, f1, U1, rfl, HR1, HU1, HF1, HB1⟩
    clear HC
    have hb1 := HB1.out.1
    have hb2 := HB1.out.2.1
    have hb3 := HB1.out.2.2
    simp only [List.length_nil, Nat.zero_add, Nat.sub_zero] at hb2 hb3
    have HBX1 : Hid (Below E W w1) := HU1.out.1.to_below (by rw [HSW.out]; omega) (fun c hc => (show c = E + 1 ∨ False from hc).elim (fun h => by omega) (fun h => h.elim))
    have HBX1' : Hid (Below (E + 1) W w1) := HU1.out.1.to_below (by rw [HSW.out]; omega) (fun c hc => (show c = E + 1 ∨ False from hc).elim (fun h => by omega) (fun h => h.elim))
    have HBE1 : Hid (Below w.heap.size w w1) := HBW.out.trans (HBX1.out.mono (by rw [HE.out]; exact Nat.le_refl _))
    obtain ⟨v, hbl, hla, hup⟩ := HR1.out
    obtain ⟨a9, cap9, rfl, hpo⟩ := hla.toOwn
    have HPO : Hid (PathOwn (E + 2) w1.heap.size w1 a9 l1) := hpo
    obtain ⟨n9, HN9⟩ : ∃ n, Hid (l1.length = n) := ⟨_, rfl⟩
    rw [HN9.out] at hbl hb3
    have r0 : w1.cell? ⟨E + 1, 0, none⟩ = some (.string s) := hbl.cell (i := 0) (by omega)
    have r1 : w1.cell? ⟨E + 1, 1, none⟩ = some (.int .i64 (a1 : Int)) := hbl.cell (i := 1) (by omega)
    have r2 : w1.cell? ⟨E + 1, 2, none⟩ = some (.slice a9 n9 cap9) := hbl.cell (i := 2) (by omega)
    have r3 : w1.cell? ⟨E + 1, 3, none⟩ = some (.bool f1) := hbl.cell (i := 3) (by omega)
    have HBL : Hid (Blk w1 (E + 1) 4 (rcI s a1 (.slice a9 n9 cap9) f1)) := hbl
    have HK21 : Hid (Blk w1 E 1 (fun _ => .slice none 0 0)) := HK2.out.of_block (HBX1'.out.block E (by omega))
    have hsz1 := HBX1.out.size
    have hS := HSW.out
    clear hbl hla hup hpo
    obtain ⟨W2, HW2⟩ : ∃ W2, Hid (W2 = w1.alloc (.cells #[.slice a9 n9 cap9] 73)) := ⟨_, rfl⟩
    have HBW2 : Hid (Below w1.heap.size w1 W2) := by rw [HW2.out]; exact below1 _ _
    have HBE2 : Hid (Below w.heap.size w W2) := HBE1.out.trans (HBW2.out.mono HBE1.out.size)
    have HK22 : Hid (Blk W2 E 1 (fun _ => .slice none 0 0)) := HK21.out.of_block (HBW2.out.block _ HK21.out.lt)
    have HBX : Hid (Blk W2 w1.heap.size 1 (fun _ => .slice a9 n9 cap9)) := by rw [HW2.out]; exact blk_one w1 _ rfl _ _
    have HPO2 : Hid (PathOwn (E + 2) w1.heap.size W2 a9 l1) := HPO.out.below HBW2.out (Nat.le_refl _)
    have HBL2 : Hid (Blk W2 (E + 1) 4 (rcI s a1 (.slice a9 n9 cap9) f1)) := HBL.out.of_block (HBW2.out.block _ HBL.out.lt)
    have HNO : Hid (∀ wx, Below w.heap.size w wx → Z = none → RPost Z w (.returned (.tuple #[.agg #[.slice none 0 0], .bool false])) wx) := by
      intro wx h1 h2
      rw [h2]
      exact ⟨none, 0, 0, false, rfl, rfl, rfl, .inl rfl, h1⟩
    go_upto_region 6 with fail
    rw [← HW2.out]
    clear r0 r1 r2 r3 HW2
    have r1 : W2.cell? ⟨E + 1, 1, none⟩ = some (.int .i64 (a1 : Int)) := HBL2.out.cell (i := 1) (by omega)
    have r3 : W2.cell? ⟨E + 1, 3, none⟩ = some (.bool f1) := HBL2.out.cell (i := 3) (by omega)
    have c2 := HK22.out.cell (i := 0) (by omega)
    have z2 := HK22.out.frozen 0
    have x0 := HBX.out.cell (i := 0) (by omega)
    have HSETN : Hid (∀ wx, Blk wx E 1 (fun _ => .slice none 0 0) → Blk (wx.setCell ⟨E, 0, none⟩ (.slice none 0 0)) E 1 (fun _ => .slice none 0 0)) := fun wx h => (h.set 0 (by omega) _).congr (fun i hi => by
      obtain rfl : i = 0 := by omega
      simp)
    rcases Bool.eq_false_or_eq_true f1 with hf | hf
    · subst hf
      have HZN : Hid (Z = none) := by
        rcases HF1.out with ⟨_, h | h⟩ | ⟨_, h, _⟩
        · cases h
        · exact HN1.out h
        · cases h
      have k2 := (HSETN.out _ HK22.out).cell (i := 0) (by omega)
      go_wp2
      refine bodyPost_ret (v := .tuple #[.agg #[.slice none 0 0], .bool false]) (by simp [results, Tryz.results46, go_sem, k2]) rfl ?_
      exact HNO.out _ (HBE2.out.setCell (by rw [HE.out]; exact Nat.le_refl _) _) HZN.out
    · subst hf
      have HZX : Hid (Z = if a1 < s.size then none else if okP l1 = true then some l1 else none) := by
        rcases HF1.out with ⟨h, _⟩ | ⟨_, _, h3⟩
        · cases h
        · exact HN2.out _ _ _ h3
      by_cases hlt : a1 < s.size
      · have hl1 : (a1 : Int) < (s.size : Int) := by omega
        have HZN : Hid (Z = none) := by show _ = _; rw [HZX.out, if_pos hlt]
        have k2 := (HSETN.out _ HK22.out).cell (i := 0) (by omega)
        go_wp2
        refine bodyPost_ret (v := .tuple #[.agg #[.slice none 0 0], .bool false]) (by simp [results, Tryz.results46, go_sem, k2]) rfl ?_
        exact HNO.out _ (HBE2.out.setCell (by rw [HE.out]; exact Nat.le_refl _) _) HZN.out
      · have hl1 : ¬ (a1 : Int) < (s.size : Int) := by omega
        obtain ⟨R, HRO⟩ : ∃ r, Hid (r = okP l1) := ⟨_, rfl⟩
        rw [if_neg hlt, ← HRO.out] at HZX
        have hn9 : n9 ≤ 1048576 := by omega
        have HKL : Hid (∀ i, i < n9 → (pat l1 i).2.2.length ≤ 1048576) := by
          have h3 : P = some (a1, l1, k) := by
            rcases HF1.out with ⟨h, _⟩ | ⟨_, _, h⟩
            · cases h
            · exact h
          rw [HP.out] at h3
          have hkb := altP_kb (by omega) _ _ _ _ KB.nil h3
          intro i hi
          exact Nat.le_trans (hkb.pat (by rw [HN9.out]; exact hi)) (by omega)
        go_wp2_with fail
        refine (pathOk_any (E + 2) w1.heap.size a9 n9 cap9 l1 R W2 HPO2.out.toIn HBW2.out.size HN9.out hn9 HKL.out HRO.out).mono ?_
        rintro e w3 ⟨rfl, HB3⟩
        have HBE3 : Hid (Below w.heap.size w w3) := HBE2.out.trans (HB3.out.mono HBE2.out.size)
        have HK23 : Hid (Blk w3 E 1 (fun _ => .slice none 0 0)) := HK22.out.of_block (HB3.out.block _ HK22.out.lt)
        have HX3 : Hid (Blk w3 w1.heap.size 1 (fun _ => .slice a9 n9 cap9)) := HBX.out.of_block (HB3.out.block _ HBX.out.lt)
        have HPO3 : Hid (PathOwn (E + 2) w1.heap.size w3 a9 l1) := HPO2.out.below HB3.out HBW2.out.size
        clear c2 z2 x0 r1 r3
        have c2 := HK23.out.cell (i := 0) (by omega)
        have z2 := HK23.out.frozen 0
        have x0 := HX3.out.cell (i := 0) (by omega)
        rcases Bool.eq_false_or_eq_true R with hR | hR
        · subst hR
          have HZS : Hid (Z = some l1) := by show _ = _; rw [HZX.out]; rfl
          have k2 : (w3.setCell ⟨E, 0, none⟩ (.slice a9 n9 cap9)).cell? ⟨E, 0, none⟩ = some (.slice a9 n9 cap9) := (HK23.out.set 0 (by omega) (.slice a9 n9 cap9)).cell (i := 0) (by omega)
          go_wp2
          refine bodyPost_ret (v := .tuple #[.agg #[.slice a9 n9 cap9], .bool true]) (by simp [results, Tryz.results46, go_sem, k2]) rfl ?_
          rw [HZS.out]
          refine ⟨a9, n9, cap9, true, rfl, rfl, HN9, ?_, HBE3.out.setCell (by rw [HE.out]; exact Nat.le_refl _) _⟩
          exact (HPO3.out.setCell (by omega) _).wide (by have := HE.out; omega) (by have := HB3.out.size; have := HBW2.out.size; simp; omega)
        · subst hR
          have HZN : Hid (Z = none) := by show _ = _; rw [HZX.out]; rfl
          have k2 := (HSETN.out _ HK23.out).cell (i := 0) (by omega)
          go_wp2
          refine bodyPost_ret (v := .tuple #[.agg #[.slice none 0 0], .bool false]) (by simp [results, Tryz.results46, go_sem, k2]) rfl ?_
          exact HNO.out _ (HBE3.out.setCell (by rw [HE.out]; exact Nat.le_refl _) _) HZN.out
end Go.Proofs.YtbepmeipjdpipaaGreat

namespace Go.Proofs.YtbepmeipjdpipaaGreat
open Go.RowKit

theorem specAtom_any (x0 x1 x2 : Tx) (w : World) (hs : x0.size ≤ 1048576 ∧ x1.size ≤ 1048576 ∧ x2.size ≤ 1048576) :
    Calls Tryz.prog 21 #[.agg #[.string x0, .string x1, .string x2]] w fun e w' => e = .returned (.bool (atOk (x0, x1, x2))) ∧ Hid (Below w.heap.size w w') :=
  specAtom_of x0 x1 x2 w hs (fun w0 => specRead_any x1 w0 (by omega)) fun lo hi a n cap w0 h1 h2 h3 h4 =>
    (specNfaOf_any lo hi a n cap (atP x1) w0 h1 h2 h3 (by omega) (fun i _ => by have := (atP_len x1).2 i; omega)).mono fun _ _ ⟨s, aa, an, ac, eb, m, mc, h, _, _, _, _, hb⟩ => ⟨s, aa, an, ac, eb, m, mc, h, hb⟩
theorem implAtom_any (x0 x1 x2 : Tx) (w : World) (hs : x0.size ≤ 1048576 ∧ x1.size ≤ 1048576 ∧ x2.size ≤ 1048576) :
    Calls Tryz.prog 27 #[.agg #[.string x0, .string x1, .string x2]] w fun e w' => e = .returned (.bool (atOk (x0, x1, x2))) ∧ Hid (Below w.heap.size w w') :=
  implAtom_of x0 x1 x2 w hs (fun w0 => readPath_any x1 w0 (by omega)) fun lo hi a n cap w0 h1 h2 h3 h4 =>
    (implNfaOf_any lo hi a n cap (atP x1) w0 h1 h2 h3 (by omega) (fun i _ => by have := (atP_len x1).2 i; omega)).mono fun _ _ ⟨s, aa, an, ac, eb, m, mc, h, _, _, _, _, hb⟩ => ⟨s, aa, an, ac, eb, m, mc, h, hb⟩
end Go.Proofs.YtbepmeipjdpipaaGreat
