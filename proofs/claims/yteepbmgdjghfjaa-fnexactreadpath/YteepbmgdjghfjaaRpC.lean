/-
  The program's reader of a path: a piece with its signs, a row, alternatives.
-/
import Derived.Test.YteepbmgdjghfjaaRpB
namespace Go.Proofs.Yteepbmgdjghfjaa
open Go.RowKit

/-- the place of the reader, out of the world -/
def atOf (w : World) (p : Nat) : Nat := match w.cell? ⟨p, 1, none⟩ with | some (.int _ z) => z.toNat | _ => 0
theorem RI.atOf {B p a : Nat} {s : ByteArray} {w : World} {l : List Pc} {f : Bool} {U : Nat → Prop} (h : RI B p s w a l f U) : atOf w p = a := by
  unfold Go.Proofs.Yteepbmgdjghfjaa.atOf
  rw [h.cells.2.1]
  simp
theorem Us.join {w w1 w2 : World} {A C R D : Nat → Prop} (h : Us w A w1 C) (hR : ∀ c, R c → w.heap.size ≤ c) (h2 : Us w1 (fun c => C c ∨ R c) w2 D) : Us w A w2 D :=
  Us.trans (U1 := fun c => C c ∨ R c) ⟨h.1, fun c hc => hc.elim (h.2 c) (fun hr => .inr (hR c hr))⟩ h2
theorem idx_val (x : Nat) (hx : x < 256) : Lib.indexByte (ByteArray.mk #[42, 43, 63]).data.toList ((x : Int).toNat.toUInt8) = if sgn x = 0 then -1 else (sgn x : Int) - 4 := idx_sgn hx

set_option maxHeartbeats 2000000 in
set_option maxRecDepth 100000 in
theorem repeated_any (s : ByteArray) (d : Nat) (hd : ∀ d', d = d' + 1 → AltOK s d') (hs : s.size ≤ 20) (B p a : Nat) (l : List Pc) (f : Bool) (U : Nat → Prop) (w : World) (hr : RI B p s w a l f U) (hB : B ≤ w.heap.size) (hl : l.length + 3 * (2 * s.size - a) ≤ 200) (ha : a ≤ s.size) (had : s.size ≤ a + d) :
    Calls Try.prog 99 #[.pointer (some ⟨p, 0, none⟩)] w fun e w' => OPost s.size B p s w a l f U (oneP (bt s) s.size (altP (bt s) s.size d) a l) e w' := by
  have HR : Hid (RI B p s w a l f U) := hr
  have HC := single_any s d hd hs B p a l f U w hr hB hl ha had
  obtain ⟨Q, HQ⟩ : ∃ Q, Hid (Q = sglP (bt s) (altP (bt s) s.size d) a l) := ⟨_, rfl⟩
  obtain ⟨P, HP⟩ : ∃ P, Hid (P = oneP (bt s) s.size (altP (bt s) s.size d) a l) := ⟨_, rfl⟩
  have HPQ : Hid (P = Q.map fun x => signP (bt s) (s.size + 1) x.1 x.2.1 x.2.2) := by show _ = _; rw [HP.out, HQ.out]; rfl
  rw [← HQ.out] at HC
  rw [← HP.out]
  obtain ⟨G, HG⟩ : ∃ G : Prop, Hid (G = ((isLab (bt s a) || decide (bt s a = 40)) = true)) := ⟨_, rfl⟩
  clear hr hd HP HQ
  go_enter Try.func99, Try.ntmps99
  go_wp2_with fail
  refine HC.mono ?_
  rintro e w1 ⟨k0, a0, l0, f0, U0, rfl, HR0, HU0, HF0, HB0⟩
  rw [← HG.out] at HB0
  clear HC
  go_wp2
  go_loopw [3] (fun v wr => ∃ (k : Int) (a1 : Nat) (l1 : List Pc) (f1 : Bool) (U1 : Nat → Prop) (fu : Nat), v = .int .i64 k ∧ Hid (RI B p s wr a1 l1 f1 U1) ∧ Hid (Us w (pU p U) wr (pU p U1)) ∧
    Hid ((f1 = true ∧ (f = true ∨ P = none)) ∨ (f = false ∧ f1 = false ∧ P = some (signP (bt s) fu a1 l1 k))) ∧ Hid (s.size < a1 + fu) ∧ Hid (a ≤ a1 ∧ a1 ≤ 2 * s.size - a ∧ l1.length ≤ l.length + 3 * (a1 - a) ∧ (G → a < a1 ∧ l1.length + 2 ≤ l.length + 3 * (a1 - a)))) (fun _ wr => s.size + 1 - atOf wr p)
  case atStart =>
    refine ⟨k0, a0, l0, f0, U0, s.size + 1, rfl, HR0, HU0, ?_, by show _ < _; omega, HB0⟩
    rcases HF0.out with ⟨h1, h2⟩ | ⟨h1, h2, h3⟩
    · exact .inl ⟨h1, h2.imp id (fun h => by rw [HPQ.out, h]; rfl)⟩
    · exact .inr ⟨h1, h2, by rw [HPQ.out, h3]; rfl⟩
  case round =>
    obtain ⟨V, rfl⟩ : ∃ V, V = wr := ⟨_, rfl⟩
    obtain ⟨k, a1, l1, f1, U1, fu, rfl, HR1, HU1, HF1, HFU, HB1⟩ := hrel
    obtain ⟨hb1, hb2, hb3, hb4⟩ := HB1.out
    have HB4 : Hid (G → a < a1 ∧ l1.length + 2 ≤ l.length + 3 * (a1 - a)) := hb4
    have hfu := HFU.out
    clear hb4
    obtain ⟨x, HX⟩ : ∃ x, Hid (x = bt s a1) := ⟨_, rfl⟩
    have hx256 : x < 256 := by rw [HX.out]; exact bt_256 _ _
    obtain ⟨c0, c1, _, _⟩ := HR1.out.cells
    have hBV : B ≤ V.heap.size := by have := HU1.out.1.size; omega
    go_wp2_with fail
    refine (next_any p s a1 x V (by omega) c0 c1 HX.out).mono ?_
    rintro e w2 ⟨rfl, HB2⟩
    have HR2 : Hid (RI B p s w2 a1 l1 f1 U1) := HR1.out.below HB2.out
    have HU2 : Hid (Us w (pU p U) w2 (pU p U1)) := HU1.out.below HB2.out
    have hB2 : B ≤ w2.heap.size := Nat.le_trans hBV HB2.out.size
    clear c0 c1
    go_wp2_with fail
    refine (Try.strings_IndexByte _ _ _).mono ?_
    rintro e w3 ⟨rfl, rfl⟩
    rw [idx_val x hx256]
    rcases sgn_cases x with h0 | ⟨g, hg, hg2⟩
    · rw [if_pos h0]
      have HEN : Hid (signP (bt s) fu a1 l1 k = (a1, l1, k)) := signP_end (by rw [← HX.out]; exact h0)
      rw [HEN.out] at HF1
      go_wp2
      go_ret
      exact ⟨k, a1, l1, f1, U1, rfl, HR2, HU2, HF1, by show _ ∧ _; rw [← HG.out]; exact ⟨hb1, hb2, hb3, HB4.out⟩⟩
    · have hne : sgn x ≠ 0 := by omega
      rw [if_neg hne]
      have hgv : (sgn x : Int) - 4 = (g : Int) := by omega
      rw [hgv]
      have hin : a1 < s.size := bt_in (by rw [← HX.out]; exact sgn_0 hne)
      obtain ⟨fv, rfl⟩ : ∃ fv, fu = fv + 1 := ⟨fu - 1, by omega⟩
      have hg0 : ¬ (g : Int) < 0 := by omega
      have hgd : decide ((g : Int) < 0) = false := by simp
      obtain ⟨c0, c1, _, cf⟩ := HR2.out.cells
      have fz1 := cf 1
      have HR3 : Hid (RI B p s (w3.setCell ⟨p, 1, none⟩ (.int .i64 ((a1 : Int) + 1))) (a1 + 1) l1 f1 U1) := HR2.out.step
      have HU3 : Hid (Us w (pU p U) (w3.setCell ⟨p, 1, none⟩ (.int .i64 ((a1 : Int) + 1))) (pU p U1)) := HU2.out.trans (us_set _)
      obtain ⟨W, HW⟩ : ∃ W, Hid (W = w3.setCell ⟨p, 1, none⟩ (.int .i64 ((a1 : Int) + 1))) := ⟨_, rfl⟩
      have hWs : W.heap.size = w3.heap.size := by rw [HW.out]; simp
      rw [← HW.out] at HR3 HU3
      have hp3 := HR3.out.lt
      obtain ⟨W2, HW2⟩ : ∃ W2, Hid (W2 = W.alloc (.cells #[.int .i64 k] 3)) := ⟨_, rfl⟩
      have HBW : Hid (Below W.heap.size W W2) := by rw [HW2.out]; exact below1 _ _
      have HRO : Hid (RowOwn B W2.heap.size W2 (some ⟨w3.heap.size, 0, none⟩) [k]) := by
        refine .inr ⟨w3.heap.size, rfl, hB2, by rw [HW2.out]; simp; omega, ?_⟩
        rw [HW2.out, ← hWs]
        exact blk_new W #[.int .i64 k] 3 _ (fun i hi => by
          have hi2 : i < 1 := hi
          obtain rfl : i = 0 := by omega
          rfl)
      have HR4 : Hid (RI B p s W2 (a1 + 1) l1 f1 U1) := HR3.out.below HBW.out
      have HU4 : Hid (Us w (pU p U) W2 (pU p U1)) := HU3.out.below HBW.out
      have hns : ∀ c, (some (⟨w3.heap.size, 0, none⟩ : Addr) = some ⟨c, 0, none⟩) → w3.heap.size = c := by intro c h; simpa using h
      have hU1s := HU2.out.1.size
      go_upto_region 6 with fail
      rw [← HW.out]
      clear c0 c1 cf fz1 HW
      go_wp2_with fail
      rw [← HW2.out]
      refine (add_any B p s (a1 + 1) l1 f1 U1 (4 + (g : Int)) 0 (some ⟨w3.heap.size, 0, none⟩) 1 1 [k] W2 HR4.out (by have := HBW.out.size; omega) (by omega) HRO.out rfl (fun _ c hc hu => by have := hp3 c hu; have := hns c hc; omega)).mono ?_
      rintro e w5 ⟨rfl, U5, h1, h2⟩
      have HR5 : Hid (RI B p s w5 (a1 + 1) (l1 ++ [(4 + (g : Int), 0, [k])]) f1 U5) := h1
      have HU5 : Hid (Us w (pU p U) w5 (pU p U5)) := HU4.out.join (fun c hc => by have := hns c hc; omega) h2
      have HST : Hid (signP (bt s) (fv + 1) a1 l1 k = signP (bt s) fv (a1 + 1) (l1 ++ [(4 + (g : Int), 0, [k])]) (l1.length : Int)) := by
        show _ = _
        rw [signP_go (by rw [← HX.out]; exact hne), ← HX.out]
        have : (sgn x : Int) = 4 + (g : Int) := by omega
        rw [this]
      rw [HST.out] at HF1
      clear h1 h2
      go_wp2
      go_roundw
      case rel =>
        refine ⟨_, a1 + 1, _, f1, U5, fv, rfl, HR5, HU5, HF1, by show _ < _; omega, ?_⟩
        show _ ∧ _
        refine ⟨by omega, by omega, by simp <;> omega, fun h => ?_⟩
        have := HB4.out h
        exact ⟨by omega, by simp <;> omega⟩
      case measure =>
        have e1 := HR1.out.atOf
        have e2 := HR5.out.atOf
        first | (rw [e1, e2]; omega) | (simp only [e1, e2]; omega) | omega
end Go.Proofs.Yteepbmgdjghfjaa
