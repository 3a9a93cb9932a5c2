/-
  The program's reader of a path: a list of kids made a piece; one step or brackets; with its signs.
-/
import Derived.Test.YteepbmgdjghfjaaRpA
import Derived.Test.YteepbmgdjghfjaaShelfI
namespace Go.Proofs.Yteepbmgdjghfjaa
open Go.RowKit

set_option maxHeartbeats 1000000 in
set_option maxRecDepth 100000 in
theorem addAll_any (B p : Nat) (s : ByteArray) (a : Nat) (l : List Pc) (f : Bool) (U : Nat → Prop) (op : Int) (kv : Value) (n : Nat) (ks : List Int) (w : World) (hr : RI B p s w a l f U) (hB : B ≤ w.heap.size) (hl : l.length ≤ 1000)
    (hk : w.ownsRow B 3 1 kv n (rowCells ks)) (hn : ks.length = n) (h1 : 1 ≤ n) (hne : ∀ c, kv.ownBlock = some c → ¬ pU p U c) :
    Calls Try.prog 82 #[.pointer (some ⟨p, 0, none⟩), .int .i64 op, kv] w fun e w' => ∃ (k : Int) (l' : List Pc) (U' : Nat → Prop), e = .returned (.int .i64 k) ∧ Hid (closeP op (a, l, ks) = (a, l', k)) ∧ Hid (RI B p s w' a l' f U') ∧ Hid (Us w (fun c => pU p U c ∨ kv.ownBlock = some c) w' (pU p U')) ∧ Hid (l'.length ≤ l.length + 1 ∧ (n = 1 → l' = l)) := by
  have HR : Hid (RI B p s w a l f U) := hr
  obtain ⟨ra, rc, rfl, HK0⟩ := rowOwn_of hk hn
  have HK : Hid (RowOwn B w.heap.size w ra ks) := HK0
  have HN : Hid (ks.length = n) := hn
  have HNE : Hid (∀ c, (Value.slice ra n rc).ownBlock = some c → ¬ pU p U c) := hne
  clear hr hk hn hne HK0
  by_cases h : n = 1
  · subst h
    obtain ⟨b, o, rfl, hc⟩ := HK.out.toIn.num (i := 0) (by rw [HN.out]; omega)
    obtain ⟨k, HKK⟩ : ∃ k, Hid (k = ks.getD 0 0) := ⟨_, rfl⟩
    rw [← HKK.out, Nat.add_zero] at hc
    go_enter Try.func82, Try.ntmps82
    go_wp2
    go_ret
    exact ⟨k, l, U, rfl, by show _ = _; unfold closeP; rw [if_pos HN.out, ← HKK.out], HR, ⟨KeptP.refl _ _, fun c hc => .inl (.inl hc)⟩, by show _ ∧ _; exact ⟨by omega, fun _ => rfl⟩⟩
  · have hne1 : ¬ (n : Int) = 1 := by omega
    have hdec : decide ((n : Int) = 1) = false := by simp; omega
    go_enter Try.func82, Try.ntmps82
    go_wp2_with fail
    refine (add_any B p s a l f U op 0 ra n rc ks w HR.out hB hl HK.out HN.out (fun h c hc hu => HNE.out c (by rw [hc]; rfl) hu)).mono ?_
    rintro e w1 ⟨rfl, U', h1, h2⟩
    have H1 : Hid (RI B p s w1 a (l ++ [(op, 0, ks)]) f U') := h1
    have H2 : Hid (Us w (fun c => pU p U c ∨ ra = some ⟨c, 0, none⟩) w1 (pU p U')) := h2
    clear h1 h2
    go_wp2
    go_ret
    refine ⟨_, _, U', rfl, by show _ = _; unfold closeP; rw [if_neg (by dsimp only; rw [HN.out]; exact h)], H1, H2.out.weak (fun c hc => ?_), by show _ ∧ _; exact ⟨by simp, fun e => absurd e h⟩⟩
    rcases hc with hc | hc
    · exact .inl (.inl hc)
    · exact .inl (.inr (by rw [hc]; rfl))

/-- what is told behind a call of the reader: it failed, or it has read what the mathematics does -/
def APost (N B p : Nat) (s : ByteArray) (w : World) (a : Nat) (l : List Pc) (f : Bool) (U : Nat → Prop) (P : Option St) (e : Ending) (w' : World) : Prop :=
  ∃ (k : Int) (a' : Nat) (l' : List Pc) (f' : Bool) (U' : Nat → Prop), e = .returned (.int .i64 k) ∧ Hid (RI B p s w' a' l' f' U') ∧ Hid (Us w (pU p U) w' (pU p U')) ∧
    Hid ((f' = true ∧ (f = true ∨ P = none)) ∨ (f = false ∧ f' = false ∧ P = some (a', l', k))) ∧ Hid (a ≤ a' ∧ a' ≤ 2 * N - a ∧ l'.length ≤ l.length + 3 * (a' - a))
/-- and it has gone on -/
def OPost (N B p : Nat) (s : ByteArray) (w : World) (a : Nat) (l : List Pc) (f : Bool) (U : Nat → Prop) (P : Option St) (e : Ending) (w' : World) : Prop :=
  ∃ (k : Int) (a' : Nat) (l' : List Pc) (f' : Bool) (U' : Nat → Prop), e = .returned (.int .i64 k) ∧ Hid (RI B p s w' a' l' f' U') ∧ Hid (Us w (pU p U) w' (pU p U')) ∧
    Hid ((f' = true ∧ (f = true ∨ P = none)) ∨ (f = false ∧ f' = false ∧ P = some (a', l', k))) ∧ Hid (a ≤ a' ∧ a' ≤ 2 * N - a ∧ l'.length ≤ l.length + 3 * (a' - a) ∧ ((isLab (bt s a) || decide (bt s a = 40)) = true → a < a' ∧ l'.length + 2 ≤ l.length + 3 * (a' - a)))
def AltOK (s : ByteArray) (d : Nat) : Prop := ∀ (B p a : Nat) (l : List Pc) (f : Bool) (U : Nat → Prop) (w : World), RI B p s w a l f U → B ≤ w.heap.size → l.length + 3 * (2 * s.size - a) ≤ 200 → a ≤ s.size → s.size ≤ a + d →
  Calls Try.prog 53 #[.pointer (some ⟨p, 0, none⟩)] w fun e w' => APost s.size B p s w a l f U (altP (bt s) s.size (d + 1) a l) e w'

set_option maxHeartbeats 2000000 in
set_option maxRecDepth 100000 in
theorem single_any (s : ByteArray) (d : Nat) (hd : ∀ d', d = d' + 1 → AltOK s d') (hs : s.size ≤ 20) (B p a : Nat) (l : List Pc) (f : Bool) (U : Nat → Prop) (w : World) (hr : RI B p s w a l f U) (hB : B ≤ w.heap.size) (hl : l.length + 3 * (2 * s.size - a) ≤ 200) (ha : a ≤ s.size) (had : s.size ≤ a + d) :
    Calls Try.prog 113 #[.pointer (some ⟨p, 0, none⟩)] w fun e w' => OPost s.size B p s w a l f U (sglP (bt s) (altP (bt s) s.size d) a l) e w' := by
  have HR : Hid (RI B p s w a l f U) := hr
  have HD : Hid (∀ d', d = d' + 1 → AltOK s d') := hd
  obtain ⟨P, HP⟩ : ∃ P, Hid (P = sglP (bt s) (altP (bt s) s.size d) a l) := ⟨_, rfl⟩
  rw [← HP.out]
  obtain ⟨x, HX⟩ : ∃ x, Hid (x = bt s a) := ⟨_, rfl⟩
  obtain ⟨r, HRL⟩ : ∃ r, Hid (r = isL (x : Int)) := ⟨_, rfl⟩
  obtain ⟨c0, c1, _, _⟩ := hr.cells
  clear hr hd
  go_enter Try.func113, Try.ntmps113
  go_wp2_with fail
  refine (next_any p s a x w (by omega) c0 c1 HX.out).mono ?_
  rintro e w1 ⟨rfl, HB1⟩
  have HR1 : Hid (RI B p s w1 a l f U) := HR.out.below HB1.out
  have hB1 : B ≤ w1.heap.size := Nat.le_trans hB HB1.out.size
  have HU1 : Hid (Us w (pU p U) w1 (pU p U)) := (Us.refl _ _).below HB1.out
  go_wp2_with fail
  refine (isLabel_any (x : Int) r w1 HRL.out).mono ?_
  rintro e w2 ⟨rfl, rfl⟩
  clear c0 c1
  obtain ⟨c0, c1, c3, cf⟩ := HR1.out.cells
  have fz1 := cf 1
  have fz3 := cf 3
  rcases Bool.eq_false_or_eq_true r with hr | hr
  · subst hr
    have HL : Hid (isLab (bt s a) = true) := by show isL _ = true; rw [← HX.out, ← HRL.out]
    have hin : a < s.size := bt_in (isLab_0 HL.out).1
    have HR2 : Hid (RI B p s (w1.setCell ⟨p, 1, none⟩ (.int .i64 ((a : Int) + 1))) (a + 1) l f U) := HR1.out.step
    have HU2 : Hid (Us w (pU p U) (w1.setCell ⟨p, 1, none⟩ (.int .i64 ((a : Int) + 1))) (pU p U)) := HU1.out.trans (us_set _)
    go_wp2_with fail
    refine (add_any B p s (a + 1) l f U 1 (x : Int) none 0 0 [] _ HR2.out (by simpa using hB1) (by omega) (.inl rfl) rfl (fun h => absurd rfl h)).mono ?_
    rintro e w3 ⟨rfl, U', h1, h2⟩
    have H1 : Hid (RI B p s w3 (a + 1) (l ++ [(1, (x : Int), [])]) f U') := h1
    have H2 : Hid (Us w (pU p U) w3 (pU p U')) := HU2.out.trans (h2.weak (fun c hc => hc.imp id (fun h => by cases h)))
    clear h1 h2
    go_wp2
    go_ret
    refine ⟨_, _, _, f, U', rfl, H1, H2, ?_, by show _ ∧ _; refine ⟨by omega, by omega, by simp <;> omega, fun _ => ⟨by omega, by simp <;> omega⟩⟩⟩
    have hP : P = some (a + 1, l ++ [(1, (x : Int), [])], (l.length : Int)) := by rw [HP.out]; unfold sglP; rw [if_pos HL.out, ← HX.out]
    cases f
    · exact .inr ⟨rfl, rfl, hP⟩
    · exact .inl ⟨rfl, .inl rfl⟩
  · subst hr
    have HL : Hid (isLab (bt s a) = false) := by show isL _ = false; rw [← HX.out, ← HRL.out]
    by_cases h40 : x = 40
    · subst h40
      have h40b : bt s a = 40 := HX.out.symm
      have hin : a < s.size := bt_in (by omega)
      obtain ⟨d', rfl⟩ : ∃ d', d = d' + 1 := ⟨d - 1, by omega⟩
      have HR2 : Hid (RI B p s (w1.setCell ⟨p, 1, none⟩ (.int .i64 ((a : Int) + 1))) (a + 1) l f U) := HR1.out.step
      have HU2 : Hid (Us w (pU p U) (w1.setCell ⟨p, 1, none⟩ (.int .i64 ((a : Int) + 1))) (pU p U)) := HU1.out.trans (us_set _)
      obtain ⟨Q, HQ⟩ : ∃ Q, Hid (Q = altP (bt s) s.size (d' + 1) (a + 1) l) := ⟨_, rfl⟩
      have HPQ : Hid (P = brk (bt s) Q) := by show _ = _; rw [HP.out, HQ.out]; unfold sglP; rw [if_neg (by rw [HL.out]; simp), if_pos h40b]
      have HC := HD.out d' rfl B p (a + 1) l f U _ HR2.out (by simpa using hB1) (by omega) (by omega) (by omega)
      rw [← HQ.out] at HC
      clear h40b
      go_wp2_with fail
      refine HC.mono ?_
      rintro e w3 ⟨k, a3, l3, f3, U3, rfl, HR3, HU3, HF3, HB3⟩
      obtain ⟨hb1, hb2, hb3⟩ := HB3.out
      obtain ⟨y, HY⟩ : ∃ y, Hid (y = bt s a3) := ⟨_, rfl⟩
      have HUX : Hid (Us w (pU p U) w3 (pU p U3)) := HU2.out.trans HU3.out
      have hB3 : B ≤ w3.heap.size := by have := HU3.out.1.size; simp at this; omega
      clear c0 c1 c3 cf fz1 fz3
      obtain ⟨c0, c1, c3, cf⟩ := HR3.out.cells
      go_wp2_with fail
      refine (next_any p s a3 y w3 (by omega) c0 c1 HY.out).mono ?_
      rintro e w4 ⟨rfl, HB4⟩
      have HR4 : Hid (RI B p s w4 a3 l3 f3 U3) := HR3.out.below HB4.out
      have HU4 : Hid (Us w (pU p U) w4 (pU p U3)) := HUX.out.below HB4.out
      clear c0 c1 c3 cf
      obtain ⟨c0, c1, c3, cf⟩ := HR4.out.cells
      have fz1 := cf 1
      have fz3 := cf 3
      by_cases h41 : y = 41
      · subst h41
        have HR5 : Hid (RI B p s (w4.setCell ⟨p, 1, none⟩ (.int .i64 ((a3 : Int) + 1))) (a3 + 1) l3 f3 U3) := HR4.out.step
        go_wp2
        go_ret
        refine ⟨k, a3 + 1, l3, f3, U3, rfl, HR5, HU4.out.trans (us_set _), ?_, by show _ ∧ _; exact ⟨by omega, by omega, by omega, fun _ => ⟨by omega, by omega⟩⟩⟩
        rcases HF3.out with ⟨h1, h2⟩ | ⟨h1, h2, h3⟩
        · refine .inl ⟨h1, h2.imp id (fun h => ?_)⟩
          rw [HPQ.out, h]; rfl
        · refine .inr ⟨h1, h2, ?_⟩
          rw [HPQ.out, h3]
          show (if bt s a3 = 41 then some (a3 + 1, l3, k) else none) = _
          rw [if_pos HY.out.symm]
      · have hy : ¬ (y : Int) = 41 := by omega
        have hyd : decide ((y : Int) = 41) = false := by simp; omega
        have HR5 : Hid (RI B p s ((w4.setCell ⟨p, 3, none⟩ (.bool true)).setCell ⟨p, 1, none⟩ (.int .i64 ((a3 : Int) + 1))) (a3 + 1) l3 true U3) := HR4.out.fail.step
        obtain ⟨_, d1, _, df⟩ := HR4.out.fail.cells
        have df1 := df 1
        go_wp2
        go_ret
        refine ⟨k, a3 + 1, l3, true, U3, rfl, HR5, (HU4.out.trans (us_set _)).trans (us_set _), ?_, by show _ ∧ _; exact ⟨by omega, by omega, by omega, fun _ => ⟨by omega, by omega⟩⟩⟩
        refine .inl ⟨rfl, ?_⟩
        rcases HF3.out with ⟨h1, h2⟩ | ⟨h1, h2, h3⟩
        · exact h2.imp id (fun h => by rw [HPQ.out, h]; rfl)
        · right
          rw [HPQ.out, h3]
          show (if bt s a3 = 41 then some (a3 + 1, l3, k) else none) = _
          rw [if_neg (fun h => h41 (by rw [HY.out]; exact h))]
    · have hy : ¬ (x : Int) = 40 := by omega
      have hyd : decide ((x : Int) = 40) = false := by simp; omega
      go_wp2
      go_ret
      refine ⟨0, a, l, true, U, rfl, HR1.out.fail, HU1.out.trans (us_set _), .inl ⟨rfl, .inr ?_⟩, ?_⟩
      · rw [HP.out]; unfold sglP; rw [if_neg (by rw [HL.out]; simp), if_neg (by rw [← HX.out]; exact h40)]
      · show _ ∧ _
        refine ⟨by omega, by omega, by omega, fun h => ?_⟩
        rw [HL.out, ← HX.out] at h; simp at h; omega
end Go.Proofs.Yteepbmgdjghfjaa
