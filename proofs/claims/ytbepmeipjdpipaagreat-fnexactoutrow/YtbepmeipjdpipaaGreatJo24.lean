import Derived.Shelf.Small.Strs
import Derived.Test.YtbepmeipjdpipaaGreatProg
import Derived.Test.YtbepmeipjdpipaaGreatJo23
import Derived.Deep.DeepCutAuto
import Derived.Deep.CutBlock
namespace Go.Proofs.YtbepmeipjdpipaaGreat
open Go.Shelf
def Tryz.lays137_ren : Go.Shelf.Ren := ⟨fun | 137 => 96 | 217 => 110 | 266 => 118 | n => n, fun | 9 => 9 | 5 => 5 | 3 => 3 | n => n, fun | n => n⟩
theorem Tryz.lays137 : Go.Proofs.Lays.n137 Tryz.prog Tryz.lays137_ren := {
 mixed := by kernel_rfl
 f137 := Tryz.func96.trans (congrArg some (by kernel_rfl))
 f217 := Tryz.func110.trans (congrArg some (by kernel_rfl))
 f266 := Tryz.func118.trans (congrArg some (by kernel_rfl))
 t3 := Tryz.underlying3
 a3 := Tryz.isAgg3
 z3 := Tryz.sizeOf3
 v3 := Tryz.zeroValue3
 t5 := Tryz.underlying5
 a5 := Tryz.isAgg5
 z5 := Tryz.sizeOf5
 v5 := Tryz.zeroValue5
 t9 := Tryz.underlying9
 a9 := Tryz.isAgg9
 z9 := Tryz.sizeOf9
 v9 := Tryz.zeroValue9 }
open Go.RowKit in
theorem Tryz.strings_IndexByte (s : ByteArray) (c : Int) (w : World) :
  Calls Tryz.prog 96 #[.string s, .int .u8 c] w fun e w' => e = .returned (.int .i64 (Lib.indexByte s.data.toList c.toNat.toUInt8)) ∧ w' = w := Any.strings_IndexByte Tryz.lays137 s c w
end Go.Proofs.YtbepmeipjdpipaaGreat

namespace Go.Proofs.YtbepmeipjdpipaaGreat
open Go.RowKit
set_option maxHeartbeats 1000000 in
set_option maxRecDepth 100000 in
theorem addAll_any (B p : Nat) (s : ByteArray) (a : Nat) (l : List Pc) (f : Bool) (U : Nat → Prop) (op : Int) (kv : Value) (n : Nat) (ks : List Int) (w : World) (hr : RI B p s w a l f U) (hB : B ≤ w.heap.size) (hl : l.length ≤ 1000)
  (hk : w.ownsRow B 3 1 kv n (rowCells ks)) (hn : ks.length = n) (h1 : 1 ≤ n) (hne : ∀ c, kv.ownBlock = some c → ¬ pU p U c) :
  Calls Tryz.prog 77 #[.pointer (some ⟨p, 0, none⟩), .int .i64 op, kv] w fun e w' => ∃ (k : Int) (l' : List Pc) (U' : Nat → Prop), e = .returned (.int .i64 k) ∧ Hid (closeP op (a, l, ks) = (a, l', k)) ∧ Hid (RI B p s w' a l' f U') ∧ Hid (Us w (fun c => pU p U c ∨ kv.ownBlock = some c) w' (pU p U')) ∧ Hid (l'.length ≤ l.length + 1 ∧ (n = 1 → l' = l)) := by
 have HR : Hid (RI B p s w a l f U) := hr
 obtain ⟨ra, rc, rfl, HK0⟩ := rowOwn_of hk hn
 have HK : Hid (RowOwn B w.heap.size w ra ks) := HK0
 have HN : Hid (ks.length = n) := hn
 have HNE : Hid (∀ c, (Value.slice ra n rc).ownBlock = some c → ¬ pU p U c) := hne
 clear hr hk hn hne HK0
 by_cases h : n = 1
 ·subst h
  obtain ⟨b, o, rfl, hc⟩ := HK.out.toIn.num (i := 0) (by rw [HN.out]; omega)
  obtain ⟨k, HKK⟩ : ∃ k, Hid (k = ks.getD 0 0) := ⟨_, rfl⟩
  rw [← HKK.out, Nat.add_zero] at hc
  go_enter Tryz.func77, Tryz.ntmps77
  go_wp2
  go_ret
  exact ⟨k, l, U, rfl, by show _ = _; unfold closeP; rw [if_pos HN.out, ← HKK.out], HR, ⟨KeptP.refl _ _, fun c hc => .inl (.inl hc)⟩, by show _ ∧ _; exact ⟨by omega, fun _ => rfl⟩⟩
 ·have hne1 : ¬ (n : Int) = 1 := by omega
  have hdec : decide ((n : Int) = 1) = false := by simp; omega
  go_enter Tryz.func77, Tryz.ntmps77
  go_wp2_with fail
  refine (add_any B p s a l f U op 0 ra n rc ks w HR.out hB hl HK.out HN.out (fun h c hc hu => HNE.out c (by rw [hc]; rfl) hu)).mono ?_
  rintro e w1 ⟨rfl, U', h1, h2⟩
  have H1 : Hid (RI B p s w1 a (l ++ [(op, 0, ks)]) f U') := h1
  have H2 : Hid (Us w (fun c => pU p U c ∨ ra = some ⟨c, 0, none⟩) w1 (pU p U')) := h2
  clear h1 h2
  go_wp2
  go_ret
  refine ⟨_, _, U', rfl, by show _ = _; unfold closeP; rw [if_neg (by dsimp only; rw [HN.out]; exact h)], H1, H2.out.weak (fun c hc => ?_), by show _ ∧ _; exact ⟨by simp, fun e => absurd e h⟩⟩
  rcases hc with hc | hc
  ·exact .inl (.inl hc)
  ·exact .inl (.inr (by rw [hc]; rfl))
def APost (N B p : Nat) (s : ByteArray) (w : World) (a : Nat) (l : List Pc) (f : Bool) (U : Nat → Prop) (P : Option St) (e : Ending) (w' : World) : Prop :=
 ∃ (k : Int) (a' : Nat) (l' : List Pc) (f' : Bool) (U' : Nat → Prop), e = .returned (.int .i64 k) ∧ Hid (RI B p s w' a' l' f' U') ∧ Hid (Us w (pU p U) w' (pU p U')) ∧
  Hid ((f' = true ∧ (f = true ∨ P = none)) ∨ (f = false ∧ f' = false ∧ P = some (a', l', k))) ∧ Hid (a ≤ a' ∧ a' ≤ 2 * N - a ∧ l'.length ≤ l.length + 3 * (a' - a))
def OPost (N B p : Nat) (s : ByteArray) (w : World) (a : Nat) (l : List Pc) (f : Bool) (U : Nat → Prop) (P : Option St) (e : Ending) (w' : World) : Prop :=
 ∃ (k : Int) (a' : Nat) (l' : List Pc) (f' : Bool) (U' : Nat → Prop), e = .returned (.int .i64 k) ∧ Hid (RI B p s w' a' l' f' U') ∧ Hid (Us w (pU p U) w' (pU p U')) ∧
  Hid ((f' = true ∧ (f = true ∨ P = none)) ∨ (f = false ∧ f' = false ∧ P = some (a', l', k))) ∧ Hid (a ≤ a' ∧ a' ≤ 2 * N - a ∧ l'.length ≤ l.length + 3 * (a' - a) ∧ ((isLab (bt s a) || decide (bt s a = 40)) = true → a < a' ∧ l'.length + 2 ≤ l.length + 3 * (a' - a)))
def AltOK (s : ByteArray) (d : Nat) : Prop := ∀ (B p a : Nat) (l : List Pc) (f : Bool) (U : Nat → Prop) (w : World), RI B p s w a l f U → B ≤ w.heap.size → l.length + 3 * (2 * s.size - a) ≤ 200 → a ≤ s.size → s.size ≤ a + d →
 Calls Tryz.prog 61 #[.pointer (some ⟨p, 0, none⟩)] w fun e w' => APost s.size B p s w a l f U (altP (bt s) s.size (d + 1) a l) e w'
set_option maxHeartbeats 2000000 in
set_option maxRecDepth 100000 in
theorem single_any (s : ByteArray) (d : Nat) (hd : ∀ d', d = d' + 1 → AltOK s d') (hs : s.size ≤ 20) (B p a : Nat) (l : List Pc) (f : Bool) (U : Nat → Prop) (w : World) (hr : RI B p s w a l f U) (hB : B ≤ w.heap.size) (hl : l.length + 3 * (2 * s.size - a) ≤ 200) (ha : a ≤ s.size) (had : s.size ≤ a + d) :
  Calls Tryz.prog 95 #[.pointer (some ⟨p, 0, none⟩)] w fun e w' => OPost s.size B p s w a l f U (sglP (bt s) (altP (bt s) s.size d) a l) e w' := by
 have HR : Hid (RI B p s w a l f U) := hr
 have HD : Hid (∀ d', d = d' + 1 → AltOK s d') := hd
 obtain ⟨P, HP⟩ : ∃ P, Hid (P = sglP (bt s) (altP (bt s) s.size d) a l) := ⟨_, rfl⟩
 rw [← HP.out]
 obtain ⟨x, HX⟩ : ∃ x, Hid (x = bt s a) := ⟨_, rfl⟩
 obtain ⟨r, HRL⟩ : ∃ r, Hid (r = isL (x : Int)) := ⟨_, rfl⟩
 obtain ⟨c0, c1, _, _⟩ := hr.cells
 clear hr hd
 go_enter Tryz.func95, Tryz.ntmps95
 go_wp2_with fail
 refine (next_any p s a x w (by omega) c0 c1 HX.out).mono ?_
 rintro e w1 ⟨rfl, HB1⟩
 have HR1 : Hid (RI B p s w1 a l f U) := HR.out.below HB1.out
 have hB1 : B ≤ w1.heap.size := Nat.le_trans hB HB1.out.size
 have HU1 : Hid (Us w (pU p U) w1 (pU p U)) := (Us.refl _ _).below HB1.out
 go_wp2_with fail
 refine (isLabel_any (x : Int) r w1 HRL.out).mono ?_
 rintro e w2 ⟨rfl, rfl⟩
 clear c0 c1
 obtain ⟨c0, c1, c3, cf⟩ := HR1.out.cells
 have fz1 := cf 1
 have fz3 := cf 3
 rcases Bool.eq_false_or_eq_true r with hr | hr
 ·subst hr
  have HL : Hid (isLab (bt s a) = true) := by show isL _ = true; rw [← HX.out, ← HRL.out]
  have hin : a < s.size := bt_in (isLab_0 HL.out).1
  have HR2 : Hid (RI B p s (w1.setCell ⟨p, 1, none⟩ (.int .i64 ((a : Int) + 1))) (a + 1) l f U) := HR1.out.step
  have HU2 : Hid (Us w (pU p U) (w1.setCell ⟨p, 1, none⟩ (.int .i64 ((a : Int) + 1))) (pU p U)) := HU1.out.trans (us_set _)
  go_wp2_with fail
  refine (add_any B p s (a + 1) l f U 1 (x : Int) none 0 0 [] _ HR2.out (by simpa using hB1) (by omega) (.inl rfl) rfl (fun h => absurd rfl h)).mono ?_
  rintro e w3 ⟨rfl, U', h1, h2⟩
  have H1 : Hid (RI B p s w3 (a + 1) (l ++ [(1, (x : Int), [])]) f U') := h1
  have H2 : Hid (Us w (pU p U) w3 (pU p U')) := HU2.out.trans (h2.weak (fun c hc => hc.imp id (fun h => by cases h)))
  clear h1 h2
  go_wp2
  go_ret
  refine ⟨_, _, _, f, U', rfl, H1, H2, ?_, by show _ ∧ _; refine ⟨by omega, by omega, by simp <;> omega, fun _ => ⟨by omega, by simp <;> omega⟩⟩⟩
  have hP : P = some (a + 1, l ++ [(1, (x : Int), [])], (l.length : Int)) := by rw [HP.out]; unfold sglP; rw [if_pos HL.out, ← HX.out]
  cases f
  ·exact .inr ⟨rfl, rfl, hP⟩
  ·exact .inl ⟨rfl, .inl rfl⟩
 ·subst hr
  have HL : Hid (isLab (bt s a) = false) := by show isL _ = false; rw [← HX.out, ← HRL.out]
  by_cases h40 : x = 40
  ·subst h40
   have h40b : bt s a = 40 := HX.out.symm
   have hin : a < s.size := bt_in (by omega)
   obtain ⟨d', rfl⟩ : ∃ d', d = d' + 1 := ⟨d - 1, by omega⟩
   have HR2 : Hid (RI B p s (w1.setCell ⟨p, 1, none⟩ (.int .i64 ((a : Int) + 1))) (a + 1) l f U) := HR1.out.step
   have HU2 : Hid (Us w (pU p U) (w1.setCell ⟨p, 1, none⟩ (.int .i64 ((a : Int) + 1))) (pU p U)) := HU1.out.trans (us_set _)
   obtain ⟨Q, HQ⟩ : ∃ Q, Hid (Q = altP (bt s) s.size (d' + 1) (a + 1) l) := ⟨_, rfl⟩
   have HPQ : Hid (P = brk (bt s) Q) := by show _ = _; rw [HP.out, HQ.out]; unfold sglP; rw [if_neg (by rw [HL.out]; simp), if_pos h40b]
   have HC := HD.out d' rfl B p (a + 1) l f U _ HR2.out (by simpa using hB1) (by omega) (by omega) (by omega)
   rw [← HQ.out] at HC
   clear h40b
   go_wp2_with fail
   refine HC.mono ?_
   rintro e w3 ⟨k, a3, l3, f3, U3, rfl, HR3, HU3, HF3, HB3⟩
   obtain ⟨hb1, hb2, hb3⟩ := HB3.out
   obtain ⟨y, HY⟩ : ∃ y, Hid (y = bt s a3) := ⟨_, rfl⟩
   have HUX : Hid (Us w (pU p U) w3 (pU p U3)) := HU2.out.trans HU3.out
   have hB3 : B ≤ w3.heap.size := by have := HU3.out.1.size; simp at this; omega
   clear c0 c1 c3 cf fz1 fz3
   obtain ⟨c0, c1, c3, cf⟩ := HR3.out.cells
   go_wp2_with fail
   refine (next_any p s a3 y w3 (by omega) c0 c1 HY.out).mono ?_
   rintro e w4 ⟨rfl, HB4⟩
   have HR4 : Hid (RI B p s w4 a3 l3 f3 U3) := HR3.out.below HB4.out
   have HU4 : Hid (Us w (pU p U) w4 (pU p U3)) := HUX.out.below HB4.out
   clear c0 c1 c3 cf
   obtain ⟨c0, c1, c3, cf⟩ := HR4.out.cells
   have fz1 := cf 1
   have fz3 := cf 3
   by_cases h41 : y = 41
   ·subst h41
    have HR5 : Hid (RI B p s (w4.setCell ⟨p, 1, none⟩ (.int .i64 ((a3 : Int) + 1))) (a3 + 1) l3 f3 U3) := HR4.out.step
    go_wp2
    go_ret
    refine ⟨k, a3 + 1, l3, f3, U3, rfl, HR5, HU4.out.trans (us_set _), ?_, by show _ ∧ _; exact ⟨by omega, by omega, by omega, fun _ => ⟨by omega, by omega⟩⟩⟩
    rcases HF3.out with ⟨h1, h2⟩ | ⟨h1, h2, h3⟩
    ·refine .inl ⟨h1, h2.imp id (fun h => ?_)⟩
     rw [HPQ.out, h]; rfl
    ·refine .inr ⟨h1, h2, ?_⟩
     rw [HPQ.out, h3]
     show (if bt s a3 = 41 then some (a3 + 1, l3, k) else none) = _
     rw [if_pos HY.out.symm]
   ·have hy : ¬ (y : Int) = 41 := by omega
    have hyd : decide ((y : Int) = 41) = false := by simp; omega
    have HR5 : Hid (RI B p s ((w4.setCell ⟨p, 3, none⟩ (.bool true)).setCell ⟨p, 1, none⟩ (.int .i64 ((a3 : Int) + 1))) (a3 + 1) l3 true U3) := HR4.out.fail.step
    obtain ⟨_, d1, _, df⟩ := HR4.out.fail.cells
    have df1 := df 1
    go_wp2
    go_ret
    refine ⟨k, a3 + 1, l3, true, U3, rfl, HR5, (HU4.out.trans (us_set _)).trans (us_set _), ?_, by show _ ∧ _; exact ⟨by omega, by omega, by omega, fun _ => ⟨by omega, by omega⟩⟩⟩
    refine .inl ⟨rfl, ?_⟩
    rcases HF3.out with ⟨h1, h2⟩ | ⟨h1, h2, h3⟩
    ·exact h2.imp id (fun h => by rw [HPQ.out, h]; rfl)
    ·right
     rw [HPQ.out, h3]
     show (if bt s a3 = 41 then some (a3 + 1, l3, k) else none) = _
     rw [if_neg (fun h => h41 (by rw [HY.out]; exact h))]
  ·have hy : ¬ (x : Int) = 40 := by omega
   have hyd : decide ((x : Int) = 40) = false := by simp; omega
   go_wp2
   go_ret
   refine ⟨0, a, l, true, U, rfl, HR1.out.fail, HU1.out.trans (us_set _), .inl ⟨rfl, .inr ?_⟩, ?_⟩
   ·rw [HP.out]; unfold sglP; rw [if_neg (by rw [HL.out]; simp), if_neg (by rw [← HX.out]; exact h40)]
   ·show _ ∧ _
    refine ⟨by omega, by omega, by omega, fun h => ?_⟩
    rw [HL.out, ← HX.out] at h; simp at h; omega
end Go.Proofs.YtbepmeipjdpipaaGreat

namespace Go.Proofs.YtbepmeipjdpipaaGreat
open Go.RowKit
def atOf (w : World) (p : Nat) : Nat := match w.cell? ⟨p, 1, none⟩ with | some (.int _ z) => z.toNat | _ => 0
theorem RI.atOf {B p a : Nat} {s : ByteArray} {w : World} {l : List Pc} {f : Bool} {U : Nat → Prop} (h : RI B p s w a l f U) : atOf w p = a := by
 unfold Go.Proofs.YtbepmeipjdpipaaGreat.atOf
 rw [h.cells.2.1]
 simp
theorem Us.join {w w1 w2 : World} {A C R D : Nat → Prop} (h : Us w A w1 C) (hR : ∀ c, R c → w.heap.size ≤ c) (h2 : Us w1 (fun c => C c ∨ R c) w2 D) : Us w A w2 D :=
 Us.trans (U1 := fun c => C c ∨ R c) ⟨h.1, fun c hc => hc.elim (h.2 c) (fun hr => .inr (hR c hr))⟩ h2
theorem idx_val (x : Nat) (hx : x < 256) : Lib.indexByte (ByteArray.mk #[42, 43, 63]).data.toList ((x : Int).toNat.toUInt8) = if sgn x = 0 then -1 else (sgn x : Int) - 4 := idx_sgn hx
set_option maxHeartbeats 2000000 in
set_option maxRecDepth 100000 in
theorem repeated_any (s : ByteArray) (d : Nat) (hd : ∀ d', d = d' + 1 → AltOK s d') (hs : s.size ≤ 20) (B p a : Nat) (l : List Pc) (f : Bool) (U : Nat → Prop) (w : World) (hr : RI B p s w a l f U) (hB : B ≤ w.heap.size) (hl : l.length + 3 * (2 * s.size - a) ≤ 200) (ha : a ≤ s.size) (had : s.size ≤ a + d) :
  Calls Tryz.prog 87 #[.pointer (some ⟨p, 0, none⟩)] w fun e w' => OPost s.size B p s w a l f U (oneP (bt s) s.size (altP (bt s) s.size d) a l) e w' := by
 have HR : Hid (RI B p s w a l f U) := hr
 have HC := single_any s d hd hs B p a l f U w hr hB hl ha had
 obtain ⟨Q, HQ⟩ : ∃ Q, Hid (Q = sglP (bt s) (altP (bt s) s.size d) a l) := ⟨_, rfl⟩
 obtain ⟨P, HP⟩ : ∃ P, Hid (P = oneP (bt s) s.size (altP (bt s) s.size d) a l) := ⟨_, rfl⟩
 have HPQ : Hid (P = Q.map fun x => signP (bt s) (s.size + 1) x.1 x.2.1 x.2.2) := by show _ = _; rw [HP.out, HQ.out]; rfl
 rw [← HQ.out] at HC
 rw [← HP.out]
 obtain ⟨G, HG⟩ : ∃ G : Prop, Hid (G = ((isLab (bt s a) || decide (bt s a = 40)) = true)) := ⟨_, rfl⟩
 clear hr hd HP HQ
 go_enter Tryz.func87, Tryz.ntmps87
 go_wp2_with fail
 refine HC.mono ?_
 rintro e w1 ⟨k0, a0, l0, f0, U0, rfl, HR0, HU0, HF0, HB0⟩
 rw [← HG.out] at HB0
 clear HC
 go_wp2
 go_loopw [3] (fun v wr => ∃ (k : Int) (a1 : Nat) (l1 : List Pc) (f1 : Bool) (U1 : Nat → Prop) (fu : Nat), v = .int .i64 k ∧ Hid (RI B p s wr a1 l1 f1 U1) ∧ Hid (Us w (pU p U) wr (pU p U1)) ∧
  Hid ((f1 = true ∧ (f = true ∨ P = none)) ∨ (f = false ∧ f1 = false ∧ P = some (signP (bt s) fu a1 l1 k))) ∧ Hid (s.size < a1 + fu) ∧ Hid (a ≤ a1 ∧ a1 ≤ 2 * s.size - a ∧ l1.length ≤ l.length + 3 * (a1 - a) ∧ (G → a < a1 ∧ l1.length + 2 ≤ l.length + 3 * (a1 - a)))) (fun _ wr => s.size + 1 - atOf wr p)
 case atStart =>
  refine ⟨k0, a0, l0, f0, U0, s.size + 1, rfl, HR0, HU0, ?_, by show _ < _; omega, HB0⟩
  rcases HF0.out with ⟨h1, h2⟩ | ⟨h1, h2, h3⟩
  ·exact .inl ⟨h1, h2.imp id (fun h => by rw [HPQ.out, h]; rfl)⟩
  ·exact .inr ⟨h1, h2, by rw [HPQ.out, h3]; rfl⟩
 case round =>
  obtain ⟨V, rfl⟩ : ∃ V, V = wr := ⟨_, rfl⟩
  obtain ⟨k, a1, l1, f1, U1, fu, rfl, HR1, HU1, HF1, HFU, HB1⟩ := hrel
  obtain ⟨hb1, hb2, hb3, hb4⟩ := HB1.out
  have HB4 : Hid (G → a < a1 ∧ l1.length + 2 ≤ l.length + 3 * (a1 - a)) := hb4
  have hfu := HFU.out
  clear hb4
  obtain ⟨x, HX⟩ : ∃ x, Hid (x = bt s a1) := ⟨_, rfl⟩
  have hx256 : x < 256 := by rw [HX.out]; exact bt_256 _ _
  obtain ⟨c0, c1, _, _⟩ := HR1.out.cells
  have hBV : B ≤ V.heap.size := by have := HU1.out.1.size; omega
  go_wp2_with fail
  refine (next_any p s a1 x V (by omega) c0 c1 HX.out).mono ?_
  rintro e w2 ⟨rfl, HB2⟩
  have HR2 : Hid (RI B p s w2 a1 l1 f1 U1) := HR1.out.below HB2.out
  have HU2 : Hid (Us w (pU p U) w2 (pU p U1)) := HU1.out.below HB2.out
  have hB2 : B ≤ w2.heap.size := Nat.le_trans hBV HB2.out.size
  clear c0 c1
  go_wp2_with fail
  refine (Tryz.strings_IndexByte _ _ _).mono ?_
  rintro e w3 ⟨rfl, rfl⟩
  rw [idx_val x hx256]
  rcases sgn_cases x with h0 | ⟨g, hg, hg2⟩
  ·rw [if_pos h0]
   have HEN : Hid (signP (bt s) fu a1 l1 k = (a1, l1, k)) := signP_end (by rw [← HX.out]; exact h0)
   rw [HEN.out] at HF1
   go_wp2
   go_ret
   exact ⟨k, a1, l1, f1, U1, rfl, HR2, HU2, HF1, by show _ ∧ _; rw [← HG.out]; exact ⟨hb1, hb2, hb3, HB4.out⟩⟩
  ·have hne : sgn x ≠ 0 := by omega
   rw [if_neg hne]
   have hgv : (sgn x : Int) - 4 = (g : Int) := by omega
   rw [hgv]
   have hin : a1 < s.size := bt_in (by rw [← HX.out]; exact sgn_0 hne)
   obtain ⟨fv, rfl⟩ : ∃ fv, fu = fv + 1 := ⟨fu - 1, by omega⟩
   have hg0 : ¬ (g : Int) < 0 := by omega
   have hgd : decide ((g : Int) < 0) = false := by simp
   obtain ⟨c0, c1, _, cf⟩ := HR2.out.cells
   have fz1 := cf 1
   have HR3 : Hid (RI B p s (w3.setCell ⟨p, 1, none⟩ (.int .i64 ((a1 : Int) + 1))) (a1 + 1) l1 f1 U1) := HR2.out.step
   have HU3 : Hid (Us w (pU p U) (w3.setCell ⟨p, 1, none⟩ (.int .i64 ((a1 : Int) + 1))) (pU p U1)) := HU2.out.trans (us_set _)
   obtain ⟨W, HW⟩ : ∃ W, Hid (W = w3.setCell ⟨p, 1, none⟩ (.int .i64 ((a1 : Int) + 1))) := ⟨_, rfl⟩
   have hWs : W.heap.size = w3.heap.size := by rw [HW.out]; simp
   rw [← HW.out] at HR3 HU3
   have hp3 := HR3.out.lt
   obtain ⟨W2, HW2⟩ : ∃ W2, Hid (W2 = W.alloc (.cells #[.int .i64 k] 3)) := ⟨_, rfl⟩
   have HBW : Hid (Below W.heap.size W W2) := by rw [HW2.out]; exact below1 _ _
   have HRO : Hid (RowOwn B W2.heap.size W2 (some ⟨w3.heap.size, 0, none⟩) [k]) := by
    refine .inr ⟨w3.heap.size, rfl, hB2, by rw [HW2.out]; simp; omega, ?_⟩
    rw [HW2.out, ← hWs]
    exact blk_new W #[.int .i64 k] 3 _ (fun i hi => by
     have hi2 : i < 1 := hi
     obtain rfl : i = 0 := by omega
     rfl)
   have HR4 : Hid (RI B p s W2 (a1 + 1) l1 f1 U1) := HR3.out.below HBW.out
   have HU4 : Hid (Us w (pU p U) W2 (pU p U1)) := HU3.out.below HBW.out
   have hns : ∀ c, (some (⟨w3.heap.size, 0, none⟩ : Addr) = some ⟨c, 0, none⟩) → w3.heap.size = c := by intro c h; simpa using h
   have hU1s := HU2.out.1.size
   go_upto_region 6 with fail
   rw [← HW.out]
   clear c0 c1 cf fz1 HW
   go_wp2_with fail
   rw [← HW2.out]
   refine (add_any B p s (a1 + 1) l1 f1 U1 (4 + (g : Int)) 0 (some ⟨w3.heap.size, 0, none⟩) 1 1 [k] W2 HR4.out (by have := HBW.out.size; omega) (by omega) HRO.out rfl (fun _ c hc hu => by have := hp3 c hu; have := hns c hc; omega)).mono ?_
   rintro e w5 ⟨rfl, U5, h1, h2⟩
   have HR5 : Hid (RI B p s w5 (a1 + 1) (l1 ++ [(4 + (g : Int), 0, [k])]) f1 U5) := h1
   have HU5 : Hid (Us w (pU p U) w5 (pU p U5)) := HU4.out.join (fun c hc => by have := hns c hc; omega) h2
   have HST : Hid (signP (bt s) (fv + 1) a1 l1 k = signP (bt s) fv (a1 + 1) (l1 ++ [(4 + (g : Int), 0, [k])]) (l1.length : Int)) := by
    show _ = _
    rw [signP_go (by rw [← HX.out]; exact hne), ← HX.out]
    have : (sgn x : Int) = 4 + (g : Int) := by omega
    rw [this]
   rw [HST.out] at HF1
   clear h1 h2
   go_wp2
   go_roundw
   case rel =>
    refine ⟨_, a1 + 1, _, f1, U5, fv, rfl, HR5, HU5, HF1, by show _ < _; omega, ?_⟩
    show _ ∧ _
    refine ⟨by omega, by omega, by simp <;> omega, fun h => ?_⟩
    have := HB4.out h
    exact ⟨by omega, by simp <;> omega⟩
   case measure =>
    have e1 := HR1.out.atOf
    have e2 := HR5.out.atOf
    first | (rw [e1, e2]; omega) | (simp only [e1, e2]; omega) | omega
end Go.Proofs.YtbepmeipjdpipaaGreat

namespace Go.Proofs.YtbepmeipjdpipaaGreat
open Go.RowKit
theorem RS.atOf {B p a : Nat} {s : ByteArray} {w : World} {l : List Pc} {f : Bool} {U : Nat → Prop} (h : RS B p s w a l f U) : atOf w p = a := by
 unfold Go.Proofs.YtbepmeipjdpipaaGreat.atOf
 rw [h.cells.2.1]
 simp
def okStop (s : ByteArray) (a : Nat) : Prop := s.size ≤ a ∨ bt s a = 41 ∨ bt s a = 124
def WPost (N B p : Nat) (s : ByteArray) (w : World) (a : Nat) (l : List Pc) (f : Bool) (U : Nat → Prop) (P : Option St) (e : Ending) (w' : World) : Prop :=
 ∃ (k : Int) (a' : Nat) (l' : List Pc) (f' : Bool) (U' : Nat → Prop), e = .returned (.int .i64 k) ∧ Hid (RS B p s w' a' l' f' U') ∧ Hid (Us w (pU p U) w' (pU p U')) ∧
  Hid ((f' = true ∧ (f = true ∨ P = none ∨ ∃ x, P = some x ∧ ¬ okStop s x.1)) ∨ (f = false ∧ f' = false ∧ P = some (a', l', k) ∧ okStop s a')) ∧ Hid (a ≤ a' ∧ a' ≤ 2 * N - a ∧ l'.length ≤ l.length + 3 * (a' - a))
def NPost (N B p : Nat) (s : ByteArray) (w : World) (a : Nat) (l : List Pc) (f : Bool) (U : Nat → Prop) (P : Option St) (e : Ending) (w' : World) : Prop :=
 ∃ (k : Int) (a' : Nat) (l' : List Pc) (f' : Bool) (U' : Nat → Prop), e = .returned (.int .i64 k) ∧ Hid (RS B p s w' a' l' f' U') ∧ Hid (Us w (pU p U) w' (pU p U')) ∧
  Hid ((f' = true ∧ (f = true ∨ P = none)) ∨ (f = false ∧ f' = false ∧ P = some (a', l', k))) ∧ Hid (a ≤ a' ∧ a' ≤ 2 * N - a ∧ l'.length ≤ l.length + 3 * (a' - a) ∧ (f = false → a < N → a < a' ∧ l'.length + 2 ≤ l.length + 3 * (a' - a)))
def AltSOK (s : ByteArray) (d : Nat) : Prop := ∀ (B p a : Nat) (l : List Pc) (f : Bool) (U : Nat → Prop) (w : World), RS B p s w a l f U → B ≤ w.heap.size → l.length + 3 * (2 * s.size - a) ≤ 200 → a ≤ s.size → s.size ≤ a + d →
 Calls Tryz.prog 56 #[.pointer (some ⟨p, 0, none⟩)] w fun e w' => WPost s.size B p s w a l f U (altP (bt s) s.size (d + 1) a l) e w'
set_option maxHeartbeats 4000000 in
set_option maxRecDepth 100000 in
theorem one_any (s : ByteArray) (d : Nat) (hd : ∀ d', d = d' + 1 → AltSOK s d') (hs : s.size ≤ 20) (B p a : Nat) (l : List Pc) (f : Bool) (U : Nat → Prop) (w : World) (hr : RS B p s w a l f U) (hB : B ≤ w.heap.size) (hl : l.length + 3 * (2 * s.size - a) ≤ 200) (ha : a ≤ s.size) (had : s.size ≤ a + d) :
  Calls Tryz.prog 86 #[.pointer (some ⟨p, 0, none⟩)] w fun e w' => NPost s.size B p s w a l f U (oneP (bt s) s.size (altP (bt s) s.size d) a l) e w' := by
 have HR : Hid (RS B p s w a l f U) := hr
 have HD : Hid (∀ d', d = d' + 1 → AltSOK s d') := hd
 obtain ⟨Q, HQ⟩ : ∃ Q, Hid (Q = sglP (bt s) (altP (bt s) s.size d) a l) := ⟨_, rfl⟩
 obtain ⟨P, HP⟩ : ∃ P, Hid (P = oneP (bt s) s.size (altP (bt s) s.size d) a l) := ⟨_, rfl⟩
 have HPQ : Hid (P = Q.map fun x => signP (bt s) (s.size + 1) x.1 x.2.1 x.2.2) := by show _ = _; rw [HP.out, HQ.out]; rfl
 rw [← HP.out]
 obtain ⟨c0, c1, c2, cf⟩ := hr.cells
 have fz2 := cf 2
 have fz1 := cf 1
 clear hr hd HP
 go_enter Tryz.func86, Tryz.ntmps86
 rcases Bool.eq_false_or_eq_true f with hf | hf
 ·subst hf
  go_wp2_with fail
  go_quiet (fail)
  go_wp2
  go_ret
  exact ⟨0, a, l, true, U, rfl, (HR.out.below (below_drewN (Below.refl _ _) _)).fail, ((Us.refl _ _).below (below_drewN (Below.refl _ _) _)).trans (us_set _), .inl ⟨rfl, .inl rfl⟩, ⟨by omega, by omega, by omega, fun h => by cases h⟩⟩
 ·subst hf
  by_cases hin : a < s.size
  ·have hi1 : ¬ (a : Int) ≥ (s.size : Int) := by omega
   have hi2 : (a : Int) < (s.size : Int) := by omega
   have hi0 : (0 : Int) ≤ (a : Int) := by omega
   obtain ⟨x, HX⟩ : ∃ x, Hid (x = bt s a) := ⟨_, rfl⟩
   have hx256 : x < 256 := by rw [HX.out]; exact bt_256 _ _
   have hsx : s[a].toNat = x := by rw [HX.out, bt_lt hin]
   go_wp2_with fail
   go_quiet (fail)
   obtain ⟨W0, HW0⟩ : ∃ W0, Hid (W0 = w.drewN nq) := ⟨_, rfl⟩
   have HBW0 : Hid (Below w.heap.size w W0) := by rw [HW0.out]; exact below_drewN (Below.refl _ _) _
   rw [← HW0.out]
   have HR00 : Hid (RS B p s W0 a l false U) := HR.out.below HBW0.out
   clear c0 c1 c2 cf fz1 fz2 HW0
   obtain ⟨c0, c1, c2, cf⟩ := HR00.out.cells
   go_wp2_with fail
   go_quiet (fail)
   obtain ⟨W, HW⟩ : ∃ W, Hid (W = W0.drewN nq) := ⟨_, rfl⟩
   have HBW : Hid (Below w.heap.size w W) := HBW0.out.trans (by rw [HW.out]; exact below_drewN (Below.refl _ _) _ |>.mono HBW0.out.size)
   rw [← HW.out]
   go_upto_region 5 with fail
   have HR1 : Hid (RS B p s W a l false U) := HR.out.below HBW.out
   have HU1 : Hid (Us w (pU p U) W (pU p U)) := (Us.refl _ _).below HBW.out
   have hB1 : B ≤ W.heap.size := Nat.le_trans hB HBW.out.size
   clear c0 c1 c2 cf HW
   obtain ⟨c0, c1, c2, cf⟩ := HR1.out.cells
   have fz1 := cf 1
   obtain ⟨V, HV⟩ : ∃ V, Hid (V = W.setCell ⟨p, 1, none⟩ (.int .i64 ((a : Int) + 1))) := ⟨_, rfl⟩
   have HR2 : Hid (RS B p s V (a + 1) l false U) := by rw [HV.out]; exact HR1.out.step
   have HU2 : Hid (Us w (pU p U) V (pU p U)) := by rw [HV.out]; exact HU1.out.trans (us_set _)
   have hB2 : B ≤ V.heap.size := by rw [HV.out]; simpa using hB1
   go_upto_block 0 with fail
   rw [← HV.out]
   clear c0 c1 c2 cf fz1 HV
   obtain ⟨c0, c1, c2, cf⟩ := HR2.out.cells
   have fz2 := cf 2
   go_cut [4] (fun v wc => ∃ (k : Int) (a' : Nat) (l' : List Pc) (U' : Nat → Prop), v = .int .i64 k ∧ Hid (RS B p s wc a' l' false U') ∧ Hid (Us w (pU p U) wc (pU p U')) ∧ Hid (Q = some (a', l', k)) ∧ Hid (a < a' ∧ a' ≤ 2 * s.size - a ∧ l'.length + 2 ≤ l.length + 3 * (a' - a)))
   case first =>
    have HQN : Hid (Q = none → P = none) := fun h => by rw [HPQ.out, h]; rfl
    by_cases hL : 97 ≤ x ∧ x ≤ 100
    ·have hd1 : decide ((x : Int) ≥ 97) = true := by simp; omega
     have hd2 : decide ((x : Int) ≤ 100) = true := by simp; omega
     have h97 : (97 : Int) ≤ (x : Int) := by omega
     have h100 : (x : Int) ≤ 100 := by omega
     have HLB : Hid (isLab (bt s a) = true) := by show isL _ = true; rw [← HX.out]; unfold isL; simp; omega
     go_wp2_with fail
     refine (put_any B p s (a + 1) l false U 1 (x : Int) none 0 0 [] V HR2.out hB2 (by omega) (.inl rfl) rfl (fun h => absurd rfl h)).mono ?_
     rintro e w3 ⟨rfl, U', h1, h2⟩
     have H1 : Hid (RS B p s w3 (a + 1) (l ++ [(1, (x : Int), [])]) false U') := h1
     have H2 : Hid (Us w (pU p U) w3 (pU p U')) := HU2.out.trans (h2.weak (fun c hc => hc.imp id (fun h => by cases h)))
     have HQ1 : Hid (Q = some (a + 1, l ++ [(1, (x : Int), [])], (l.length : Int))) := by show _ = _; rw [HQ.out]; unfold sglP; rw [if_pos HLB.out, ← HX.out]
     clear h1 h2
     go_wp2
     go_meet
     case rel => exact ⟨_, a + 1, _, U', rfl, H1, H2, HQ1, ⟨by omega, by omega, by simp <;> omega⟩⟩
    ·have HLB : Hid (isLab (bt s a) = false) := by show isL _ = false; rw [← HX.out]; unfold isL; simp; omega
     by_cases h40 : x = 40
     ·subst h40
      have h40b : bt s a = 40 := HX.out.symm
      obtain ⟨d', rfl⟩ : ∃ d', d = d' + 1 := ⟨d - 1, by omega⟩
      obtain ⟨Y, HY0⟩ : ∃ Y, Hid (Y = altP (bt s) s.size (d' + 1) (a + 1) l) := ⟨_, rfl⟩
      have HQY : Hid (Q = brk (bt s) Y) := by show _ = _; rw [HQ.out, HY0.out]; unfold sglP; rw [if_neg (by rw [HLB.out]; simp), if_pos h40b]
      have HC := HD.out d' rfl B p (a + 1) l false U V HR2.out hB2 (by omega) (by omega) (by omega)
      rw [← HY0.out] at HC
      clear h40b
      go_wp2_with fail
      refine HC.mono ?_
      rintro e w3 ⟨k, a3, l3, f3, U3, rfl, HR3, HU3, HF3, HB3⟩
      obtain ⟨hb1, hb2, hb3⟩ := HB3.out
      have HUX : Hid (Us w (pU p U) w3 (pU p U3)) := HU2.out.trans HU3.out
      clear c0 c1 c2 cf fz2 HC
      obtain ⟨c0, c1, c2, cf⟩ := HR3.out.cells
      have fz1 := cf 1
      have fz2 := cf 2
      have HNOT : Hid (f3 = true ∨ bt s a3 ≠ 41 → P = none) := by
       intro h
       apply HQN.out
       rw [HQY.out]
       rcases HF3.out with ⟨h1, h2 | h2 | ⟨x, h2, h4⟩⟩ | ⟨_, h2, h4, _⟩
       ·cases h2
       ·rw [h2]; rfl
       ·rw [h2]
        show (if bt s x.1 = 41 then some (x.1 + 1, x.2.1, x.2.2) else none) = none
        rw [if_neg (fun e => h4 (.inr (.inl e)))]
       ·rw [h4]
        show (if bt s a3 = 41 then some (a3 + 1, l3, k) else none) = none
        rw [if_neg]
        rcases h with h | h
        ·rw [h2] at h; cases h
        ·exact h
      have HBAD : Hid (∀ wx, Below w3.heap.size w3 wx → P = none → NPost s.size B p s w a l false U P (.returned (.int .i64 0)) (wx.setCell ⟨p, 2, none⟩ (.bool true))) := fun wx hb hp => ⟨0, a3, l3, true, U3, rfl, (HR3.out.below hb).fail, (HUX.out.below hb).trans (us_set _), .inl ⟨rfl, .inr hp⟩, ⟨by omega, by omega, by omega, fun _ _ => ⟨by omega, by omega⟩⟩⟩
      rcases Bool.eq_false_or_eq_true f3 with hf | hf
      ·subst hf
       go_wp2_with fail
       go_quiet (fail)
       go_wp2
       go_ret
       exact HBAD.out _ (below_drewN (Below.refl _ _) _) (HNOT.out (by simp))
      ·subst hf
       by_cases hin3 : a3 < s.size
       ·have hj1 : ¬ (a3 : Int) ≥ (s.size : Int) := by omega
        have hj2 : (a3 : Int) < (s.size : Int) := by omega
        have hj0 : (0 : Int) ≤ (a3 : Int) := by omega
        obtain ⟨y, HY⟩ : ∃ y, Hid (y = bt s a3) := ⟨_, rfl⟩
        have hsy : s[a3].toNat = y := by rw [HY.out, bt_lt hin3]
        by_cases h41 : y = 41
        ·subst h41
         have HQ1 : Hid (Q = some (a3 + 1, l3, k)) := by
          show _ = _
          rw [HQY.out]
          rcases HF3.out with ⟨h1, _⟩ | ⟨_, _, h4, _⟩
          ·cases h1
          ·rw [h4]
           show (if bt s a3 = 41 then some (a3 + 1, l3, k) else none) = _
           rw [if_pos HY.out.symm]
         go_wp2_with fail
         go_quiet (fail)
         obtain ⟨W5, HW5⟩ : ∃ W5, Hid (W5 = w3.drewN nq) := ⟨_, rfl⟩
         have HB5 : Hid (Below w3.heap.size w3 W5) := by rw [HW5.out]; exact below_drewN (Below.refl _ _) _
         rw [← HW5.out]
         have HR5 : Hid (RS B p s W5 a3 l3 false U3) := HR3.out.below HB5.out
         clear c0 c1 c2 cf fz1 fz2 HW5
         obtain ⟨c0, c1, c2, cf⟩ := HR5.out.cells
         have fz1 := cf 1
         go_wp2
         go_meet
         case rel => exact ⟨k, a3 + 1, l3, U3, rfl, HR5.out.step, (HUX.out.below HB5.out).trans (us_set _), HQ1, ⟨by omega, by omega, by omega⟩⟩
        ·have hy : ¬ (y : Int) = 41 := by omega
         have hyd : decide ((y : Int) = 41) = false := by simp; omega
         have hyn : ((y : Int) != 41) = true := by rw [bne_iff_ne]; exact hy
         go_wp2_with fail
         go_quiet (fail)
         go_wp2
         all_goals first | (rename_i hfa; exact absurd hfa.2 (by rw [hyn]; simp)) | (go_ret; exact HBAD.out _ (below_drewN (Below.refl _ _) _) (HNOT.out (.inr (by rw [← HY.out]; exact h41))))
       ·have hj1 : (a3 : Int) ≥ (s.size : Int) := by omega
        go_wp2_with fail
        go_quiet (fail)
        go_wp2
        go_ret
        exact HBAD.out _ (below_drewN (Below.refl _ _) _) (HNOT.out (.inr (by rw [bt_end hin3]; decide)))
     ·have hy : ¬ (x : Int) = 40 := by omega
      have hyd : decide ((x : Int) = 40) = false := by simp; omega
      have HPN : Hid (P = none) := HQN.out (by rw [HQ.out]; unfold sglP; rw [if_neg (by rw [HLB.out]; simp), if_neg (by rw [← HX.out]; exact h40)])
      have HBAD : Hid (NPost s.size B p s w a l false U P (.returned (.int .i64 0)) (V.setCell ⟨p, 2, none⟩ (.bool true))) := ⟨0, a + 1, l, true, U, rfl, HR2.out.fail, HU2.out.trans (us_set _), .inl ⟨rfl, .inr HPN.out⟩, ⟨by omega, by omega, by omega, fun _ _ => ⟨by omega, by omega⟩⟩⟩
      by_cases h97 : 97 ≤ x
      ·have hd1 : decide ((x : Int) ≥ 97) = true := by simp; omega
       have hd2 : decide ((x : Int) ≤ 100) = false := by simp; omega
       have h97i : (97 : Int) ≤ (x : Int) := by omega
       have h100 : ¬ (x : Int) ≤ 100 := by omega
       go_wp2
       go_ret
       exact HBAD
      ·have hd1 : decide ((x : Int) ≥ 97) = false := by simp; omega
       have h97i : ¬ (97 : Int) ≤ (x : Int) := by omega
       go_wp2
       go_ret
       exact HBAD
   case rest =>
    obtain ⟨k0, a0, l0, U0, rfl, HR0, HU0, HQ0, HB0⟩ := hcut
    have HP0 : Hid (P = some (signP (bt s) (s.size + 1) a0 l0 k0)) := by show _ = _; rw [HPQ.out, HQ0.out]; rfl
    clear c0 c1 c2 cf fz2
    go_wp2_with fail
    go_loopw [4] (fun v wr => ∃ (k : Int) (a1 : Nat) (l1 : List Pc) (U1 : Nat → Prop) (fu : Nat), v = .int .i64 k ∧ Hid (RS B p s wr a1 l1 false U1) ∧ Hid (Us w (pU p U) wr (pU p U1)) ∧ Hid (P = some (signP (bt s) fu a1 l1 k)) ∧ Hid (s.size < a1 + fu) ∧ Hid (a < a1 ∧ a1 ≤ 2 * s.size - a ∧ l1.length + 2 ≤ l.length + 3 * (a1 - a))) (fun _ wr => s.size + 1 - atOf wr p)
    case atStart => exact ⟨k0, a0, l0, U0, s.size + 1, rfl, HR0, HU0, HP0, by show _ < _; omega, HB0⟩
    case round =>
     obtain ⟨V1, rfl⟩ : ∃ V1, V1 = wr := ⟨_, rfl⟩
     obtain ⟨k, a1, l1, U1, fu, rfl, HR1, HU1, HP1, HFU, HB1⟩ := hrel
     obtain ⟨hb1, hb2, hb3⟩ := HB1.out
     have hfu := HFU.out
     obtain ⟨c0, c1, c2, cf⟩ := HR1.out.cells
     have HEND : Hid (sgn (bt s a1) = 0 → ∀ wx, Below V1.heap.size V1 wx → NPost s.size B p s w a l false U P (.returned (.int .i64 k)) wx) := fun h wx hb => ⟨k, a1, l1, false, U1, rfl, HR1.out.below hb, HU1.out.below hb, .inr ⟨rfl, rfl, by rw [HP1.out, signP_end h]⟩, ⟨by omega, by omega, by omega, fun _ _ => ⟨by omega, by omega⟩⟩⟩
     by_cases hin1 : a1 < s.size
     ·have hj1 : (a1 : Int) < (s.size : Int) := by omega
      have hj0 : (0 : Int) ≤ (a1 : Int) := by omega
      obtain ⟨x1, HX1⟩ : ∃ x1, Hid (x1 = bt s a1) := ⟨_, rfl⟩
      have hsx1 : s[a1].toNat = x1 := by rw [HX1.out, bt_lt hin1]
      go_wp2_with fail
      go_quiet (fail)
      obtain ⟨W4, HW4⟩ : ∃ W4, Hid (W4 = V1.drewN nq) := ⟨_, rfl⟩
      have HBW4 : Hid (Below V1.heap.size V1 W4) := by rw [HW4.out]; exact below_drewN (Below.refl _ _) _
      rw [← HW4.out]
      have HR4X : Hid (RS B p s W4 a1 l1 false U1) := HR1.out.below HBW4.out
      clear c0 c1 c2 cf HW4
      obtain ⟨c0, c1, c2, cf⟩ := HR4X.out.cells
      go_wp2_with fail
      go_quiet (fail)
      obtain ⟨W5, HW5⟩ : ∃ W5, Hid (W5 = W4.drewN nq) := ⟨_, rfl⟩
      have HBW5 : Hid (Below V1.heap.size V1 W5) := HBW4.out.trans (by rw [HW5.out]; exact (below_drewN (Below.refl _ _) _).mono HBW4.out.size)
      rw [← HW5.out]
      have HR5 : Hid (RS B p s W5 a1 l1 false U1) := HR1.out.below HBW5.out
      have HU5 : Hid (Us w (pU p U) W5 (pU p U1)) := HU1.out.below HBW5.out
      have hB5 : B ≤ W5.heap.size := by have := HU5.out.1.size; omega
      clear c0 c1 c2 cf HW5
      obtain ⟨c0, c1, c2, cf⟩ := HR5.out.cells
      have fz1 := cf 1
      by_cases e42 : x1 = 42
      ·subst e42
       have HSG : Hid (sgn (bt s a1) = 4) := by show _ = _; rw [← HX1.out]; rfl
       obtain ⟨fv, rfl⟩ : ∃ fv, fu = fv + 1 := ⟨fu - 1, by omega⟩
       have HR3 : Hid (RS B p s (W5.setCell ⟨p, 1, none⟩ (.int .i64 ((a1 : Int) + 1))) (a1 + 1) l1 false U1) := HR5.out.step
       have HU3 : Hid (Us w (pU p U) (W5.setCell ⟨p, 1, none⟩ (.int .i64 ((a1 : Int) + 1))) (pU p U1)) := HU5.out.trans (us_set _)
       obtain ⟨W6, HW6⟩ : ∃ W6, Hid (W6 = W5.setCell ⟨p, 1, none⟩ (.int .i64 ((a1 : Int) + 1))) := ⟨_, rfl⟩
       have hWs : W6.heap.size = W5.heap.size := by rw [HW6.out]; simp
       rw [← HW6.out] at HR3 HU3
       have hp3 := HR3.out.lt
       obtain ⟨W7, HW7⟩ : ∃ W7, Hid (W7 = W6.alloc (.cells #[.int .i64 k] 3)) := ⟨_, rfl⟩
       have HBW7 : Hid (Below W6.heap.size W6 W7) := by rw [HW7.out]; exact below1 _ _
       have HRO : Hid (RowOwn B W7.heap.size W7 (some ⟨W5.heap.size, 0, none⟩) [k]) := by
        refine .inr ⟨W5.heap.size, rfl, hB5, by rw [HW7.out]; simp; omega, ?_⟩
        rw [HW7.out, ← hWs]
        exact blk_new W6 #[.int .i64 k] 3 _ (fun i hi => by
         have hi2 : i < 1 := hi
         obtain rfl : i = 0 := by omega
         rfl)
       have HR4 : Hid (RS B p s W7 (a1 + 1) l1 false U1) := HR3.out.below HBW7.out
       have HU4 : Hid (Us w (pU p U) W7 (pU p U1)) := HU3.out.below HBW7.out
       have hns : ∀ c, (some (⟨W5.heap.size, 0, none⟩ : Addr) = some ⟨c, 0, none⟩) → W5.heap.size = c := by intro c h; simpa using h
       have hU5s := HU5.out.1.size
       go_upto_region 28 with fail
       rw [← HW6.out]
       clear c0 c1 c2 cf fz1 HW6
       go_wp2_with fail
       rw [← HW7.out]
       refine (put_any B p s (a1 + 1) l1 false U1 4 0 (some ⟨W5.heap.size, 0, none⟩) 1 1 [k] W7 HR4.out (by have := HBW7.out.size; omega) (by omega) HRO.out rfl (fun _ c hc hu => by have := hp3 c hu; have := hns c hc; omega)).mono ?_
       rintro e w8 ⟨rfl, U8, h1, h2⟩
       have HR8 : Hid (RS B p s w8 (a1 + 1) (l1 ++ [(4, 0, [k])]) false U8) := h1
       have HU8 : Hid (Us w (pU p U) w8 (pU p U8)) := HU4.out.join (fun c hc => by have := hns c hc; omega) h2
       have HST : Hid (signP (bt s) (fv + 1) a1 l1 k = signP (bt s) fv (a1 + 1) (l1 ++ [(4, 0, [k])]) (l1.length : Int)) := by
        show _ = _
        rw [signP_go (by rw [HSG.out]; decide), HSG.out]
        rfl
       rw [HST.out] at HP1
       clear h1 h2
       go_wp2
       go_roundw
       case rel => exact ⟨_, a1 + 1, _, U8, fv, rfl, HR8, HU8, HP1, by show _ < _; omega, ⟨by omega, by omega, by simp <;> omega⟩⟩
       case measure =>
        have e1 := HR1.out.atOf
        have e2 := HR8.out.atOf
        first | (rw [e1, e2]; omega) | (simp only [e1, e2]; omega) | omega
      ·have n42 : ¬ (x1 : Int) = 42 := by omega
       have d42 : decide ((x1 : Int) = 42) = false := by simp; omega
       by_cases e43 : x1 = 43
       ·subst e43
        have HSG : Hid (sgn (bt s a1) = 5) := by show _ = _; rw [← HX1.out]; rfl
        obtain ⟨fv, rfl⟩ : ∃ fv, fu = fv + 1 := ⟨fu - 1, by omega⟩
        have HR3 : Hid (RS B p s (W5.setCell ⟨p, 1, none⟩ (.int .i64 ((a1 : Int) + 1))) (a1 + 1) l1 false U1) := HR5.out.step
        have HU3 : Hid (Us w (pU p U) (W5.setCell ⟨p, 1, none⟩ (.int .i64 ((a1 : Int) + 1))) (pU p U1)) := HU5.out.trans (us_set _)
        obtain ⟨W6, HW6⟩ : ∃ W6, Hid (W6 = W5.setCell ⟨p, 1, none⟩ (.int .i64 ((a1 : Int) + 1))) := ⟨_, rfl⟩
        have hWs : W6.heap.size = W5.heap.size := by rw [HW6.out]; simp
        rw [← HW6.out] at HR3 HU3
        have hp3 := HR3.out.lt
        obtain ⟨W7, HW7⟩ : ∃ W7, Hid (W7 = W6.alloc (.cells #[.int .i64 k] 3)) := ⟨_, rfl⟩
        have HBW7 : Hid (Below W6.heap.size W6 W7) := by rw [HW7.out]; exact below1 _ _
        have HRO : Hid (RowOwn B W7.heap.size W7 (some ⟨W5.heap.size, 0, none⟩) [k]) := by
         refine .inr ⟨W5.heap.size, rfl, hB5, by rw [HW7.out]; simp; omega, ?_⟩
         rw [HW7.out, ← hWs]
         exact blk_new W6 #[.int .i64 k] 3 _ (fun i hi => by
          have hi2 : i < 1 := hi
          obtain rfl : i = 0 := by omega
          rfl)
        have HR4 : Hid (RS B p s W7 (a1 + 1) l1 false U1) := HR3.out.below HBW7.out
        have HU4 : Hid (Us w (pU p U) W7 (pU p U1)) := HU3.out.below HBW7.out
        have hns : ∀ c, (some (⟨W5.heap.size, 0, none⟩ : Addr) = some ⟨c, 0, none⟩) → W5.heap.size = c := by intro c h; simpa using h
        have hU5s := HU5.out.1.size
        go_upto_region 28 with fail
        rw [← HW6.out]
        clear c0 c1 c2 cf fz1 HW6
        go_wp2_with fail
        rw [← HW7.out]
        refine (put_any B p s (a1 + 1) l1 false U1 5 0 (some ⟨W5.heap.size, 0, none⟩) 1 1 [k] W7 HR4.out (by have := HBW7.out.size; omega) (by omega) HRO.out rfl (fun _ c hc hu => by have := hp3 c hu; have := hns c hc; omega)).mono ?_
        rintro e w8 ⟨rfl, U8, h1, h2⟩
        have HR8 : Hid (RS B p s w8 (a1 + 1) (l1 ++ [(5, 0, [k])]) false U8) := h1
        have HU8 : Hid (Us w (pU p U) w8 (pU p U8)) := HU4.out.join (fun c hc => by have := hns c hc; omega) h2
        have HST : Hid (signP (bt s) (fv + 1) a1 l1 k = signP (bt s) fv (a1 + 1) (l1 ++ [(5, 0, [k])]) (l1.length : Int)) := by
         show _ = _
         rw [signP_go (by rw [HSG.out]; decide), HSG.out]
         rfl
        rw [HST.out] at HP1
        clear h1 h2
        go_wp2
        go_roundw
        case rel => exact ⟨_, a1 + 1, _, U8, fv, rfl, HR8, HU8, HP1, by show _ < _; omega, ⟨by omega, by omega, by simp <;> omega⟩⟩
        case measure =>
         have e1 := HR1.out.atOf
         have e2 := HR8.out.atOf
         first | (rw [e1, e2]; omega) | (simp only [e1, e2]; omega) | omega
       ·have n43 : ¬ (x1 : Int) = 43 := by omega
        have d43 : decide ((x1 : Int) = 43) = false := by simp; omega
        by_cases e63 : x1 = 63
        ·subst e63
         have HSG : Hid (sgn (bt s a1) = 6) := by show _ = _; rw [← HX1.out]; rfl
         obtain ⟨fv, rfl⟩ : ∃ fv, fu = fv + 1 := ⟨fu - 1, by omega⟩
         have HR3 : Hid (RS B p s (W5.setCell ⟨p, 1, none⟩ (.int .i64 ((a1 : Int) + 1))) (a1 + 1) l1 false U1) := HR5.out.step
         have HU3 : Hid (Us w (pU p U) (W5.setCell ⟨p, 1, none⟩ (.int .i64 ((a1 : Int) + 1))) (pU p U1)) := HU5.out.trans (us_set _)
         obtain ⟨W6, HW6⟩ : ∃ W6, Hid (W6 = W5.setCell ⟨p, 1, none⟩ (.int .i64 ((a1 : Int) + 1))) := ⟨_, rfl⟩
         have hWs : W6.heap.size = W5.heap.size := by rw [HW6.out]; simp
         rw [← HW6.out] at HR3 HU3
         have hp3 := HR3.out.lt
         obtain ⟨W7, HW7⟩ : ∃ W7, Hid (W7 = W6.alloc (.cells #[.int .i64 k] 3)) := ⟨_, rfl⟩
         have HBW7 : Hid (Below W6.heap.size W6 W7) := by rw [HW7.out]; exact below1 _ _
         have HRO : Hid (RowOwn B W7.heap.size W7 (some ⟨W5.heap.size, 0, none⟩) [k]) := by
          refine .inr ⟨W5.heap.size, rfl, hB5, by rw [HW7.out]; simp; omega, ?_⟩
          rw [HW7.out, ← hWs]
          exact blk_new W6 #[.int .i64 k] 3 _ (fun i hi => by
           have hi2 : i < 1 := hi
           obtain rfl : i = 0 := by omega
           rfl)
         have HR4 : Hid (RS B p s W7 (a1 + 1) l1 false U1) := HR3.out.below HBW7.out
         have HU4 : Hid (Us w (pU p U) W7 (pU p U1)) := HU3.out.below HBW7.out
         have hns : ∀ c, (some (⟨W5.heap.size, 0, none⟩ : Addr) = some ⟨c, 0, none⟩) → W5.heap.size = c := by intro c h; simpa using h
         have hU5s := HU5.out.1.size
         go_upto_region 28 with fail
         rw [← HW6.out]
         clear c0 c1 c2 cf fz1 HW6
         go_wp2_with fail
         rw [← HW7.out]
         refine (put_any B p s (a1 + 1) l1 false U1 6 0 (some ⟨W5.heap.size, 0, none⟩) 1 1 [k] W7 HR4.out (by have := HBW7.out.size; omega) (by omega) HRO.out rfl (fun _ c hc hu => by have := hp3 c hu; have := hns c hc; omega)).mono ?_
         rintro e w8 ⟨rfl, U8, h1, h2⟩
         have HR8 : Hid (RS B p s w8 (a1 + 1) (l1 ++ [(6, 0, [k])]) false U8) := h1
         have HU8 : Hid (Us w (pU p U) w8 (pU p U8)) := HU4.out.join (fun c hc => by have := hns c hc; omega) h2
         have HST : Hid (signP (bt s) (fv + 1) a1 l1 k = signP (bt s) fv (a1 + 1) (l1 ++ [(6, 0, [k])]) (l1.length : Int)) := by
          show _ = _
          rw [signP_go (by rw [HSG.out]; decide), HSG.out]
          rfl
         rw [HST.out] at HP1
         clear h1 h2
         go_wp2
         go_roundw
         case rel => exact ⟨_, a1 + 1, _, U8, fv, rfl, HR8, HU8, HP1, by show _ < _; omega, ⟨by omega, by omega, by simp <;> omega⟩⟩
         case measure =>
          have e1 := HR1.out.atOf
          have e2 := HR8.out.atOf
          first | (rw [e1, e2]; omega) | (simp only [e1, e2]; omega) | omega
        ·have n63 : ¬ (x1 : Int) = 63 := by omega
         have d63 : decide ((x1 : Int) = 63) = false := by simp; omega
         have HS0 : Hid (sgn (bt s a1) = 0) := by show _ = _; rw [← HX1.out]; unfold sgn; rw [if_neg e42, if_neg e43, if_neg e63]
         go_wp2
         go_ret
         exact HEND.out HS0.out _ HBW5.out
     ·have hj1 : ¬ (a1 : Int) < (s.size : Int) := by omega
      go_wp2_with fail
      go_quiet (fail)
      go_wp2
      go_ret
      exact HEND.out (by rw [bt_end hin1]; rfl) _ (below_drewN (Below.refl _ _) _)
  ·have hi1 : (a : Int) ≥ (s.size : Int) := by omega
   have hP : Hid (P = none) := by
    show _ = _
    rw [HPQ.out, HQ.out]
    unfold sglP
    rw [if_neg (by rw [bt_end hin]; decide), if_neg (by rw [bt_end hin]; decide)]
    rfl
   go_wp2_with fail
   go_quiet (fail)
   go_wp2
   go_ret
   exact ⟨0, a, l, true, U, rfl, (HR.out.below (below_drewN (Below.refl _ _) _)).fail, ((Us.refl _ _).below (below_drewN (Below.refl _ _) _)).trans (us_set _), .inl ⟨rfl, .inr hP⟩, ⟨by omega, by omega, by omega, fun _ h => absurd h hin⟩⟩
end Go.Proofs.YtbepmeipjdpipaaGreat
