import Derived.Test.YtbepmeipjdpipaaGreatJo02
import Derived.Deep.RegionHeld3
import Derived.Test.YtbepmeipjdpipaaGreatJo01
import Derived.Shelf.LaysM
import Derived.Shelf.Strconv.Clone
namespace Go.Proofs.YtbepmeipjdpipaaGreat
open Go.RowKit
abbrev qv (e : Bool) (a : Option Addr) (n1 c1 : Nat) (b : Option Addr) (n2 c2 : Nat) (c : Option Addr) (n3 c3 : Nat) : Value := .agg #[.bool e, .slice a n1 c1, .slice b n2 c2, .slice c n3 c3]
def QIn (lo hi : Nat) (w : World) (a b c : Option Addr) (n1 n2 n3 : Nat) (f1 f2 f3 : Nat → Value) : Prop := FlIn 1 lo hi w a n1 f1 ∧ FlIn 3 lo hi w b n2 f2 ∧ FlIn 4 lo hi w c n3 f3
def QOwn (lo hi : Nat) (w : World) (a b c : Option Addr) (n1 n2 n3 : Nat) (f1 f2 f3 : Nat → Value) : Prop := ∃ m1 m2, (lo ≤ m1 ∧ m1 ≤ m2 ∧ m2 ≤ hi) ∧ FlOwn 1 lo m1 w a n1 f1 ∧ FlOwn 3 m1 m2 w b n2 f2 ∧ FlOwn 4 m2 hi w c n3 f3
theorem QIn.below {lo hi B n1 n2 n3 : Nat} {w w' : World} {a b c : Option Addr} {f1 f2 f3 : Nat → Value} (h : QIn lo hi w a b c n1 n2 n3 f1 f2 f3) (hb : Below B w w') (hB : hi ≤ B) : QIn lo hi w' a b c n1 n2 n3 f1 f2 f3 := ⟨h.1.below hb hB, h.2.1.below hb hB, h.2.2.below hb hB⟩
theorem QIn.wide {lo hi lo' hi' n1 n2 n3 : Nat} {w : World} {a b c : Option Addr} {f1 f2 f3 : Nat → Value} (h : QIn lo hi w a b c n1 n2 n3 f1 f2 f3) (h1 : lo' ≤ lo) (h2 : hi ≤ hi') : QIn lo' hi' w a b c n1 n2 n3 f1 f2 f3 := ⟨h.1.wide h1 h2, h.2.1.wide h1 h2, h.2.2.wide h1 h2⟩
theorem QIn.kept {lo hi n1 n2 n3 : Nat} {p : Nat → Prop} {w w' : World} {a b c : Option Addr} {f1 f2 f3 : Nat → Value} (h : QIn lo hi w a b c n1 n2 n3 f1 f2 f3) (hk : KeptP p w w') (hh : hi ≤ w.heap.size) (hp : ∀ k, lo ≤ k → k < hi → ¬ p k) : QIn lo hi w' a b c n1 n2 n3 f1 f2 f3 := ⟨h.1.kept hk hh hp, h.2.1.kept hk hh hp, h.2.2.kept hk hh hp⟩
theorem QOwn.toIn {lo hi n1 n2 n3 : Nat} {w : World} {a b c : Option Addr} {f1 f2 f3 : Nat → Value} (h : QOwn lo hi w a b c n1 n2 n3 f1 f2 f3) : QIn lo hi w a b c n1 n2 n3 f1 f2 f3 := by
 obtain ⟨m1, m2, h0, h1, h2, h3⟩ := h
 exact ⟨h1.toIn.wide (Nat.le_refl _) (by omega), h2.toIn.wide (by omega) (by omega), h3.toIn.wide (by omega) (Nat.le_refl _)⟩
theorem QOwn.below {lo hi B n1 n2 n3 : Nat} {w w' : World} {a b c : Option Addr} {f1 f2 f3 : Nat → Value} (h : QOwn lo hi w a b c n1 n2 n3 f1 f2 f3) (hb : Below B w w') (hB : hi ≤ B) : QOwn lo hi w' a b c n1 n2 n3 f1 f2 f3 := by
 obtain ⟨m1, m2, h0, h1, h2, h3⟩ := h
 exact ⟨m1, m2, h0, h1.below hb (by omega), h2.below hb (by omega), h3.below hb hB⟩
theorem QOwn.wide {lo hi lo' hi' n1 n2 n3 : Nat} {w : World} {a b c : Option Addr} {f1 f2 f3 : Nat → Value} (h : QOwn lo hi w a b c n1 n2 n3 f1 f2 f3) (e1 : lo' ≤ lo) (e2 : hi ≤ hi') : QOwn lo' hi' w a b c n1 n2 n3 f1 f2 f3 := by
 obtain ⟨m1, m2, h0, h1, h2, h3⟩ := h
 exact ⟨m1, m2, by omega, h1.wide e1 (Nat.le_refl _), h2, h3.wide (Nat.le_refl _) e2⟩
theorem QOwn.kept {lo hi n1 n2 n3 : Nat} {p : Nat → Prop} {w w' : World} {a b c : Option Addr} {f1 f2 f3 : Nat → Value} (h : QOwn lo hi w a b c n1 n2 n3 f1 f2 f3) (hk : KeptP p w w') (hp : ∀ k, lo ≤ k → k < hi → ¬ p k) : QOwn lo hi w' a b c n1 n2 n3 f1 f2 f3 := by
 obtain ⟨m1, m2, h0, h1, h2, h3⟩ := h
 exact ⟨m1, m2, h0, h1.kept hk (fun k a b => hp k (by omega) (by omega)), h2.kept hk (fun k a b => hp k (by omega) (by omega)), h3.kept hk (fun k a b => hp k (by omega) (by omega))⟩
def QLe (L n1 n2 n3 : Nat) (o : List Tx) (t : List At) (f : List Fl) : Prop :=
 (n1 ≤ L ∧ n2 ≤ L ∧ n3 ≤ L) ∧ (∀ i, i < n1 → (tat o i).size ≤ L) ∧ (∀ i, i < n2 → (aat t i).1.size ≤ L ∧ (aat t i).2.1.size ≤ L ∧ (aat t i).2.2.size ≤ L) ∧ (∀ i, i < n3 → (fat f i).1.size ≤ L ∧ (fat f i).2.2.1.size ≤ L)
theorem QLe.mono {L L' n1 n2 n3 : Nat} {o : List Tx} {t : List At} {f : List Fl} (h : QLe L n1 n2 n3 o t f) (hL : L ≤ L') : QLe L' n1 n2 n3 o t f := by
 obtain ⟨h0, h1, h2, h3⟩ := h
 exact ⟨by omega, fun i hi => Nat.le_trans (h1 i hi) hL, fun i hi => ⟨Nat.le_trans (h2 i hi).1 hL, Nat.le_trans (h2 i hi).2.1 hL, Nat.le_trans (h2 i hi).2.2 hL⟩, fun i hi => ⟨Nat.le_trans (h3 i hi).1 hL, Nat.le_trans (h3 i hi).2 hL⟩⟩
theorem q_cells {w : World} {g : Nat} {x y z u : Value} (h : Blk w g 4 (fun i => if i = 0 then x else if i = 1 then y else if i = 2 then z else u)) : w.cell? ⟨g, 0, none⟩ = some x ∧ w.cell? ⟨g, 1, none⟩ = some y ∧ w.cell? ⟨g, 2, none⟩ = some z ∧ w.cell? ⟨g, 3, none⟩ = some u := ⟨h.cell (i := 0) (by omega), h.cell (i := 1) (by omega), h.cell (i := 2) (by omega), h.cell (i := 3) (by omega)⟩
abbrev q4 (x y z u : Value) : Nat → Value := fun i => if i = 0 then x else if i = 1 then y else if i = 2 then z else u
set_option maxHeartbeats 2000000 in
theorem szQuery_any (lo hi : Nat) (e : Bool) (a b c : Option Addr) (n1 c1 n2 c2 n3 c3 : Nat) (o : List Tx) (t : List At) (f : List Fl) (L : Nat) (w : World) (ha : QIn lo hi w a b c n1 n2 n3 (tC o) (aC t) (fC f)) (hh : hi ≤ w.heap.size) (hz : QLe 9223372036854775807 n1 n2 n3 o t f) (hL : L ≤ 1048576) :
  Calls Tryz.prog 5 #[qv e a n1 c1 b n2 c2 c n3 c3, .int .i64 (L : Int)] w fun e w' => ∃ x : Int, e = .returned (.int .i64 x) ∧ Hid (x < 0 ∨ ∃ m : Nat, x = (m : Int) ∧ m ≤ L ∧ QLe L n1 n2 n3 o t f) ∧ Hid (Below w.heap.size w w') := by
 obtain ⟨B, HB⟩ : ∃ B, Hid (B = w.heap.size) := ⟨_, rfl⟩
 obtain ⟨W, HW⟩ : ∃ W, Hid (W = w.alloc (.cells #[.bool e, .slice a n1 c1, .slice b n2 c2, .slice c n3 c3] 26)) := ⟨_, rfl⟩
 have HBW : Hid (Below w.heap.size w W) := by rw [HW.out]; exact below1 w _
 have HQ : Hid (Blk W B 4 (q4 (.bool e) (.slice a n1 c1) (.slice b n2 c2) (.slice c n3 c3))) := by rw [HW.out]; exact blk_four w B HB.out _ _ _ _ _
 have HC1 : Hid (∀ w0, Below w.heap.size w w0 → Calls Tryz.prog 17 #[.slice a n1 c1, .int .i64 (L : Int)] w0 fun e w' => ∃ x : Int, e = .returned (.int .i64 x) ∧ Hid (x < 0 ∨ ∃ m : Nat, x = (m : Int) ∧ m ≤ L ∧ n1 ≤ L ∧ ∀ i, i < n1 → (tat o i).size ≤ L) ∧ Hid (Below w0.heap.size w0 w')) := fun w0 h =>
  szStringS_any lo hi a n1 c1 o L w0 (ha.1.below h hh) (Nat.le_trans hh h.size) hz.1.1 hz.2.1 hL
 have HC2 : Hid (∀ m : Nat, m ≤ 1048576 → ∀ w0, Below w.heap.size w w0 → Calls Tryz.prog 18 #[.slice b n2 c2, .int .i64 (m : Int)] w0 fun e w' => ∃ x : Int, e = .returned (.int .i64 x) ∧ Hid (x < 0 ∨ ∃ m' : Nat, x = (m' : Int) ∧ m' ≤ m ∧ n2 ≤ m ∧ ∀ i, i < n2 → (aat t i).1.size ≤ m ∧ (aat t i).2.1.size ≤ m ∧ (aat t i).2.2.size ≤ m) ∧ Hid (Below w0.heap.size w0 w')) := fun m hm w0 h =>
  szAtomS_any lo hi b n2 c2 t m w0 (ha.2.1.below h hh) (Nat.le_trans hh h.size) hz.1.2.1 hz.2.2.1 hm
 have HC3 : Hid (∀ m : Nat, m ≤ 1048576 → ∀ w0, Below w.heap.size w w0 → Calls Tryz.prog 19 #[.slice c n3 c3, .int .i64 (m : Int)] w0 fun e w' => ∃ x : Int, e = .returned (.int .i64 x) ∧ Hid (x < 0 ∨ ∃ m' : Nat, x = (m' : Int) ∧ m' ≤ m ∧ n3 ≤ m ∧ ∀ i, i < n3 → (fat f i).1.size ≤ m ∧ (fat f i).2.2.1.size ≤ m) ∧ Hid (Below w0.heap.size w0 w')) := fun m hm w0 h =>
  szFilterS_any lo hi c n3 c3 f m w0 (ha.2.2.below h hh) (Nat.le_trans hh h.size) hz.1.2.2 hz.2.2.2 hm
 clear ha hh hz
 obtain ⟨q0, q1, q2, q3⟩ := q_cells HQ.out
 go_enter Tryz.func5, Tryz.ntmps5
 go_upto_region 1 with fail
 rw [← HB.out, ← HW.out]
 clear HW
 go_wp2_with fail
 refine (HC1.out _ HBW.out).mono ?_
 rintro e1 w1 ⟨x, rfl, HX, HB1⟩
 have HBX1 : Hid (Below w.heap.size w w1) := HBW.out.trans (HB1.out.mono HBW.out.size)
 have HQ1 : Hid (Blk w1 B 4 (q4 (.bool e) (.slice a n1 c1) (.slice b n2 c2) (.slice c n3 c3))) := HQ.out.of_block (HB1.out.block _ HQ.out.lt)
 clear q0 q1 q2 q3 HB1
 by_cases hx : x < 0
 ·go_wp2
  go_ret
  exact ⟨-1, rfl, .inl (by omega), HBX1⟩
 have HX2 := HX.out.resolve_left hx
 obtain ⟨m, rfl, hmL, hx1, hx2⟩ := HX2
 have HX3 : Hid (n1 ≤ L ∧ ∀ i, i < n1 → (tat o i).size ≤ L) := ⟨hx1, hx2⟩
 clear HX hx1 hx2
 obtain ⟨q0, q1, q2, q3⟩ := q_cells HQ1.out
 go_wp2_with fail
 refine (HC2.out m (by omega) _ HBX1.out).mono ?_
 rintro e2 w2 ⟨x, rfl, HX, HB1⟩
 have HBX2 : Hid (Below w.heap.size w w2) := HBX1.out.trans (HB1.out.mono HBX1.out.size)
 have HQ2 : Hid (Blk w2 B 4 (q4 (.bool e) (.slice a n1 c1) (.slice b n2 c2) (.slice c n3 c3))) := HQ1.out.of_block (HB1.out.block _ HQ1.out.lt)
 clear q0 q1 q2 q3 HB1
 by_cases hx : x < 0
 ·go_wp2
  go_ret
  exact ⟨-1, rfl, .inl (by omega), HBX2⟩
 have HX2 := HX.out.resolve_left hx
 obtain ⟨m2, rfl, hmL2, hx1, hx2⟩ := HX2
 have HX4 : Hid (n2 ≤ L ∧ ∀ i, i < n2 → (aat t i).1.size ≤ L ∧ (aat t i).2.1.size ≤ L ∧ (aat t i).2.2.size ≤ L) := ⟨by omega, fun i hi => by have := hx2 i hi; omega⟩
 clear HX hx1 hx2
 obtain ⟨q0, q1, q2, q3⟩ := q_cells HQ2.out
 go_wp2_with fail
 refine (HC3.out m2 (by omega) _ HBX2.out).mono ?_
 rintro e3 w3 ⟨x, rfl, HX, HB1⟩
 have HBX3 : Hid (Below w.heap.size w w3) := HBX2.out.trans (HB1.out.mono HBX2.out.size)
 clear q0 q1 q2 q3 HB1
 by_cases hx : x < 0
 ·go_wp2
  go_ret
  exact ⟨-1, rfl, .inl (by omega), HBX3⟩
 have HX2 := HX.out.resolve_left hx
 obtain ⟨m3, rfl, hmL3, hx1, hx2⟩ := HX2
 have HX5 : Hid (QLe L n1 n2 n3 o t f) := ⟨⟨HX3.out.1, HX4.out.1, by omega⟩, HX3.out.2, HX4.out.2, fun i hi => by have := hx2 i hi; omega⟩
 clear HX hx1 hx2
 go_wp2
 go_ret
 exact ⟨(m3 : Int), rfl, .inr ⟨m3, rfl, by omega, HX5.out⟩, HBX3⟩
set_option maxHeartbeats 2000000 in
set_option maxRecDepth 100000 in
theorem toQuery_any (lo hi : Nat) (e : Bool) (a b c : Option Addr) (n1 c1 n2 c2 n3 c3 : Nat) (o : List Tx) (t : List At) (f : List Fl) (w : World) (ha : QIn lo hi w a b c n1 n2 n3 (tC o) (aC t) (fC f)) (hh : hi ≤ w.heap.size) (hz : n1 ≤ 1048576 ∧ n2 ≤ 1048576 ∧ n3 ≤ 1048576) :
  Calls Tryz.prog 7 #[qv e a n1 c1 b n2 c2 c n3 c3] w fun e' w' => ∃ g1 g2 g3 : Nat, e' = .returned (qv e (some ⟨g1, 0, none⟩) n1 n1 (some ⟨g2, 0, none⟩) n2 n2 (some ⟨g3, 0, none⟩) n3 n3) ∧ Hid (QOwn w.heap.size w'.heap.size w' (some ⟨g1, 0, none⟩) (some ⟨g2, 0, none⟩) (some ⟨g3, 0, none⟩) n1 n2 n3 (tC o) (aC t) (fC f)) ∧ Hid (Below w.heap.size w w') := by
 obtain ⟨B, HB⟩ : ∃ B, Hid (B = w.heap.size) := ⟨_, rfl⟩
 obtain ⟨W, HW⟩ : ∃ W, Hid (W = ((w.alloc (.cells #[.bool e, .slice a n1 c1, .slice b n2 c2, .slice c n3 c3] 26)).alloc (.cells #[.bool false, .slice none 0 0, .slice none 0 0, .slice none 0 0] 32)).alloc (.cells #[.bool e, .slice none 0 0, .slice none 0 0, .slice none 0 0] 32)) := ⟨_, rfl⟩
 have HBW : Hid (Below w.heap.size w W) := by rw [HW.out]; exact below3 w _ _ _
 have HSW : Hid (W.heap.size = B + 3) := by rw [HW.out, HB.out]; show _ = _; simp
 have HQ : Hid (Blk W B 4 (q4 (.bool e) (.slice a n1 c1) (.slice b n2 c2) (.slice c n3 c3))) := by rw [HW.out]; exact ((blk_four w B HB.out _ _ _ _ _).alloc _).alloc _
 have HR : Hid (Blk W (B + 1) 4 (q4 (.bool false) (.slice none 0 0) (.slice none 0 0) (.slice none 0 0))) := by rw [HW.out]; exact (blk_four _ (B + 1) (by rw [HB.out]; simp) _ _ _ _ _).alloc _
 have HO : Hid (Blk W (B + 1 + 1) 4 (q4 (.bool e) (.slice none 0 0) (.slice none 0 0) (.slice none 0 0))) := by rw [HW.out]; exact blk_four _ (B + 1 + 1) (by rw [HB.out]; simp) _ _ _ _ _
 have HC1 : Hid (∀ w0, Below w.heap.size w w0 → Calls Tryz.prog 24 #[.slice a n1 c1] w0 fun e w' => ∃ g : Nat, e = .returned (.slice (some ⟨g, 0, none⟩) n1 n1) ∧ Hid (FlOwn 1 w0.heap.size w'.heap.size w' (some ⟨g, 0, none⟩) n1 (tC o)) ∧ Hid (Below w0.heap.size w0 w')) := fun w0 h => toStringS_any lo hi a n1 c1 o w0 (ha.1.below h hh) (Nat.le_trans hh h.size) hz.1
 have HC2 : Hid (∀ w0, Below w.heap.size w w0 → Calls Tryz.prog 25 #[.slice b n2 c2] w0 fun e w' => ∃ g : Nat, e = .returned (.slice (some ⟨g, 0, none⟩) n2 n2) ∧ Hid (FlOwn 3 w0.heap.size w'.heap.size w' (some ⟨g, 0, none⟩) n2 (aC t)) ∧ Hid (Below w0.heap.size w0 w')) := fun w0 h => toAtomS_any lo hi b n2 c2 t w0 (ha.2.1.below h hh) (Nat.le_trans hh h.size) hz.2.1
 have HC3 : Hid (∀ w0, Below w.heap.size w w0 → Calls Tryz.prog 26 #[.slice c n3 c3] w0 fun e w' => ∃ g : Nat, e = .returned (.slice (some ⟨g, 0, none⟩) n3 n3) ∧ Hid (FlOwn 4 w0.heap.size w'.heap.size w' (some ⟨g, 0, none⟩) n3 (fC f)) ∧ Hid (Below w0.heap.size w0 w')) := fun w0 h => toFilterS_any lo hi c n3 c3 f w0 (ha.2.2.below h hh) (Nat.le_trans hh h.size) hz.2.2
 clear ha hh hz
 obtain ⟨q0, q1, q2, q3⟩ := q_cells HQ.out
 go_enter Tryz.func7, Tryz.ntmps7
 go_upto_region 3 with fail
 rw [← HB.out]
 first | rw [← HW.out] | (rw [show _ = W from HW.out.symm])
 clear HW
 go_wp2_with fail
 refine (HC1.out _ HBW.out).mono ?_
 rintro e1 w1 ⟨g1, rfl, HG1, HB1⟩
 have HBX1 : Hid (Below w.heap.size w w1) := HBW.out.trans (HB1.out.mono HBW.out.size)
 have HS1 : Hid (B + 3 ≤ w1.heap.size) := by rw [← HSW.out]; exact HB1.out.size
 have HGA : Hid (FlOwn 1 (B + 3) w1.heap.size w1 (some ⟨g1, 0, none⟩) n1 (tC o)) := by rw [← HSW.out]; exact HG1.out
 have HQ1 : Hid (Blk w1 B 4 (q4 (.bool e) (.slice a n1 c1) (.slice b n2 c2) (.slice c n3 c3))) := HQ.out.of_block (HB1.out.block _ HQ.out.lt)
 have HR1 : Hid (Blk w1 (B + 1) 4 (q4 (.bool false) (.slice none 0 0) (.slice none 0 0) (.slice none 0 0))) := HR.out.of_block (HB1.out.block _ HR.out.lt)
 have HO1 : Hid (Blk w1 (B + 1 + 1) 4 (q4 (.bool e) (.slice none 0 0) (.slice none 0 0) (.slice none 0 0))) := HO.out.of_block (HB1.out.block _ HO.out.lt)
 clear q0 q1 q2 q3 HB1 HG1
 obtain ⟨q0, q1, q2, q3⟩ := q_cells HQ1.out
 obtain ⟨d0, d1, d2, d3⟩ := q_cells HO1.out
 have f1 := Blk.frozen HO1.out 1
 obtain ⟨V1, HV1⟩ : ∃ V, Hid (V = w1.setCell ⟨B + 1 + 1, 1, none⟩ (.slice (some ⟨g1, 0, none⟩) n1 n1)) := ⟨_, rfl⟩
 go_upto_region 4 with fail
 rw [← HV1.out]
 have HKV : Hid (KeptP (fun c => c = B + 1 + 1) w1 V1) := by rw [HV1.out]; exact KeptP.setCell (p := fun c => c = B + 1 + 1) (KeptP.refl _ _) rfl _
 have HBV : Hid (Below w.heap.size w V1) := HBX1.out.trans (HKV.out.to_below (B := w.heap.size) HBX1.out.size (fun k hk => by have := HB.out; omega))
 have HSV : Hid (V1.heap.size = w1.heap.size) := by rw [HV1.out]; show _ = _; simp
 have HQ2 : Hid (Blk V1 B 4 (q4 (.bool e) (.slice a n1 c1) (.slice b n2 c2) (.slice c n3 c3))) := HKV.out.blk HQ1.out (by omega)
 have HR2 : Hid (Blk V1 (B + 1) 4 (q4 (.bool false) (.slice none 0 0) (.slice none 0 0) (.slice none 0 0))) := HKV.out.blk HR1.out (by omega)
 have HO2 : Hid (Blk V1 (B + 1 + 1) 4 (q4 (.bool e) (.slice (some ⟨g1, 0, none⟩) n1 n1) (.slice none 0 0) (.slice none 0 0))) := by
  rw [HV1.out]
  exact (Blk.set HO1.out 1 (by omega) _).congr (fun j hj => by rcases (show j = 0 ∨ j = 1 ∨ j = 2 ∨ j = 3 by omega) with h | h | h | h <;> subst h <;> rfl)
 have HGB : Hid (FlOwn 1 (B + 3) w1.heap.size V1 (some ⟨g1, 0, none⟩) n1 (tC o)) := HGA.out.kept HKV.out (fun k h1 h2 => by omega)
 clear q0 q1 q2 q3 d0 d1 d2 d3 f1 HV1 HKV HQ1 HR1 HO1 HGA HBX1
 obtain ⟨q0, q1, q2, q3⟩ := q_cells HQ2.out
 go_wp2_with fail
 refine (HC2.out _ HBV.out).mono ?_
 rintro e2 w2 ⟨g2, rfl, HG1, HB1⟩
 have HBX2 : Hid (Below w.heap.size w w2) := HBV.out.trans (HB1.out.mono HBV.out.size)
 have HS2 : Hid (w1.heap.size ≤ w2.heap.size) := by rw [← HSV.out]; exact HB1.out.size
 have HGA2 : Hid (FlOwn 3 w1.heap.size w2.heap.size w2 (some ⟨g2, 0, none⟩) n2 (aC t)) := by rw [← HSV.out]; exact HG1.out
 have HGA : Hid (FlOwn 1 (B + 3) w1.heap.size w2 (some ⟨g1, 0, none⟩) n1 (tC o)) := HGB.out.below HB1.out (by rw [HSV.out]; exact Nat.le_refl _)
 have HQ3 : Hid (Blk w2 B 4 (q4 (.bool e) (.slice a n1 c1) (.slice b n2 c2) (.slice c n3 c3))) := HQ2.out.of_block (HB1.out.block _ HQ2.out.lt)
 have HR3 : Hid (Blk w2 (B + 1) 4 (q4 (.bool false) (.slice none 0 0) (.slice none 0 0) (.slice none 0 0))) := HR2.out.of_block (HB1.out.block _ HR2.out.lt)
 have HO3 : Hid (Blk w2 (B + 1 + 1) 4 (q4 (.bool e) (.slice (some ⟨g1, 0, none⟩) n1 n1) (.slice none 0 0) (.slice none 0 0))) := HO2.out.of_block (HB1.out.block _ HO2.out.lt)
 clear q0 q1 q2 q3 HB1 HG1 HQ2 HR2 HO2 HGB HBV
 obtain ⟨q0, q1, q2, q3⟩ := q_cells HQ3.out
 obtain ⟨d0, d1, d2, d3⟩ := q_cells HO3.out
 have f2 := Blk.frozen HO3.out 2
 obtain ⟨V2, HV1⟩ : ∃ V, Hid (V = w2.setCell ⟨B + 1 + 1, 2, none⟩ (.slice (some ⟨g2, 0, none⟩) n2 n2)) := ⟨_, rfl⟩
 go_upto_region 5 with fail
 rw [← HV1.out]
 have HKV : Hid (KeptP (fun c => c = B + 1 + 1) w2 V2) := by rw [HV1.out]; exact KeptP.setCell (p := fun c => c = B + 1 + 1) (KeptP.refl _ _) rfl _
 have HBV : Hid (Below w.heap.size w V2) := HBX2.out.trans (HKV.out.to_below (B := w.heap.size) HBX2.out.size (fun k hk => by have := HB.out; omega))
 have HSV2 : Hid (V2.heap.size = w2.heap.size) := by rw [HV1.out]; show _ = _; simp
 have HQ4 : Hid (Blk V2 B 4 (q4 (.bool e) (.slice a n1 c1) (.slice b n2 c2) (.slice c n3 c3))) := HKV.out.blk HQ3.out (by omega)
 have HR4 : Hid (Blk V2 (B + 1) 4 (q4 (.bool false) (.slice none 0 0) (.slice none 0 0) (.slice none 0 0))) := HKV.out.blk HR3.out (by omega)
 have HO4 : Hid (Blk V2 (B + 1 + 1) 4 (q4 (.bool e) (.slice (some ⟨g1, 0, none⟩) n1 n1) (.slice (some ⟨g2, 0, none⟩) n2 n2) (.slice none 0 0))) := by
  rw [HV1.out]
  exact (Blk.set HO3.out 2 (by omega) _).congr (fun j hj => by rcases (show j = 0 ∨ j = 1 ∨ j = 2 ∨ j = 3 by omega) with h | h | h | h <;> subst h <;> rfl)
 have HGC : Hid (FlOwn 1 (B + 3) w1.heap.size V2 (some ⟨g1, 0, none⟩) n1 (tC o)) := HGA.out.kept HKV.out (fun k h1 h2 => by omega)
 have HGC2 : Hid (FlOwn 3 w1.heap.size w2.heap.size V2 (some ⟨g2, 0, none⟩) n2 (aC t)) := HGA2.out.kept HKV.out (fun k h1 h2 => by have := HS1.out; omega)
 clear q0 q1 q2 q3 d0 d1 d2 d3 f2 HV1 HKV HQ3 HR3 HO3 HGA HGA2 HBX2
 obtain ⟨q0, q1, q2, q3⟩ := q_cells HQ4.out
 go_wp2_with fail
 refine (HC3.out _ HBV.out).mono ?_
 rintro e3 w3 ⟨g3, rfl, HG1, HB1⟩
 have HBX3 : Hid (Below w.heap.size w w3) := HBV.out.trans (HB1.out.mono HBV.out.size)
 have HS3 : Hid (w2.heap.size ≤ w3.heap.size) := by rw [← HSV2.out]; exact HB1.out.size
 have HGA3 : Hid (FlOwn 4 w2.heap.size w3.heap.size w3 (some ⟨g3, 0, none⟩) n3 (fC f)) := by rw [← HSV2.out]; exact HG1.out
 have HGA2 : Hid (FlOwn 3 w1.heap.size w2.heap.size w3 (some ⟨g2, 0, none⟩) n2 (aC t)) := HGC2.out.below HB1.out (by rw [HSV2.out]; exact Nat.le_refl _)
 have HGA : Hid (FlOwn 1 (B + 3) w1.heap.size w3 (some ⟨g1, 0, none⟩) n1 (tC o)) := HGC.out.below HB1.out (by rw [HSV2.out]; exact HS2.out)
 have HR5 : Hid (Blk w3 (B + 1) 4 (q4 (.bool false) (.slice none 0 0) (.slice none 0 0) (.slice none 0 0))) := HR4.out.of_block (HB1.out.block _ HR4.out.lt)
 have HO5 : Hid (Blk w3 (B + 1 + 1) 4 (q4 (.bool e) (.slice (some ⟨g1, 0, none⟩) n1 n1) (.slice (some ⟨g2, 0, none⟩) n2 n2) (.slice none 0 0))) := HO4.out.of_block (HB1.out.block _ HO4.out.lt)
 clear q0 q1 q2 q3 HB1 HG1 HQ4 HR4 HO4 HGC HGC2 HBV
 obtain ⟨r0, r1, r2, r3⟩ := q_cells HR5.out
 obtain ⟨d0, d1, d2, d3⟩ := q_cells HO5.out
 have f3 := Blk.frozen HO5.out 3
 have k0 := Blk.frozen HR5.out 0
 have k1 := Blk.frozen HR5.out 1
 have k2 := Blk.frozen HR5.out 2
 have k3 := Blk.frozen HR5.out 3
 go_wp2
 refine bodyPost_ret (v := qv e (some ⟨g1, 0, none⟩) n1 n1 (some ⟨g2, 0, none⟩) n2 n2 (some ⟨g3, 0, none⟩) n3 n3) (by simp [results, Tryz.results7, go_sem, r0, r1, r2, r3]) rfl ?_
 refine ⟨g1, g2, g3, rfl, ⟨w1.heap.size, w2.heap.size, ⟨by have := HS1.out; have := HB.out; omega, HS2.out, by simpa using HS3.out⟩, ?_, ?_, ?_⟩, ?_⟩
 ·exact (((((HGA.out.setCell (by omega) _).setCell (by omega) _).setCell (by omega) _).setCell (by omega) _).setCell (by omega) _).wide (by have := HB.out; omega) (Nat.le_refl _)
 ·have := HS1.out
  exact ((((HGA2.out.setCell (by omega) _).setCell (by omega) _).setCell (by omega) _).setCell (by omega) _).setCell (by omega) _
 ·have := HS1.out
  have := HS2.out
  exact (((((HGA3.out.setCell (by omega) _).setCell (by omega) _).setCell (by omega) _).setCell (by omega) _).setCell (by omega) _).wide (Nat.le_refl _) (by simp)
 ·have hb := HB.out
  exact ((((HBX3.out.setCell (by dsimp only; omega) _).setCell (by dsimp only; omega) _).setCell (by dsimp only; omega) _).setCell (by dsimp only; omega) _).setCell (by dsimp only; omega) _
set_option maxHeartbeats 1000000 in
theorem eqAtom_any (x0 y0 : ByteArray) (x1 y1 : ByteArray) (x2 y2 : ByteArray) (r : Bool) (w : World) (hr : r = decide (x0 = y0 ∧ x1 = y1 ∧ x2 = y2)) : Calls Tryz.prog 51 #[.agg #[.string x0, .string x1, .string x2], .agg #[.string y0, .string y1, .string y2]] w fun e w' => e = .returned (.bool r) ∧ Hid (Below w.heap.size w w') := by
 have HR : Hid (r = decide (x0 = y0 ∧ x1 = y1 ∧ x2 = y2)) := hr
 clear hr
 by_cases h0 : x0 = y0
 ·subst h0
  by_cases h1 : x1 = y1
  ·subst h1
   by_cases h2 : x2 = y2
   ·subst h2
    obtain rfl : r = true := by rw [HR.out]; simp
    go_enter Tryz.func51, Tryz.ntmps51
    go_wp2
    go_ret
    exact ⟨rfl, below2 w _ _⟩
   ·have hn : (x2.toList == y2.toList) = false := by rw [toList_eq]; exact decide_eq_false h2
    obtain rfl : r = false := by rw [HR.out]; simp [h2]
    go_enter Tryz.func51, Tryz.ntmps51
    go_wp2
    go_ret
    exact ⟨rfl, below2 w _ _⟩
  ·have hn : (x1.toList == y1.toList) = false := by rw [toList_eq]; exact decide_eq_false h1
   obtain rfl : r = false := by rw [HR.out]; simp [h1]
   go_enter Tryz.func51, Tryz.ntmps51
   go_wp2
   go_ret
   exact ⟨rfl, below2 w _ _⟩
 ·have hn : (x0.toList == y0.toList) = false := by rw [toList_eq]; exact decide_eq_false h0
  obtain rfl : r = false := by rw [HR.out]; simp [h0]
  go_enter Tryz.func51, Tryz.ntmps51
  go_wp2
  go_ret
  exact ⟨rfl, below2 w _ _⟩
set_option maxHeartbeats 1000000 in
theorem eqFilter_any (x0 y0 : ByteArray) (x1 y1 : Int) (x2 y2 : ByteArray) (x3 y3 : Int) (r : Bool) (w : World) (hr : r = decide (x0 = y0 ∧ x1 = y1 ∧ x2 = y2 ∧ x3 = y3)) : Calls Tryz.prog 52 #[.agg #[.string x0, .int .i64 x1, .string x2, .int .i64 x3], .agg #[.string y0, .int .i64 y1, .string y2, .int .i64 y3]] w fun e w' => e = .returned (.bool r) ∧ Hid (Below w.heap.size w w') := by
 have HR : Hid (r = decide (x0 = y0 ∧ x1 = y1 ∧ x2 = y2 ∧ x3 = y3)) := hr
 clear hr
 by_cases h0 : x0 = y0
 ·subst h0
  by_cases h1 : x1 = y1
  ·subst h1
   by_cases h2 : x2 = y2
   ·subst h2
    by_cases h3 : x3 = y3
    ·subst h3
     obtain rfl : r = true := by rw [HR.out]; simp
     go_enter Tryz.func52, Tryz.ntmps52
     go_wp2
     go_ret
     exact ⟨rfl, below2 w _ _⟩
    ·have hn : decide (x3 = y3) = false := decide_eq_false h3
     obtain rfl : r = false := by rw [HR.out]; simp [h3]
     go_enter Tryz.func52, Tryz.ntmps52
     go_wp2
     go_ret
     exact ⟨rfl, below2 w _ _⟩
   ·have hn : (x2.toList == y2.toList) = false := by rw [toList_eq]; exact decide_eq_false h2
    obtain rfl : r = false := by rw [HR.out]; simp [h2]
    go_enter Tryz.func52, Tryz.ntmps52
    go_wp2
    go_ret
    exact ⟨rfl, below2 w _ _⟩
  ·have hn : decide (x1 = y1) = false := decide_eq_false h1
   obtain rfl : r = false := by rw [HR.out]; simp [h1]
   go_enter Tryz.func52, Tryz.ntmps52
   go_wp2
   go_ret
   exact ⟨rfl, below2 w _ _⟩
 ·have hn : (x0.toList == y0.toList) = false := by rw [toList_eq]; exact decide_eq_false h0
  obtain rfl : r = false := by rw [HR.out]; simp [h0]
  go_enter Tryz.func52, Tryz.ntmps52
  go_wp2
  go_ret
  exact ⟨rfl, below2 w _ _⟩
set_option maxHeartbeats 4000000 in
set_option maxRecDepth 100000 in
theorem eqStringS_any (lo hi lo' hi' : Nat) (a a' : Option Addr) (n n' cap cap' : Nat) (l l' : List Tx) (r : Bool) (w : World) (ha : FlIn 1 lo hi w a n (tC l)) (hb : FlIn 1 lo' hi' w a' n' (tC l')) (hh : hi ≤ w.heap.size) (hh' : hi' ≤ w.heap.size) (hn : l.length = n) (hn' : l'.length = n') (hm : n ≤ 9223372036854775807) (hr : r = decide (l = l')) :
  Calls Tryz.prog 31 #[.slice a n cap, .slice a' n' cap'] w fun e w' => e = .returned (.bool r) ∧ Hid (Below w.heap.size w w') := by
 have HN : Hid (l.length = n) := hn
 have HN' : Hid (l'.length = n') := hn'
 have HA : Hid (FlIn 1 lo hi w a n (tC l)) := ha
 have HA' : Hid (FlIn 1 lo' hi' w a' n' (tC l')) := hb
 have HH : Hid (hi ≤ w.heap.size ∧ hi' ≤ w.heap.size) := ⟨hh, hh'⟩
 have HR : Hid (r = decide (l = l')) := hr
 clear ha hb hh hh' hn hn' hr
 by_cases he : n = n'
 ·subst he
  go_enter Tryz.func31, Tryz.ntmps31
  go_wp2
  go_loopw [5] (fun i wr => ∃ k : Nat, i = .int .i64 k ∧ k ≤ n ∧ Hid (l = l' ↔ l.drop k = l'.drop k) ∧ Hid (Below w.heap.size w wr)) (fun i _ => n - (intOf i).toNat)
  case atStart => exact ⟨0, rfl, by omega, by show _ ↔ _; simp, Below.refl _ _⟩
  case round =>
   obtain ⟨k, rfl, hk, HE, HL⟩ := hrel
   by_cases hlt : k < n
   ·have hlt1 : (k : Int) < (n : Int) := by omega
    have hlt0 : 0 ≤ (k : Int) := by omega
    obtain ⟨b, o, rfl, _, _, hx⟩ := (HA.out.below HL.out HH.out.1).at hlt
    obtain ⟨b', o', rfl, _, _, hy⟩ := (HA'.out.below HL.out HH.out.2).at hlt
    obtain ⟨x, HX⟩ : ∃ x, Hid (x = tat l k) := ⟨_, rfl⟩
    obtain ⟨y, HY⟩ : ∃ x, Hid (x = tat l' k) := ⟨_, rfl⟩
    have HD : Hid ((l = l') ↔ (x = y ∧ l.drop (k + 1) = l'.drop (k + 1))) := HE.out.trans (by rw [HX.out, HY.out]; exact drop_t HN.out HN'.out hlt)
    have p0 := hx 0 (by omega)
    have q0 := hy 0 (by omega)
    rw [tC0, ← HX.out] at p0
    rw [tC0, ← HY.out] at q0
    clear hx hy
    rw [Nat.mul_one, Nat.add_zero] at p0 q0
    by_cases hxy : x = y
    ·subst hxy
     go_wp2_with fail
     go_quiet (fail)
     go_wp2
     go_roundw
     case rel => exact ⟨k + 1, by go_num, by omega, HD.out.trans ⟨fun h => h.2, fun h => ⟨by simp, h⟩⟩, HL.out.trans (below_drewN (Below.refl _ _) _ |>.mono HL.out.size)⟩
     case measure => simp [intOf]; omega
    ·have hne : (x.toList == y.toList) = false := by rw [toList_eq]; exact decide_eq_false hxy
     have hf : r = false := by rw [HR.out]; exact decide_eq_false fun h => hxy (HD.out.1 h).1
     subst hf
     go_wp2_with fail
     go_quiet (fail)
     go_wp2
     go_ret
     exact ⟨rfl, HL.out.trans (below_drewN (Below.refl _ _) _ |>.mono HL.out.size)⟩
   ·have hf : r = true := by
     rw [HR.out]
     refine decide_eq_true (HE.out.2 ?_)
     rw [List.drop_of_length_le (by rw [HN.out]; omega), List.drop_of_length_le (by rw [HN'.out]; omega)]
    subst hf
    go_wp2
    go_ret
    exact ⟨rfl, HL⟩
 ·have hne : decide ((n : Int) = (n' : Int)) = false := by simp; omega
  have hr : r = false := by rw [HR.out]; exact decide_eq_false fun h => he (by rw [← HN.out, h, HN'.out])
  subst hr
  go_enter Tryz.func31, Tryz.ntmps31
  go_wp2
  go_ret
  exact ⟨rfl, Below.refl _ _⟩
set_option maxHeartbeats 4000000 in
set_option maxRecDepth 100000 in
theorem eqAtomS_any (lo hi lo' hi' : Nat) (a a' : Option Addr) (n n' cap cap' : Nat) (l l' : List At) (r : Bool) (w : World) (ha : FlIn 3 lo hi w a n (aC l)) (hb : FlIn 3 lo' hi' w a' n' (aC l')) (hh : hi ≤ w.heap.size) (hh' : hi' ≤ w.heap.size) (hn : l.length = n) (hn' : l'.length = n') (hm : n ≤ 9223372036854775807) (hr : r = decide (l = l')) :
  Calls Tryz.prog 32 #[.slice a n cap, .slice a' n' cap'] w fun e w' => e = .returned (.bool r) ∧ Hid (Below w.heap.size w w') := by
 have HN : Hid (l.length = n) := hn
 have HN' : Hid (l'.length = n') := hn'
 have HA : Hid (FlIn 3 lo hi w a n (aC l)) := ha
 have HA' : Hid (FlIn 3 lo' hi' w a' n' (aC l')) := hb
 have HH : Hid (hi ≤ w.heap.size ∧ hi' ≤ w.heap.size) := ⟨hh, hh'⟩
 have HR : Hid (r = decide (l = l')) := hr
 clear ha hb hh hh' hn hn' hr
 by_cases he : n = n'
 ·subst he
  go_enter Tryz.func32, Tryz.ntmps32
  go_wp2
  go_loopw [5] (fun i wr => ∃ k : Nat, i = .int .i64 k ∧ k ≤ n ∧ Hid (l = l' ↔ l.drop k = l'.drop k) ∧ Hid (Below w.heap.size w wr)) (fun i _ => n - (intOf i).toNat)
  case atStart => exact ⟨0, rfl, by omega, by show _ ↔ _; simp, Below.refl _ _⟩
  case round =>
   obtain ⟨k, rfl, hk, HE, HL⟩ := hrel
   by_cases hlt : k < n
   ·have hlt1 : (k : Int) < (n : Int) := by omega
    have hlt0 : 0 ≤ (k : Int) := by omega
    obtain ⟨b, o, rfl, _, _, hx⟩ := (HA.out.below HL.out HH.out.1).at hlt
    obtain ⟨b', o', rfl, _, _, hy⟩ := (HA'.out.below HL.out HH.out.2).at hlt
    obtain ⟨x, HX⟩ : ∃ x, Hid (x = aat l k) := ⟨_, rfl⟩
    obtain ⟨y, HY⟩ : ∃ x, Hid (x = aat l' k) := ⟨_, rfl⟩
    have HD : Hid ((l = l') ↔ (x = y ∧ l.drop (k + 1) = l'.drop (k + 1))) := HE.out.trans (by rw [HX.out, HY.out]; exact drop_a HN.out HN'.out hlt)
    have p0 := hx 0 (by omega)
    have q0 := hy 0 (by omega)
    rw [aC0, ← HX.out] at p0
    rw [aC0, ← HY.out] at q0
    have p1 := hx 1 (by omega)
    have q1 := hy 1 (by omega)
    rw [aC1, ← HX.out] at p1
    rw [aC1, ← HY.out] at q1
    have p2 := hx 2 (by omega)
    have q2 := hy 2 (by omega)
    rw [aC2, ← HX.out] at p2
    rw [aC2, ← HY.out] at q2
    clear hx hy
    obtain ⟨x0, x1, x2⟩ := x
    obtain ⟨y0, y1, y2⟩ := y
    dsimp only at p0 q0 p1 q1 p2 q2
    simp only [Nat.add_zero] at p0 q0
    rw [← Nat.add_assoc] at p1 q1; rw [← Nat.add_assoc] at p2 q2
    obtain ⟨q, HQ⟩ : ∃ q : Bool, Hid (q = decide (x0 = y0 ∧ x1 = y1 ∧ x2 = y2)) := ⟨_, rfl⟩
    have HC : Hid (∀ w0, Below wr.heap.size wr w0 → Calls Tryz.prog 51 #[.agg #[.string x0, .string x1, .string x2], .agg #[.string y0, .string y1, .string y2]] w0 fun e w' => e = .returned (.bool q) ∧ Hid (Below wr.heap.size wr w') ∧ ((w'.cell? ⟨b, o + k * 3, none⟩ = some (.string x0) ∧ w'.cell? ⟨b, o + k * 3 + 1, none⟩ = some (.string x1) ∧ w'.cell? ⟨b, o + k * 3 + 2, none⟩ = some (.string x2)) ∧ (w'.cell? ⟨b', o' + k * 3, none⟩ = some (.string y0) ∧ w'.cell? ⟨b', o' + k * 3 + 1, none⟩ = some (.string y1) ∧ w'.cell? ⟨b', o' + k * 3 + 2, none⟩ = some (.string y2)))) := fun w0 h =>
     (eqAtom_any x0 y0 x1 y1 x2 y2 q w0 HQ.out).mono fun _ _ ⟨h1, h2⟩ =>
      have hk1 := h.trans (h2.out.mono h.size)
      ⟨h1, hk1, ⟨cell_below p0 hk1 (lt_of_cell p0), cell_below p1 hk1 (lt_of_cell p1), cell_below p2 hk1 (lt_of_cell p2)⟩, ⟨cell_below q0 hk1 (lt_of_cell q0), cell_below q1 hk1 (lt_of_cell q1), cell_below q2 hk1 (lt_of_cell q2)⟩⟩
    go_wp2_with fail
    go_region_held3 (fun w' => (w'.cell? ⟨b, o + k * 3, none⟩ = some (.string x0) ∧ w'.cell? ⟨b, o + k * 3 + 1, none⟩ = some (.string x1) ∧ w'.cell? ⟨b, o + k * 3 + 2, none⟩ = some (.string x2)) ∧ (w'.cell? ⟨b', o' + k * 3, none⟩ = some (.string y0) ∧ w'.cell? ⟨b', o' + k * 3 + 1, none⟩ = some (.string y1) ∧ w'.cell? ⟨b', o' + k * 3 + 2, none⟩ = some (.string y2))) (first | exact ⟨⟨p0, p1, p2⟩, ⟨q0, q1, q2⟩⟩ | exact hk1) (first | (go_at_call 51; refine (HC.out _ ((Below.refl _ _).drew)).mono ?_; rintro e w1 ⟨rfl, HB1, hk1⟩))
    have HL1 : Hid (Below w.heap.size w w1) := HL.out.trans (HB1.out.mono HL.out.size)
    rcases Bool.eq_false_or_eq_true q with hq | hq
    ·subst hq
     go_wp2
     go_roundw
     case rel =>
      have e : (x0, x1, x2) = ((y0, y1, y2) : At) := by obtain ⟨h0, h1, h2⟩ := of_decide_eq_true HQ.out.symm; rw [h0, h1, h2]
      exact ⟨k + 1, by go_num, by omega, HD.out.trans ⟨fun h => h.2, fun h => ⟨e, h⟩⟩, HL1⟩
     case measure => simp [intOf]; omega
    ·subst hq
     have e : ¬ ((x0, x1, x2) = ((y0, y1, y2) : At)) := fun h => by have := of_decide_eq_false HQ.out.symm; simp only [Prod.mk.injEq] at h; exact this h
     have hf : r = false := by rw [HR.out]; exact decide_eq_false fun h => e (HD.out.1 h).1
     subst hf
     go_wp2
     go_ret
     exact ⟨rfl, HL1⟩
   ·have hf : r = true := by
     rw [HR.out]
     refine decide_eq_true (HE.out.2 ?_)
     rw [List.drop_of_length_le (by rw [HN.out]; omega), List.drop_of_length_le (by rw [HN'.out]; omega)]
    subst hf
    go_wp2
    go_ret
    exact ⟨rfl, HL⟩
 ·have hne : decide ((n : Int) = (n' : Int)) = false := by simp; omega
  have hr : r = false := by rw [HR.out]; exact decide_eq_false fun h => he (by rw [← HN.out, h, HN'.out])
  subst hr
  go_enter Tryz.func32, Tryz.ntmps32
  go_wp2
  go_ret
  exact ⟨rfl, Below.refl _ _⟩
set_option maxHeartbeats 4000000 in
set_option maxRecDepth 100000 in
theorem eqFilterS_any (lo hi lo' hi' : Nat) (a a' : Option Addr) (n n' cap cap' : Nat) (l l' : List Fl) (r : Bool) (w : World) (ha : FlIn 4 lo hi w a n (fC l)) (hb : FlIn 4 lo' hi' w a' n' (fC l')) (hh : hi ≤ w.heap.size) (hh' : hi' ≤ w.heap.size) (hn : l.length = n) (hn' : l'.length = n') (hm : n ≤ 9223372036854775807) (hr : r = decide (l = l')) :
  Calls Tryz.prog 33 #[.slice a n cap, .slice a' n' cap'] w fun e w' => e = .returned (.bool r) ∧ Hid (Below w.heap.size w w') := by
 have HN : Hid (l.length = n) := hn
 have HN' : Hid (l'.length = n') := hn'
 have HA : Hid (FlIn 4 lo hi w a n (fC l)) := ha
 have HA' : Hid (FlIn 4 lo' hi' w a' n' (fC l')) := hb
 have HH : Hid (hi ≤ w.heap.size ∧ hi' ≤ w.heap.size) := ⟨hh, hh'⟩
 have HR : Hid (r = decide (l = l')) := hr
 clear ha hb hh hh' hn hn' hr
 by_cases he : n = n'
 ·subst he
  go_enter Tryz.func33, Tryz.ntmps33
  go_wp2
  go_loopw [5] (fun i wr => ∃ k : Nat, i = .int .i64 k ∧ k ≤ n ∧ Hid (l = l' ↔ l.drop k = l'.drop k) ∧ Hid (Below w.heap.size w wr)) (fun i _ => n - (intOf i).toNat)
  case atStart => exact ⟨0, rfl, by omega, by show _ ↔ _; simp, Below.refl _ _⟩
  case round =>
   obtain ⟨k, rfl, hk, HE, HL⟩ := hrel
   by_cases hlt : k < n
   ·have hlt1 : (k : Int) < (n : Int) := by omega
    have hlt0 : 0 ≤ (k : Int) := by omega
    obtain ⟨b, o, rfl, _, _, hx⟩ := (HA.out.below HL.out HH.out.1).at hlt
    obtain ⟨b', o', rfl, _, _, hy⟩ := (HA'.out.below HL.out HH.out.2).at hlt
    obtain ⟨x, HX⟩ : ∃ x, Hid (x = fat l k) := ⟨_, rfl⟩
    obtain ⟨y, HY⟩ : ∃ x, Hid (x = fat l' k) := ⟨_, rfl⟩
    have HD : Hid ((l = l') ↔ (x = y ∧ l.drop (k + 1) = l'.drop (k + 1))) := HE.out.trans (by rw [HX.out, HY.out]; exact drop_f HN.out HN'.out hlt)
    have p0 := hx 0 (by omega)
    have q0 := hy 0 (by omega)
    rw [fC0, ← HX.out] at p0
    rw [fC0, ← HY.out] at q0
    have p1 := hx 1 (by omega)
    have q1 := hy 1 (by omega)
    rw [fC1, ← HX.out] at p1
    rw [fC1, ← HY.out] at q1
    have p2 := hx 2 (by omega)
    have q2 := hy 2 (by omega)
    rw [fC2, ← HX.out] at p2
    rw [fC2, ← HY.out] at q2
    have p3 := hx 3 (by omega)
    have q3 := hy 3 (by omega)
    rw [fC3, ← HX.out] at p3
    rw [fC3, ← HY.out] at q3
    clear hx hy
    obtain ⟨x0, x1, x2, x3⟩ := x
    obtain ⟨y0, y1, y2, y3⟩ := y
    dsimp only at p0 q0 p1 q1 p2 q2 p3 q3
    simp only [Nat.add_zero] at p0 q0
    rw [← Nat.add_assoc] at p1 q1; rw [← Nat.add_assoc] at p2 q2; rw [← Nat.add_assoc] at p3 q3
    obtain ⟨q, HQ⟩ : ∃ q : Bool, Hid (q = decide (x0 = y0 ∧ x1 = y1 ∧ x2 = y2 ∧ x3 = y3)) := ⟨_, rfl⟩
    have HC : Hid (∀ w0, Below wr.heap.size wr w0 → Calls Tryz.prog 52 #[.agg #[.string x0, .int .i64 x1, .string x2, .int .i64 x3], .agg #[.string y0, .int .i64 y1, .string y2, .int .i64 y3]] w0 fun e w' => e = .returned (.bool q) ∧ Hid (Below wr.heap.size wr w') ∧ ((w'.cell? ⟨b, o + k * 4, none⟩ = some (.string x0) ∧ w'.cell? ⟨b, o + k * 4 + 1, none⟩ = some (.int .i64 x1) ∧ w'.cell? ⟨b, o + k * 4 + 2, none⟩ = some (.string x2) ∧ w'.cell? ⟨b, o + k * 4 + 3, none⟩ = some (.int .i64 x3)) ∧ (w'.cell? ⟨b', o' + k * 4, none⟩ = some (.string y0) ∧ w'.cell? ⟨b', o' + k * 4 + 1, none⟩ = some (.int .i64 y1) ∧ w'.cell? ⟨b', o' + k * 4 + 2, none⟩ = some (.string y2) ∧ w'.cell? ⟨b', o' + k * 4 + 3, none⟩ = some (.int .i64 y3)))) := fun w0 h =>
     (eqFilter_any x0 y0 x1 y1 x2 y2 x3 y3 q w0 HQ.out).mono fun _ _ ⟨h1, h2⟩ =>
      have hk1 := h.trans (h2.out.mono h.size)
      ⟨h1, hk1, ⟨cell_below p0 hk1 (lt_of_cell p0), cell_below p1 hk1 (lt_of_cell p1), cell_below p2 hk1 (lt_of_cell p2), cell_below p3 hk1 (lt_of_cell p3)⟩, ⟨cell_below q0 hk1 (lt_of_cell q0), cell_below q1 hk1 (lt_of_cell q1), cell_below q2 hk1 (lt_of_cell q2), cell_below q3 hk1 (lt_of_cell q3)⟩⟩
    go_wp2_with fail
    go_region_held3 (fun w' => (w'.cell? ⟨b, o + k * 4, none⟩ = some (.string x0) ∧ w'.cell? ⟨b, o + k * 4 + 1, none⟩ = some (.int .i64 x1) ∧ w'.cell? ⟨b, o + k * 4 + 2, none⟩ = some (.string x2) ∧ w'.cell? ⟨b, o + k * 4 + 3, none⟩ = some (.int .i64 x3)) ∧ (w'.cell? ⟨b', o' + k * 4, none⟩ = some (.string y0) ∧ w'.cell? ⟨b', o' + k * 4 + 1, none⟩ = some (.int .i64 y1) ∧ w'.cell? ⟨b', o' + k * 4 + 2, none⟩ = some (.string y2) ∧ w'.cell? ⟨b', o' + k * 4 + 3, none⟩ = some (.int .i64 y3))) (first | exact ⟨⟨p0, p1, p2, p3⟩, ⟨q0, q1, q2, q3⟩⟩ | exact hk1) (first | (go_at_call 52; refine (HC.out _ ((Below.refl _ _).drew)).mono ?_; rintro e w1 ⟨rfl, HB1, hk1⟩))
    have HL1 : Hid (Below w.heap.size w w1) := HL.out.trans (HB1.out.mono HL.out.size)
    rcases Bool.eq_false_or_eq_true q with hq | hq
    ·subst hq
     go_wp2
     go_roundw
     case rel =>
      have e : (x0, x1, x2, x3) = ((y0, y1, y2, y3) : Fl) := by obtain ⟨h0, h1, h2, h3⟩ := of_decide_eq_true HQ.out.symm; rw [h0, h1, h2, h3]
      exact ⟨k + 1, by go_num, by omega, HD.out.trans ⟨fun h => h.2, fun h => ⟨e, h⟩⟩, HL1⟩
     case measure => simp [intOf]; omega
    ·subst hq
     have e : ¬ ((x0, x1, x2, x3) = ((y0, y1, y2, y3) : Fl)) := fun h => by have := of_decide_eq_false HQ.out.symm; simp only [Prod.mk.injEq] at h; exact this h
     have hf : r = false := by rw [HR.out]; exact decide_eq_false fun h => e (HD.out.1 h).1
     subst hf
     go_wp2
     go_ret
     exact ⟨rfl, HL1⟩
   ·have hf : r = true := by
     rw [HR.out]
     refine decide_eq_true (HE.out.2 ?_)
     rw [List.drop_of_length_le (by rw [HN.out]; omega), List.drop_of_length_le (by rw [HN'.out]; omega)]
    subst hf
    go_wp2
    go_ret
    exact ⟨rfl, HL⟩
 ·have hne : decide ((n : Int) = (n' : Int)) = false := by simp; omega
  have hr : r = false := by rw [HR.out]; exact decide_eq_false fun h => he (by rw [← HN.out, h, HN'.out])
  subst hr
  go_enter Tryz.func33, Tryz.ntmps33
  go_wp2
  go_ret
  exact ⟨rfl, Below.refl _ _⟩
set_option maxHeartbeats 2000000 in
theorem eqQuery_any (lo hi lo' hi' : Nat) (e e' : Bool) (a b c : Option Addr) (n1 c1 n2 c2 n3 c3 : Nat) (o : List Tx) (t : List At) (f : List Fl) (a' b' c' : Option Addr) (n1' c1' n2' c2' n3' c3' : Nat) (o' : List Tx) (t' : List At) (f' : List Fl) (r : Bool) (w : World)
  (ha : QIn lo hi w a b c n1 n2 n3 (tC o) (aC t) (fC f)) (hb : QIn lo' hi' w a' b' c' n1' n2' n3' (tC o') (aC t') (fC f')) (hh : hi ≤ w.heap.size) (hh' : hi' ≤ w.heap.size) (hl : o.length = n1 ∧ t.length = n2 ∧ f.length = n3) (hl' : o'.length = n1' ∧ t'.length = n2' ∧ f'.length = n3') (hz : n1 ≤ 1048576 ∧ n2 ≤ 1048576 ∧ n3 ≤ 1048576) (hr : r = decide (e = e' ∧ o = o' ∧ t = t' ∧ f = f')) :
  Calls Tryz.prog 9 #[qv e a n1 c1 b n2 c2 c n3 c3, qv e' a' n1' c1' b' n2' c2' c' n3' c3'] w fun e w' => e = .returned (.bool r) ∧ Hid (Below w.heap.size w w') := by
 obtain ⟨B, HB⟩ : ∃ B, Hid (B = w.heap.size) := ⟨_, rfl⟩
 obtain ⟨W, HW⟩ : ∃ W, Hid (W = (w.alloc (.cells #[.bool e, .slice a n1 c1, .slice b n2 c2, .slice c n3 c3] 32)).alloc (.cells #[.bool e', .slice a' n1' c1', .slice b' n2' c2', .slice c' n3' c3'] 32)) := ⟨_, rfl⟩
 have HBW : Hid (Below w.heap.size w W) := by rw [HW.out]; exact below2 w _ _
 have HQ : Hid (Blk W B 4 (q4 (.bool e) (.slice a n1 c1) (.slice b n2 c2) (.slice c n3 c3))) := by rw [HW.out]; exact (blk_four w B HB.out _ _ _ _ _).alloc _
 have HP : Hid (Blk W (B + 1) 4 (q4 (.bool e') (.slice a' n1' c1') (.slice b' n2' c2') (.slice c' n3' c3'))) := by rw [HW.out]; exact blk_four _ (B + 1) (by rw [HB.out]; simp) _ _ _ _ _
 obtain ⟨u, HU⟩ : ∃ u : Bool, Hid (u = decide (o = o')) := ⟨_, rfl⟩
 obtain ⟨v, HV⟩ : ∃ u : Bool, Hid (u = decide (t = t')) := ⟨_, rfl⟩
 obtain ⟨x, HX⟩ : ∃ u : Bool, Hid (u = decide (f = f')) := ⟨_, rfl⟩
 have HR : Hid (r = (decide (e = e') && u && v && x)) := by show _ = _; rw [hr, HU.out, HV.out, HX.out]; simp [Bool.and_assoc]
 have HC1 : Hid (∀ w0, Below w.heap.size w w0 → Calls Tryz.prog 31 #[.slice a n1 c1, .slice a' n1' c1'] w0 fun e w' => e = .returned (.bool u) ∧ Hid (Below w0.heap.size w0 w')) := fun w0 h => eqStringS_any lo hi lo' hi' a a' n1 n1' c1 c1' o o' u w0 (ha.1.below h hh) (hb.1.below h hh') (Nat.le_trans hh h.size) (Nat.le_trans hh' h.size) hl.1 hl'.1 (by omega) HU.out
 have HC2 : Hid (∀ w0, Below w.heap.size w w0 → Calls Tryz.prog 32 #[.slice b n2 c2, .slice b' n2' c2'] w0 fun e w' => e = .returned (.bool v) ∧ Hid (Below w0.heap.size w0 w')) := fun w0 h => eqAtomS_any lo hi lo' hi' b b' n2 n2' c2 c2' t t' v w0 (ha.2.1.below h hh) (hb.2.1.below h hh') (Nat.le_trans hh h.size) (Nat.le_trans hh' h.size) hl.2.1 hl'.2.1 (by omega) HV.out
 have HC3 : Hid (∀ w0, Below w.heap.size w w0 → Calls Tryz.prog 33 #[.slice c n3 c3, .slice c' n3' c3'] w0 fun e w' => e = .returned (.bool x) ∧ Hid (Below w0.heap.size w0 w')) := fun w0 h => eqFilterS_any lo hi lo' hi' c c' n3 n3' c3 c3' f f' x w0 (ha.2.2.below h hh) (hb.2.2.below h hh') (Nat.le_trans hh h.size) (Nat.le_trans hh' h.size) hl.2.2 hl'.2.2 (by omega) HX.out
 clear ha hb hh hh' hl hl' hz hr
 obtain ⟨q0, q1, q2, q3⟩ := q_cells HQ.out
 obtain ⟨p0, p1, p2, p3⟩ := q_cells HP.out
 by_cases he : e = e'
 ·subst he
  have HR2 : Hid (r = (u && v && x)) := by show _ = _; rw [HR.out]; simp
  go_enter Tryz.func9, Tryz.ntmps9
  go_upto_region 1 with fail
  rw [← HB.out, ← HW.out]
  clear HW
  cases e
  all_goals
   go_wp2_with fail
   refine (HC1.out _ HBW.out).mono ?_
   rintro e1 w1 ⟨rfl, HB1⟩
   have HBX1 : Hid (Below w.heap.size w w1) := HBW.out.trans (HB1.out.mono HBW.out.size)
   rcases Bool.eq_false_or_eq_true u with hu | hu
   ·subst hu
    obtain ⟨q0', q1', q2', q3'⟩ := q_cells (HQ.out.of_block (HB1.out.block _ HQ.out.lt))
    obtain ⟨p0', p1', p2', p3'⟩ := q_cells (HP.out.of_block (HB1.out.block _ HP.out.lt))
    go_wp2_with fail
    refine (HC2.out _ HBX1.out).mono ?_
    rintro e2 w2 ⟨rfl, HB2⟩
    have HBX2 : Hid (Below w.heap.size w w2) := HBX1.out.trans (HB2.out.mono HBX1.out.size)
    rcases Bool.eq_false_or_eq_true v with hv | hv
    ·subst hv
     obtain ⟨q0'', q1'', q2'', q3''⟩ := q_cells ((HQ.out.of_block (HB1.out.block _ HQ.out.lt)).of_block (HB2.out.block _ (Nat.lt_of_lt_of_le HQ.out.lt HB1.out.size)))
     obtain ⟨p0'', p1'', p2'', p3''⟩ := q_cells ((HP.out.of_block (HB1.out.block _ HP.out.lt)).of_block (HB2.out.block _ (Nat.lt_of_lt_of_le HP.out.lt HB1.out.size)))
     go_wp2_with fail
     refine (HC3.out _ HBX2.out).mono ?_
     rintro e3 w3 ⟨rfl, HB3⟩
     have HBX3 : Hid (Below w.heap.size w w3) := HBX2.out.trans (HB3.out.mono HBX2.out.size)
     have HRX : Hid (r = x) := by show _ = _; rw [HR2.out]; simp
     rcases Bool.eq_false_or_eq_true x with hx | hx
     all_goals
      subst hx
      go_wp2
      go_ret
      exact ⟨by rw [HRX.out]; rfl, HBX3⟩
    ·subst hv
     have hf : r = false := by rw [HR2.out]; simp
     subst hf
     go_wp2
     go_ret
     exact ⟨rfl, HBX2⟩
   ·subst hu
    have hf : r = false := by rw [HR2.out]; simp
    subst hf
    go_wp2
    go_ret
    exact ⟨rfl, HBX1⟩
 ·have hf : r = false := by rw [HR.out]; simp [he]
  have hee : (e == e') = false := by simp [he]
  subst hf
  go_enter Tryz.func9, Tryz.ntmps9
  go_upto_region 1 with fail
  rw [← HB.out, ← HW.out]
  clear HW
  cases e <;> cases e' <;> first | exact absurd rfl he | skip
  all_goals
   go_wp2
   go_ret
   exact ⟨rfl, HBW⟩
end Go.Proofs.YtbepmeipjdpipaaGreat

namespace Go.Proofs.YtbepmeipjdpipaaGreat
open Go.Shelf
def Tryz.laysM316_ren : Go.Shelf.Ren := ⟨fun | 316 => 85 | n => n, fun | 9 => 9 | 3 => 3 | 4 => 4 | 37 => 100 | 0 => 0 | 127 => 167 | 5 => 5 | n => n, fun | n => n⟩
theorem Tryz.laysM316 : Go.Proofs.LaysM.n316 Tryz.prog Tryz.laysM316_ren := {
 mixed := by kernel_rfl
 f316 := Tryz.func85.trans (congrArg some (by kernel_rfl))
 t0 := Tryz.underlying0
 a0 := Tryz.isAgg0
 z0 := Tryz.sizeOf0
 v0 := Tryz.zeroValue0
 t3 := Tryz.underlying3
 a3 := Tryz.isAgg3
 z3 := Tryz.sizeOf3
 v3 := Tryz.zeroValue3
 t4 := Tryz.underlying4
 a4 := Tryz.isAgg4
 z4 := Tryz.sizeOf4
 v4 := Tryz.zeroValue4
 t9 := Tryz.underlying9
 a9 := Tryz.isAgg9
 z9 := Tryz.sizeOf9
 v9 := Tryz.zeroValue9
 t37 := Tryz.underlying100
 a37 := Tryz.isAgg100
 z37 := Tryz.sizeOf100
 v37 := Tryz.zeroValue100
 t127 := Tryz.underlying167
 a127 := Tryz.isAgg167
 z127 := Tryz.sizeOf167
 v127 := Tryz.zeroValue167
 t5 := Tryz.underlying5
 a5 := Tryz.isAgg5
 z5 := Tryz.sizeOf5
 v5 := Tryz.zeroValue5
 i0 := by kernel_rfl
 i3 := by kernel_rfl
 i4 := by kernel_rfl
 i5 := by kernel_rfl
 i9 := by kernel_rfl
 i37 := by kernel_rfl
 i127 := by kernel_rfl }
open Go.RowKit
set_option maxHeartbeats 400000 in
theorem newText_any (s : ByteArray) (w : World) (hs : s.size ≤ 281474976710656) :
  Calls Tryz.prog 49 #[.string s] w fun e w' => e = .returned (.string s) ∧ Hid (Below w.heap.size w w') := by
 have HC : Hid (Calls Tryz.prog 85 #[.string s] w fun e w' => e = .returned (.string s) ∧ Below w.heap.size w w') := Any.stringslite_Clone Tryz.laysM316 s w hs
 go_enter Tryz.func49, Tryz.ntmps49
 go_wp2_with (first | (go_at_call 85; refine HC.out.mono ?_; rintro e w1 ⟨rfl, hb1⟩) | go_in)
 go_ret
 exact ⟨rfl, hb1⟩
def strC (l : List ByteArray) : List Value := l.map Value.string
theorem strC_snoc (l : List ByteArray) (t : ByteArray) : strC (l ++ [t]) = strC l ++ [.string t] := by simp [strC]
theorem strC_get {l : List ByteArray} {i : Nat} (h : i < l.length) (d : Value) : (strC l).getD i d = .string (tat l i) := by simp [strC, tat, List.getD, h]
theorem info9s : (Tryz.prog.info? 9).map (fun i => (i.zero, i.size, i.bytes)) = some (some (.string ⟨#[]⟩), 1, 16) := by kernel_rfl
theorem cell_new1 (w : World) (x : Value) (T : TypeId) (b : Nat) (hb : b = w.heap.size) : (w.alloc (.cells #[x] T)).cell? ⟨b, 0, none⟩ = some x := (blk_one w b hb x T).cell (i := 0) (by omega)
theorem news_new1 (w : World) (x : Value) (T : TypeId) : ∀ j u, [x][j]? = some u → (w.alloc (.cells #[x] T)).cell? ((⟨w.heap.size, 0, none⟩ : Addr).add j) = some u := by
 intro j u hj
 have h0 : j = 0 := by have := (List.getElem?_eq_some_iff.1 hj).1; simpa using this
 subst h0
 have hu : x = u := by simpa using hj
 subst hu
 exact cell_new1 w x T _ rfl
theorem own_shape {w : World} {base e n : Nat} {v : Value} {xs : List Value} (h : w.ownsRow base e 1 v n xs) : ∃ ao c, v = .slice ao n c ∧ (0 < n → ∃ g, ao = some ⟨g, 0, none⟩ ∧ base ≤ g ∧ g < w.heap.size ∧ ∀ j, j < n → w.cell? ⟨g, j, none⟩ = some (xs.getD j (.int .i64 0))) := by
 rcases h.2 with ⟨rfl, rfl⟩ | ⟨g, cap, cur, rfl, hg, hb, _⟩
 ·exact ⟨none, 0, rfl, fun h => absurd h (by omega)⟩
 ·refine ⟨_, cap, rfl, fun _ => ⟨g, rfl, hg, (Array.getElem?_eq_some_iff.1 hb).1, fun j hj => ?_⟩⟩
  have := blk_own h
  rw [Nat.mul_one] at this
  exact this.cell hj
theorem own_grown {w w' : World} {B : Nat} {v : Value} (h : w.grownBy w' v.ownBlock) (hv : ∀ c, v.ownBlock = some c → B ≤ c) (hB : B ≤ w.heap.size) : Below B w w' := ⟨h.os, h.tape, h.output, h.size, fun k hk => h.block k (by omega) (fun e => by have := hv k e.symm; omega)⟩
theorem own_texts {w : World} {base n : Nat} {v : Value} {l : List Tx} (h : w.ownsRow base 9 1 v n (strC l)) (hn : l.length = n) : ∃ ao c, v = .slice ao n c ∧ FlOwn 1 base w.heap.size w ao n (tC l) := by
 rcases h.2 with ⟨rfl, rfl⟩ | ⟨g, cap, cur, rfl, hg, hb, _⟩
 ·exact ⟨none, 0, rfl, .inl rfl⟩
 ·refine ⟨_, cap, rfl, .inr ⟨g, rfl, hg, (Array.getElem?_eq_some_iff.1 hb).1, ?_⟩⟩
  have := blk_own h
  exact this.congr fun i hi => by rw [strC_get (by omega)]; rfl
end Go.Proofs.YtbepmeipjdpipaaGreat
