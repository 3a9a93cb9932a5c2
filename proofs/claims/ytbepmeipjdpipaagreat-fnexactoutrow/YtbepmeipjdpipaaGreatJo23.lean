import Derived.Test.YtbepmeipjdpipaaGreatJo04
import Derived.Test.YtbepmeipjdpipaaGreatJo05
import Derived.Deep.RegionHeldLaw
namespace Go.Proofs.YtbepmeipjdpipaaGreat
open Go.RowKit
def LaidO (B : Nat) (w : World) (v : Value) (l : List Pc) (U : Nat → Prop) : Prop :=
 ∃ (f : Nat → Value) (R : Nat → Option Addr) (C : Nat → Nat), w.ownsRow B 127 3 v l.length ((List.range (l.length * 3)).map f) ∧
  (∀ c, v.ownBlock = some c → U c) ∧ (∀ c, U c → B ≤ c ∧ c < w.heap.size) ∧
  ∀ i, i < l.length → (f (i * 3) = .int .i64 (pat l i).1 ∧ f (i * 3 + 1) = .int .u8 (pat l i).2.1 ∧ f (i * 3 + 2) = .slice (R i) (pat l i).2.2.length (C i)) ∧ RowOwn B w.heap.size w (R i) (pat l i).2.2 ∧
   ((pat l i).2.2 ≠ [] → (∀ c, R i = some ⟨c, 0, none⟩ → U c ∧ v.ownBlock ≠ some c) ∧ ∀ j, j < i → (pat l j).2.2 ≠ [] → R j ≠ R i)
theorem LaidO.nil (B : Nat) (w : World) : LaidO B w (.slice none 0 0) [] (fun _ => False) :=
 ⟨fun _ => .int .i64 0, fun _ => none, fun _ => 0, by simpa using World.ownsRow_nil w B 127 3, fun c h => by simp [Value.ownBlock] at h, fun c h => h.elim, fun i hi => absurd hi (by simp)⟩
theorem LaidO.lt {B : Nat} {w : World} {v : Value} {l : List Pc} {U : Nat → Prop} (h : LaidO B w v l U) {c : Nat} (hc : U c) : B ≤ c ∧ c < w.heap.size := by
 obtain ⟨_, _, _, _, _, h3, _⟩ := h; exact h3 c hc
theorem LaidO.blk {B : Nat} {w : World} {v : Value} {l : List Pc} {U : Nat → Prop} (h : LaidO B w v l U) {c : Nat} (hc : v.ownBlock = some c) : U c := by
 obtain ⟨_, _, _, _, h2, _, _⟩ := h; exact h2 c hc
theorem LaidO.kept {B : Nat} {w w' : World} {v : Value} {l : List Pc} {U : Nat → Prop} {p : Nat → Prop} (h : LaidO B w v l U) (hb : KeptP p w w') (hp : ∀ c, U c → ¬ p c) : LaidO B w' v l U := by
 obtain ⟨f, R, C, h1, h2, h3, h4⟩ := h
 refine ⟨f, R, C, ?_, h2, fun c hc => ⟨(h3 c hc).1, Nat.lt_of_lt_of_le (h3 c hc).2 hb.size⟩, fun i hi => ⟨(h4 i hi).1, ?_, (h4 i hi).2.2⟩⟩
 ·refine ⟨h1.1, ?_⟩
  rcases h1.2 with h5 | ⟨g, cap, cur, e, h5, h6, h7⟩
  ·exact .inl h5
  ·have hg : U g := h2 g (by rw [e]; rfl)
   exact .inr ⟨g, cap, cur, e, h5, by rw [hb.block g (h3 g hg).2 (hp g hg)]; exact h6, h7⟩
 ·by_cases h0 : (pat l i).2.2 = []
  ·exact .inl h0
  ·rcases (h4 i hi).2.1 with h5 | ⟨g, e, h5, h6, h7⟩
   ·exact absurd h5 h0
   ·have hg : U g := (((h4 i hi).2.2 h0).1 g e).1
    exact .inr ⟨g, e, h5, Nat.lt_of_lt_of_le h6 hb.size, h7.of_block (hb.block g (h3 g hg).2 (hp g hg))⟩
theorem LaidO.below {B : Nat} {w w' : World} {v : Value} {l : List Pc} {U : Nat → Prop} (h : LaidO B w v l U) (hb : Below w.heap.size w w') : LaidO B w' v l U :=
 h.kept (p := fun _ => False) (KeptP.of_below hb (fun _ hk _ => hk)) (fun _ _ h => h)
theorem LaidO.toOwn {B : Nat} {w : World} {v : Value} {l : List Pc} {U : Nat → Prop} (h : LaidO B w v l U) : ∃ a cap, v = .slice a l.length cap ∧ PathOwn B w.heap.size w a l := by
 obtain ⟨f, R, C, h1, h2, h3, h4⟩ := h
 rcases h1.2 with ⟨rfl, h0⟩ | ⟨g, cap, cur, rfl, hg, hb, _⟩
 ·exact ⟨none, 0, by rw [h0], .inl (List.length_eq_zero_iff.1 h0)⟩
 ·refine ⟨_, cap, rfl, .inr ⟨g, rfl, hg, (Array.getElem?_eq_some_iff.1 hb).1, f, R, C, (blk_own h1).congr (fun i hi => by simp [List.getD, hi]), fun i hi => ?_⟩⟩
  obtain ⟨⟨e0, e1, e2⟩, e3, e4⟩ := h4 i hi
  refine ⟨e0, e1, e2, e3, fun hne => ⟨fun c hc e => ?_, (e4 hne).2⟩⟩
  exact ((e4 hne).1 c hc).2 (by rw [e]; rfl)
theorem pat_app {l : List Pc} {x : Pc} {i : Nat} (h : i < l.length) : pat (l ++ [x]) i = pat l i := by simp [pat, List.getD, List.getElem?_append_left h]
theorem pat_last (l : List Pc) (x : Pc) : pat (l ++ [x]) l.length = x := by simp [pat, List.getD]
theorem LaidO.snoc {B g cap : Nat} {w w1 : World} {v : Value} {l : List Pc} {U : Nat → Prop} {x : Pc} {f : Nat → Value} {R : Nat → Option Addr} {C : Nat → Nat} {ra : Option Addr} {rc : Nat}
  (h2 : ∀ c, v.ownBlock = some c → U c) (h3 : ∀ c, U c → B ≤ c ∧ c < w.heap.size)
  (h4 : ∀ i, i < l.length → (f (i * 3) = .int .i64 (pat l i).1 ∧ f (i * 3 + 1) = .int .u8 (pat l i).2.1 ∧ f (i * 3 + 2) = .slice (R i) (pat l i).2.2.length (C i)) ∧ RowOwn B w.heap.size w (R i) (pat l i).2.2 ∧
   ((pat l i).2.2 ≠ [] → (∀ c, R i = some ⟨c, 0, none⟩ → U c ∧ v.ownBlock ≠ some c) ∧ ∀ j, j < i → (pat l j).2.2 ≠ [] → R j ≠ R i))
  (hr : RowOwn B w.heap.size w ra x.2.2) (hra : x.2.2 ≠ [] → ∀ c, ra = some ⟨c, 0, none⟩ → ¬ U c) (hg : w.grownBy w1 v.ownBlock) (hloc : v.ownBlock = some g ∨ w.heap.size ≤ g) (hgl : g < w1.heap.size) (hBg : B ≤ g)
  (ho : w1.ownsRow B 127 3 (.slice (some ⟨g, 0, none⟩) (l.length + 1) cap) (l.length + 1) ((List.range (l.length * 3)).map f ++ [.int .i64 x.1, .int .u8 x.2.1, .slice ra x.2.2.length rc])) :
  LaidO B w1 (.slice (some ⟨g, 0, none⟩) (l.length + 1) cap) (l ++ [x]) (fun c => U c ∨ c = g ∨ (x.2.2 ≠ [] ∧ ra = some ⟨c, 0, none⟩)) := by
 have keep : ∀ {a : Option Addr} {r : List Int}, RowOwn B w.heap.size w a r → (r ≠ [] → ∀ c, a = some ⟨c, 0, none⟩ → v.ownBlock ≠ some c) → RowOwn B w1.heap.size w1 a r := by
  intro a r ha hne
  by_cases h0 : r = []
  ·exact .inl h0
  ·rcases ha with h | ⟨c, e, h5, h6, h7⟩
   ·exact absurd h h0
   ·exact .inr ⟨c, e, h5, Nat.lt_of_lt_of_le h6 hg.size, h7.of_block (hg.block c h6 (fun e2 => hne h0 c e e2.symm))⟩
 have hlt : ∀ {a : Option Addr} {r : List Int}, RowOwn B w.heap.size w a r → r ≠ [] → ∀ c, a = some ⟨c, 0, none⟩ → c < w.heap.size := by
  intro a r ha hne c hc
  rcases ha with h | ⟨c', e, _, h6, _⟩
  ·exact absurd h hne
  ·rw [hc] at e; simp at e; omega
 have hoff : ∀ c, c < w.heap.size → v.ownBlock ≠ some c → (Value.slice (some ⟨g, 0, none⟩) (l.length + 1) cap).ownBlock ≠ some c := by
  intro c hc hne e
  have e2 : g = c := by simpa [Value.ownBlock] using e
  subst e2
  rcases hloc with h | h
  ·exact hne h
  ·omega
 refine ⟨fun j => if j < l.length * 3 then f j else if j = l.length * 3 then .int .i64 x.1 else if j = l.length * 3 + 1 then .int .u8 x.2.1 else .slice ra x.2.2.length rc, fun i => if i < l.length then R i else ra, fun i => if i < l.length then C i else rc, ?_, ?_, ?_, fun i hi => ?_⟩
 ·rw [List.length_append, List.length_singleton]
  have e2 : (List.range ((l.length + 1) * 3)).map (fun j => if j < l.length * 3 then f j else if j = l.length * 3 then Value.int .i64 x.1 else if j = l.length * 3 + 1 then .int .u8 x.2.1 else .slice ra x.2.2.length rc) = (List.range (l.length * 3)).map f ++ [.int .i64 x.1, .int .u8 x.2.1, .slice ra x.2.2.length rc] := by
   rw [show (l.length + 1) * 3 = l.length * 3 + 1 + 1 + 1 by omega, List.range_succ, List.range_succ, List.range_succ]
   simp only [List.map_append, List.append_assoc]
   congr 1
   ·exact List.map_congr_left fun j hj => by simp [List.mem_range.1 hj]
   ·have n1 : ¬ l.length * 3 < l.length * 3 := by omega
    have n2 : ¬ l.length * 3 + 1 < l.length * 3 := by omega
    have n3 : ¬ l.length * 3 + 1 + 1 < l.length * 3 := by omega
    have n4 : ¬ l.length * 3 + 1 = l.length * 3 := by omega
    have n5 : ¬ l.length * 3 + 1 + 1 = l.length * 3 := by omega
    have n6 : ¬ l.length * 3 + 1 + 1 = l.length * 3 + 1 := by omega
    simp only [List.map_cons, List.map_nil, List.cons_append, List.nil_append, n1, n2, n3, n4, n5, n6, if_false, if_true]
  rw [e2]; exact ho
 ·intro c hc
  right; left
  have : g = c := by simpa [Value.ownBlock] using hc
  exact this.symm
 ·intro c hc
  rcases hc with hc | rfl | ⟨hne, hc⟩
  ·exact ⟨(h3 c hc).1, Nat.lt_of_lt_of_le (h3 c hc).2 hg.size⟩
  ·exact ⟨hBg, hgl⟩
  ·rcases hr with h | ⟨c', e, h5, h6, _⟩
   ·exact absurd h hne
   ·rw [hc] at e; simp at e; subst e; exact ⟨h5, Nat.lt_of_lt_of_le h6 hg.size⟩
 ·rw [List.length_append, List.length_singleton] at hi
  rcases Nat.lt_or_ge i l.length with h | h
  ·rw [pat_app h]
   obtain ⟨⟨e0, e1, e2⟩, e3, e4⟩ := h4 i h
   simp only [h, if_true]
   refine ⟨⟨by rw [if_pos (by omega)]; exact e0, by rw [if_pos (by omega)]; exact e1, by rw [if_pos (by omega)]; exact e2⟩, keep e3 (fun hne c hc => ((e4 hne).1 c hc).2), fun hne => ⟨fun c hc => ⟨.inl ((e4 hne).1 c hc).1, hoff c (hlt e3 hne c hc) ((e4 hne).1 c hc).2⟩, fun j hj hnj => ?_⟩⟩
   have hjl : j < l.length := by omega
   rw [pat_app hjl] at hnj
   simp only [hjl, if_true]
   exact (e4 hne).2 j hj hnj
  ·obtain rfl : i = l.length := by omega
   rw [pat_last]
   simp only [Nat.lt_irrefl, if_false]
   have hvo : x.2.2 ≠ [] → ∀ c, ra = some ⟨c, 0, none⟩ → v.ownBlock ≠ some c := fun hne c hc e => hra hne c hc (h2 c e)
   have n2 : ¬ l.length * 3 + 1 < l.length * 3 := by omega
   have n3 : ¬ l.length * 3 + 2 < l.length * 3 := by omega
   refine ⟨⟨by simp, by simp [n2], by simp [n3]⟩, keep hr hvo, fun hne => ⟨fun c hc => ⟨.inr (.inr ⟨hne, hc⟩), hoff c (hlt hr hne c hc) (hvo hne c hc)⟩, fun j hj hnj => ?_⟩⟩
   rw [pat_app hj] at hnj
   simp only [hj, if_true]
   intro e
   obtain ⟨_, e3, e4⟩ := h4 j hj
   rcases e3 with h5 | ⟨c, ec, _, _, _⟩
   ·exact hnj h5
   ·exact hra hne c (by rw [← e]; exact ec) (((e4 hnj).1 c ec).1)
theorem LaidO.mono {B : Nat} {w : World} {v : Value} {l : List Pc} {U : Nat → Prop} (h : LaidO B w v l U) {B' : Nat} (hB : B' ≤ B) : LaidO B' w v l U := by
 obtain ⟨f, R, C, h1, h2, h3, h4⟩ := h
 refine ⟨f, R, C, ⟨h1.1, ?_⟩, h2, fun c hc => ⟨by have := (h3 c hc).1; omega, (h3 c hc).2⟩, fun i hi => ⟨(h4 i hi).1, (h4 i hi).2.1.wide hB (Nat.le_refl _), (h4 i hi).2.2⟩⟩
 rcases h1.2 with h5 | ⟨g, cap, cur, e, h5, h6⟩
 ·exact .inl h5
 ·exact .inr ⟨g, cap, cur, e, by omega, h6⟩
theorem news_pc (w2 : World) (x y z : Value) (T : TypeId) : ∀ j u, [x, y, z][j]? = some u → (w2.alloc (.cells #[x, y, z] T)).cell? ((⟨w2.heap.size, 0, none⟩ : Addr).add j) = some u := by
 intro j u hu
 obtain ⟨c0, c1, c2⟩ := box_cells w2 x y z T _ rfl
 rw [add_none, Nat.zero_add]
 match j, hu with
 | 0, hu => simp at hu; subst hu; exact c0
 | 1, hu => simp at hu; subst hu; exact c1
 | 2, hu => simp at hu; subst hu; exact c2
end Go.Proofs.YtbepmeipjdpipaaGreat

namespace Go.Proofs.YtbepmeipjdpipaaGreat
open Go.RowKit
def Us (w : World) (U : Nat → Prop) (w' : World) (U' : Nat → Prop) : Prop := KeptP U w w' ∧ ∀ c, U' c → U c ∨ w.heap.size ≤ c
theorem Us.refl (w : World) (U : Nat → Prop) : Us w U w U := ⟨KeptP.refl _ _, fun _ h => .inl h⟩
theorem Us.trans {w w1 w2 : World} {U U1 U2 : Nat → Prop} (h : Us w U w1 U1) (h' : Us w1 U1 w2 U2) : Us w U w2 U2 :=
 ⟨⟨h'.1.os.trans h.1.os, h'.1.tape.trans h.1.tape, h'.1.output.trans h.1.output, Nat.le_trans h.1.size h'.1.size, fun k hk hn => by
  rw [h'.1.block k (Nat.lt_of_lt_of_le hk h.1.size) (fun hu => by
   rcases h.2 k hu with h2 | h2
   ·exact hn h2
   ·omega)]
  exact h.1.block k hk hn⟩, fun c hc => by
  rcases h'.2 c hc with h2 | h2
  ·exact h.2 c h2
  ·exact .inr (Nat.le_trans h.1.size h2)⟩
theorem Us.below {w w1 w2 : World} {U U1 : Nat → Prop} (h : Us w U w1 U1) (hb : Below w1.heap.size w1 w2) : Us w U w2 U1 :=
 ⟨h.1.trans (KeptP.of_below hb (fun _ hk _ => hk)), h.2⟩
theorem Us.first {w w1 w2 : World} {U U2 : Nat → Prop} (hb : Below w.heap.size w w1) (h : Us w1 U w2 U2) (_hU : ∀ c, U c → c < w.heap.size) : Us w U w2 U2 :=
 ⟨(KeptP.of_below hb (fun _ hk _ => hk)).trans h.1, fun c hc => (h.2 c hc).imp id (fun h2 => Nat.le_trans hb.size h2)⟩
theorem Us.weak {w w1 : World} {U V U1 : Nat → Prop} (h : Us w U w1 U1) (hV : ∀ c, U c → V c ∨ w.heap.size ≤ c) : Us w V w1 U1 :=
 ⟨⟨h.1.os, h.1.tape, h.1.output, h.1.size, fun k hk hn => h.1.block k hk (fun hu => by
  rcases hV k hu with h2 | h2
  ·exact hn h2
  ·omega)⟩, fun c hc => by
  rcases h.2 c hc with h2 | h2
  ·exact hV c h2
  ·exact .inr h2⟩
def pU (p : Nat) (U : Nat → Prop) : Nat → Prop := fun c => c = p ∨ U c
abbrev rcI (s : ByteArray) (a : Nat) (v : Value) (f : Bool) : Nat → Value := fun i => if i = 0 then .string s else if i = 1 then .int .i64 (a : Int) else if i = 2 then v else .bool f
def RI (B p : Nat) (s : ByteArray) (w : World) (a : Nat) (l : List Pc) (f : Bool) (U : Nat → Prop) : Prop :=
 ∃ v, Blk w p 4 (rcI s a v f) ∧ LaidO B w v l U ∧ ¬ U p
theorem RI.lt {B p a : Nat} {s : ByteArray} {w : World} {l : List Pc} {f : Bool} {U : Nat → Prop} (h : RI B p s w a l f U) : ∀ c, pU p U c → c < w.heap.size := by
 obtain ⟨v, h1, h2, _⟩ := h
 rintro c (rfl | hc)
 ·exact h1.lt
 ·exact (h2.lt hc).2
theorem RI.below {B p a : Nat} {s : ByteArray} {w w' : World} {l : List Pc} {f : Bool} {U : Nat → Prop} (h : RI B p s w a l f U) (hb : Below w.heap.size w w') : RI B p s w' a l f U := by
 obtain ⟨v, h1, h2, h3⟩ := h
 exact ⟨v, h1.of_block (hb.block _ h1.lt), h2.below hb, h3⟩
theorem RI.cells {B p a : Nat} {s : ByteArray} {w : World} {l : List Pc} {f : Bool} {U : Nat → Prop} (h : RI B p s w a l f U) : w.cell? ⟨p, 0, none⟩ = some (.string s) ∧ w.cell? ⟨p, 1, none⟩ = some (.int .i64 (a : Int)) ∧ w.cell? ⟨p, 3, none⟩ = some (.bool f) ∧ (∀ i, w.frozen? ⟨p, i, none⟩ = false) := by
 obtain ⟨v, h1, _, _⟩ := h
 exact ⟨h1.cell (i := 0) (by omega), h1.cell (i := 1) (by omega), h1.cell (i := 3) (by omega), fun i => h1.frozen i⟩
theorem us_set {w : World} {p i : Nat} {U : Nat → Prop} (v : Value) : Us w (pU p U) (w.setCell ⟨p, i, none⟩ v) (pU p U) := ⟨KeptP.setCell (p := pU p U) (KeptP.refl _ _) (.inl rfl) _, fun _ h => .inl h⟩
theorem laid_set {B p i : Nat} {w : World} {l : List Pc} {u : Value} {U : Nat → Prop} (h : LaidO B w u l U) (hp : ¬ U p) (v : Value) : LaidO B (w.setCell ⟨p, i, none⟩ v) u l U :=
 h.kept (p := fun c => c = p) (KeptP.setCell (p := fun c => c = p) (KeptP.refl _ _) rfl _) (fun c hc e => hp (by rw [← e]; exact hc))
theorem RI.step {B p a : Nat} {s : ByteArray} {w : World} {l : List Pc} {f : Bool} {U : Nat → Prop} (h : RI B p s w a l f U) : RI B p s (w.setCell ⟨p, 1, none⟩ (.int .i64 ((a : Int) + 1))) (a + 1) l f U := by
 obtain ⟨v, h1, h2, h3⟩ := h
 refine ⟨v, (h1.set 1 (by omega) _).congr fun i hi => ?_, laid_set h2 h3 _, h3⟩
 rcases (show i = 0 ∨ i = 1 ∨ i = 2 ∨ i = 3 by omega) with rfl | rfl | rfl | rfl <;> simp [rcI]
theorem RI.fail {B p a : Nat} {s : ByteArray} {w : World} {l : List Pc} {f : Bool} {U : Nat → Prop} (h : RI B p s w a l f U) : RI B p s (w.setCell ⟨p, 3, none⟩ (.bool true)) a l true U := by
 obtain ⟨v, h1, h2, h3⟩ := h
 refine ⟨v, (h1.set 3 (by omega) _).congr fun i hi => ?_, laid_set h2 h3 _, h3⟩
 rcases (show i = 0 ∨ i = 1 ∨ i = 2 ∨ i = 3 by omega) with rfl | rfl | rfl | rfl <;> simp [rcI]
set_option maxHeartbeats 600000 in
theorem next_any (p : Nat) (s : ByteArray) (a : Nat) (x : Nat) (w : World) (ha : a ≤ 1048576) (c0 : w.cell? ⟨p, 0, none⟩ = some (.string s)) (c1 : w.cell? ⟨p, 1, none⟩ = some (.int .i64 (a : Int))) (hx : x = bt s a) :
  Calls Tryz.prog 76 #[.pointer (some ⟨p, 0, none⟩)] w fun e w' => e = .returned (.int .u8 (x : Int)) ∧ Hid (Below w.heap.size w w') := by
 have HX : Hid (x = bt s a) := hx
 clear hx
 by_cases h : a < s.size
 ·have h1 : ¬ (a : Int) ≥ (s.size : Int) := by omega
  have h2 : (a : Int) < (s.size : Int) := by omega
  have h0 : (0 : Int) ≤ (a : Int) := by omega
  have HB : Hid (x = s[a].toNat) := by show _ = _; rw [HX.out, bt_lt h]
  go_enter Tryz.func76, Tryz.ntmps76
  go_wp2_with fail
  go_quiet (fail)
  go_wp2_with fail
  go_quiet (fail)
  go_wp2
  go_ret
  exact ⟨by rw [HB.out]; rfl, below_drewN (below_drewN (Below.refl _ _) _) _⟩
 ·have h1 : (a : Int) ≥ (s.size : Int) := by omega
  have HB : Hid (x = 0) := by show _ = _; rw [HX.out, bt_end h]
  go_enter Tryz.func76, Tryz.ntmps76
  go_wp2_with fail
  go_quiet (fail)
  go_wp2
  go_ret
  exact ⟨by rw [HB.out]; rfl, below_drewN (Below.refl _ _) _⟩
theorem own_oneR (w : World) (B : Nat) (v : Value) (hb : B ≤ w.heap.size) : (w.alloc (.cells #[v] 3)).ownsRow B 3 1 (.slice (some ⟨w.heap.size, 0, none⟩) 1 1) 1 [v] :=
 ⟨rfl, .inr ⟨w.heap.size, 1, #[v], rfl, hb, heap_alloc_new w _, Nat.le_refl _, by unfold maxLen; omega, rfl, by simp⟩⟩
theorem laid_more {B p a g cap k : Nat} {s : ByteArray} {w W2 w6 : World} {l : List Pc} {f : Bool} {v : Value} {U : Nat → Prop} {x : Pc} {ra : Option Addr} {rc : Nat} {fl : Nat → Value} {R : Nat → Option Addr} {C : Nat → Nat}
  (hb : p < w.heap.size) (hU : ¬ U p) (hB : B ≤ w.heap.size) (hBW : Below w.heap.size w W2) (hp6 : Blk w6 p 4 (rcI s a v f))
  (h2 : ∀ c, v.ownBlock = some c → U c) (h3 : ∀ c, U c → B ≤ c ∧ c < W2.heap.size)
  (h4 : ∀ i, i < l.length → (fl (i * 3) = .int .i64 (pat l i).1 ∧ fl (i * 3 + 1) = .int .u8 (pat l i).2.1 ∧ fl (i * 3 + 2) = .slice (R i) (pat l i).2.2.length (C i)) ∧ RowOwn B W2.heap.size W2 (R i) (pat l i).2.2 ∧
   ((pat l i).2.2 ≠ [] → (∀ c, R i = some ⟨c, 0, none⟩ → U c ∧ v.ownBlock ≠ some c) ∧ ∀ j, j < i → (pat l j).2.2 ≠ [] → R j ≠ R i))
  (hk : l.length = k) (hr : RowOwn B W2.heap.size W2 ra x.2.2) (hn : x.2.2 ≠ [] → ∀ c, ra = some ⟨c, 0, none⟩ → ¬ pU p U c) (hg : W2.grownBy w6 v.ownBlock) (hloc : v.ownBlock = some g ∨ W2.heap.size ≤ g) (hgl : g < w6.heap.size)
  (ho : w6.ownsRow B 127 3 (.slice (some ⟨g, 0, none⟩) (k + 1) cap) (k + 1) ((List.range (k * 3)).map fl ++ [.int .i64 x.1, .int .u8 x.2.1, .slice ra x.2.2.length rc])) :
  ∃ U', (∃ v', Blk (w6.setCell ⟨p, 2, none⟩ (.slice (some ⟨g, 0, none⟩) (k + 1) cap)) p 4 (rcI s a v' f) ∧ LaidO B (w6.setCell ⟨p, 2, none⟩ (.slice (some ⟨g, 0, none⟩) (k + 1) cap)) v' (l ++ [x]) U' ∧ ¬ U' p) ∧ Us w (fun c => pU p U c ∨ ra = some ⟨c, 0, none⟩) (w6.setCell ⟨p, 2, none⟩ (.slice (some ⟨g, 0, none⟩) (k + 1) cap)) (pU p U') := by
 subst hk
 have hBg : B ≤ g := by
  rcases hloc with h | h
  ·exact (h3 g (h2 g h)).1
  ·have := hBW.size; omega
 have hL := LaidO.snoc (x := x) (ra := ra) (rc := rc) h2 h3 h4 hr (fun hne c hc hu => hn hne c hc (.inr hu)) hg hloc hgl hBg ho
 have hU' : ¬ (U p ∨ p = g ∨ (x.2.2 ≠ [] ∧ ra = some ⟨p, 0, none⟩)) := by
  rintro (h | h | ⟨h5, h6⟩)
  ·exact hU h
  ·subst h
   rcases hloc with h | h
   ·exact hU (h2 _ h)
   ·have := hBW.size; omega
  ·exact hn h5 p h6 (.inl rfl)
 refine ⟨_, ⟨_, (hp6.set 2 (by omega) _).congr fun i hi => ?_, laid_set hL hU' _, hU'⟩, ⟨⟨?_, ?_, ?_, ?_, ?_⟩, ?_⟩⟩
 ·rcases (show i = 0 ∨ i = 1 ∨ i = 2 ∨ i = 3 by omega) with rfl | rfl | rfl | rfl <;> simp [rcI]
 ·exact (hg.os).trans hBW.os
 ·exact (hg.tape).trans hBW.tape
 ·exact (hg.output).trans hBW.output
 ·have := hg.size; have := hBW.size; simp; omega
 ·intro c hc hn2
  rw [Below.heap_setCell _ _ _ c (fun e => hn2 (.inl (.inl (by simpa using e))))]
  rw [hg.block c (by have := hBW.size; omega) (fun e => hn2 (.inl (.inr (h2 c e.symm))))]
  exact hBW.block c hc
 ·rintro c (rfl | h | rfl | ⟨_, h⟩)
  ·exact .inl (.inl (.inl rfl))
  ·exact .inl (.inl (.inr h))
  ·rcases hloc with h | h
   ·exact .inl (.inl (.inr (h2 _ h)))
   ·right; have := hBW.size; omega
  ·exact .inl (.inr h)
set_option maxHeartbeats 2000000 in
set_option maxRecDepth 100000 in
theorem add_any (B p : Nat) (s : ByteArray) (a : Nat) (l : List Pc) (f : Bool) (U : Nat → Prop) (op y : Int) (ra : Option Addr) (q rc : Nat) (ks : List Int) (w : World) (hr : RI B p s w a l f U) (hB : B ≤ w.heap.size) (hl : l.length ≤ 1000)
  (hk : RowOwn B w.heap.size w ra ks) (hq : ks.length = q) (hn : ks ≠ [] → ∀ c, ra = some ⟨c, 0, none⟩ → ¬ pU p U c) :
  Calls Tryz.prog 89 #[.pointer (some ⟨p, 0, none⟩), .agg #[.int .i64 op, .int .u8 y, .slice ra q rc]] w fun e w' => e = .returned (.int .i64 (l.length : Int)) ∧ ∃ U', RI B p s w' a (l ++ [(op, y, ks)]) f U' ∧ Us w (fun c => pU p U c ∨ ra = some ⟨c, 0, none⟩) w' (pU p U') := by
 obtain ⟨v, hb, hL, hU⟩ := hr
 obtain ⟨i8, hi8, hz80, hz81, hz82⟩ := info_parts Tryz.info127
 obtain ⟨k, HKL⟩ : ∃ k, Hid (k = l.length) := ⟨_, rfl⟩
 rw [← HKL.out] at hl
 have HB0 : Hid (Blk w p 4 (rcI s a v f)) := hb
 have HL0 : Hid (LaidO B w v l U) := hL
 have HK : Hid (RowOwn B w.heap.size w ra ks) := hk
 have HQ : Hid (ks.length = q) := hq
 have HN : Hid (ks ≠ [] → ∀ c, ra = some ⟨c, 0, none⟩ → ¬ pU p U c) := hn
 have HUP : Hid (¬ U p) := hU
 obtain ⟨W, HW⟩ : ∃ W, Hid (W = w.alloc (.cells #[.int .i64 op, .int .u8 y, .slice ra q rc] 127)) := ⟨_, rfl⟩
 obtain ⟨E, HE⟩ : ∃ E, Hid (E = w.heap.size) := ⟨_, rfl⟩
 have HBW : Hid (Below w.heap.size w W) := by rw [HW.out]; exact below1 _ _
 have HBX : Hid (Blk W E 3 (fun i => if i = 0 then .int .i64 op else if i = 1 then .int .u8 y else .slice ra q rc)) := by rw [HW.out]; exact blk_three w E HE.out _ _ _ _
 have HBP : Hid (Blk W p 4 (rcI s a v f)) := hb.of_block (HBW.out.block _ hb.lt)
 obtain ⟨q0, q1, q2⟩ := blk_three_set HBX.out
 have r2 : W.cell? ⟨p, 2, none⟩ = some v := HBP.out.cell (i := 2) (by omega)
 have hPE : p < E := by rw [HE.out]; exact hb.lt
 have hWE : W.heap.size = E + 1 := by rw [HW.out, HE.out]; simp
 have hBE : B ≤ E := by rw [HE.out]; exact hB
 have HLW : Hid (LaidO B W v l U) := hL.below HBW.out
 clear hb hL hk hq hn hU
 obtain ⟨N, HNN⟩ : ∃ o : Obj, Hid (o = .cells #[.int .i64 op, .int .u8 y, .slice ra q rc] 127) := ⟨_, rfl⟩
 have HBN : Hid (Below W.heap.size W (W.alloc N)) := below1 _ _
 obtain ⟨fl, R, C, h1, h2, h3, h4⟩ := (HLW.out.below HBN.out)
 rw [← HKL.out] at h1
 have HSX : Hid (∀ wx, Below W.heap.size W wx → wx.cell? ⟨p, 2, none⟩ = some v ∧ wx.cell? ⟨E, 0, none⟩ = some (.int .i64 op) ∧ wx.cell? ⟨E, 1, none⟩ = some (.int .u8 y) ∧ wx.cell? ⟨E, 2, none⟩ = some (.slice ra q rc)) := fun wx h =>
  ⟨cell_below r2 h (lt_of_cell r2), cell_below q0 h (lt_of_cell q0), cell_below q1 h (lt_of_cell q1), cell_below q2 h (lt_of_cell q2)⟩
 have hsx1 := HSX.out W (Below.refl _ _)
 have hsx2 := HSX.out (W.alloc N) HBN.out
 rw [HNN.out] at hsx2 h1
 go_enter Tryz.func89, Tryz.ntmps89
 go_upto_region 1 with fail
 rw [← HE.out, ← HW.out]
 have HGB : Hid (∀ w6, ((W.alloc (.cells #[.int .i64 op, .int .u8 y, .slice ra q rc] 127)).drew).grownBy w6 v.ownBlock → Blk w6 p 4 (rcI s a v f) ∧ (w6.cell? ⟨p, 2, none⟩ = some v ∧ w6.cell? ⟨E, 0, none⟩ = some (.int .i64 op) ∧ w6.cell? ⟨E, 1, none⟩ = some (.int .u8 y) ∧ w6.cell? ⟨E, 2, none⟩ = some (.slice ra q rc))) := by
  intro w6 h
  have hUl : ∀ c, U c → c < E := fun c hc => by rw [HE.out]; exact (HL0.out.lt hc).2
  have hb1 : w6.heap[p]? = W.heap[p]? := by
   rw [h.block p (by simp; omega) (fun e => HUP.out (h2 p e.symm))]
   exact Below.heap_alloc W _ p (by omega)
  have hb2 : w6.heap[E]? = W.heap[E]? := by
   rw [h.block E (by simp; omega) (fun e => by have := hUl E (h2 E e.symm); omega)]
   exact Below.heap_alloc W _ E (by omega)
  have k1 := HBP.out.of_block hb1
  obtain ⟨j0, j1, j2⟩ := blk_three_set (HBX.out.of_block hb2)
  exact ⟨k1, k1.cell (i := 2) (by omega), j0, j1, j2⟩
 have H2 : Hid (∀ c, v.ownBlock = some c → U c) := h2
 have H3 : Hid (∀ c, U c → B ≤ c ∧ c < (W.alloc N).heap.size) := h3
 have H4 : Hid (∀ i, i < l.length → (fl (i * 3) = .int .i64 (pat l i).1 ∧ fl (i * 3 + 1) = .int .u8 (pat l i).2.1 ∧ fl (i * 3 + 2) = .slice (R i) (pat l i).2.2.length (C i)) ∧ RowOwn B (W.alloc N).heap.size (W.alloc N) (R i) (pat l i).2.2 ∧
   ((pat l i).2.2 ≠ [] → (∀ c, R i = some ⟨c, 0, none⟩ → U c ∧ v.ownBlock ≠ some c) ∧ ∀ j, j < i → (pat l j).2.2 ≠ [] → R j ≠ R i)) := h4
 have r2' := hsx2.1
 have hsx1 := hsx1.2
 have hsx2 := hsx2.2
 have hne : E ≠ p := by omega
 clear h2 h3 h4 q0 q1 q2
 have HNW : Hid (∀ j u, ([.int .i64 op, .int .u8 y, .slice ra q rc] : List Value)[j]? = some u → (W.alloc (.cells #[.int .i64 op, .int .u8 y, .slice ra q rc] 127)).cell? ((⟨E + 1, 0, none⟩ : Addr).add j) = some u) := by
  have := news_pc W (.int .i64 op) (.int .u8 y) (.slice ra q rc) 127
  rw [hWE] at this
  exact this
 have HEND : Hid (∀ (w6 : World) (g5 cap5 : Nat), ((W.alloc (.cells #[.int .i64 op, .int .u8 y, .slice ra q rc] 127)).drew).grownBy w6 v.ownBlock → (v.ownBlock = some g5 ∨ g5 = E + 2) → g5 < w6.heap.size → w6.ownsRow B 127 3 (.slice (some ⟨g5, 0, none⟩) (k + 1) cap5) (k + 1) ((List.range (k * 3)).map fl ++ [.int .i64 op, .int .u8 y, .slice ra q rc]) →
   (Ending.returned (.int .i64 (k : Int)) = .returned (.int .i64 (l.length : Int)) ∧ ∃ U', RI B p s (w6.setCell ⟨p, 2, none⟩ (.slice (some ⟨g5, 0, none⟩) (k + 1) cap5)) a (l ++ [(op, y, ks)]) f U' ∧ Us w (fun c => pU p U c ∨ ra = some ⟨c, 0, none⟩) (w6.setCell ⟨p, 2, none⟩ (.slice (some ⟨g5, 0, none⟩) (k + 1) cap5)) (pU p U'))) := by
  intro w6 g5 cap5 hg hloc hgl ho
  refine ⟨by rw [HKL.out], ?_⟩
  have hBW2 : Below w.heap.size w (W.alloc N) := HBW.out.trans (HBN.out.mono HBW.out.size)
  have hg2 : (W.alloc N).grownBy w6 v.ownBlock := by rw [HNN.out]; exact ⟨hg.os, hg.tape, hg.output, hg.size, hg.block⟩
  obtain ⟨U', ⟨v', e1, e2, e3⟩, e4⟩ := laid_more (x := (op, y, ks)) (ra := ra) (rc := rc) (g := g5) (cap := cap5) HB0.out.lt HUP.out hB hBW2 (HGB.out w6 hg).1 H2.out H3.out H4.out HKL.out.symm (HK.out.below hBW2 (Nat.le_refl _) |>.wide (Nat.le_refl _) hBW2.size) HN.out hg2 (hloc.imp id (fun h => by simp; omega)) hgl (by dsimp only; rw [HQ.out]; exact ho)
  exact ⟨U', ⟨v', e1, e2, e3⟩, e4⟩
 refine wp_region_held_drew (S := fun w' => w'.cell? ⟨E, 0, none⟩ = some (.int .i64 op) ∧ w'.cell? ⟨E, 1, none⟩ = some (.int .u8 y) ∧ w'.cell? ⟨E, 2, none⟩ = some (.slice ra q rc)) (by kernel_rfl) hsx1 (fun hHeld => ?_)
 refine wpAnyH_take (i := 0) (oi := { dst := some 5, op := Op.move (.tmp 0), type := 132, pos := "l06_path.go:233", after := #[], guard := none }) (v := ?_) rfl (by kernel_rfl) (by kernel_rfl) (by kernel_rfl) (fun _ _ _ h => h) (Or.inl ⟨by kernel_rfl, ?_⟩) (by assumption) ?_
 rotate_left
 ·intro w hSw; (try dsimp only at hSw); go_simp; try with_reducible rfl
 simp only [Act.put, List.setIfInBounds_toArray, List.set_cons_zero, List.set_cons_succ]
 refine wpAnyH_take (i := 1) (oi := { dst := some 6, op := Op.move (.tmp 0), type := 132, pos := "l06_path.go:233", after := #[], guard := none }) (v := ?_) rfl (by kernel_rfl) (by kernel_rfl) (by kernel_rfl) (fun _ _ _ h => h) (Or.inl ⟨by kernel_rfl, ?_⟩) (by assumption) ?_
 rotate_left
 ·intro w hSw; (try dsimp only at hSw); go_simp; try with_reducible rfl
 simp only [Act.put, List.setIfInBounds_toArray, List.set_cons_zero, List.set_cons_succ]
 refine wpAnyH_take (i := 2) (oi := { dst := some 7, op := Op.nilCheck (.tmp 6), type := 0, pos := "l06_path.go:233", after := #[{ on := 1, ground := .data }], guard := none }) (v := ?_) rfl (by kernel_rfl) (by kernel_rfl) (by kernel_rfl) (fun _ _ _ h => h) (Or.inl ⟨by kernel_rfl, ?_⟩) (by assumption) ?_
 rotate_left
 ·intro w hSw; (try dsimp only at hSw); go_simp; try with_reducible rfl
 simp only [Act.put, List.setIfInBounds_toArray, List.set_cons_zero, List.set_cons_succ]
 refine wpAnyH_take (i := 3) (oi := { dst := some 8, op := Op.fieldAddr 109 (.tmp 7) 2, type := 0, pos := "l06_path.go:233", after := #[{ on := 2, ground := .data }], guard := none }) (v := ?_) rfl (by kernel_rfl) (by kernel_rfl) (by kernel_rfl) (fun _ _ _ h => h) (Or.inl ⟨by kernel_rfl, ?_⟩) (by assumption) ?_
 rotate_left
 ·intro w hSw; (try dsimp only at hSw); go_simp; try with_reducible rfl
 simp only [Act.put, List.setIfInBounds_toArray, List.set_cons_zero, List.set_cons_succ]
 refine wpAnyH_take (i := 5) (oi := { dst := some 10, op := Op.load 127 (.tmp 3), type := 127, pos := "l06_path.go:233", after := #[], guard := none }) (v := ?_) rfl (by kernel_rfl) (by kernel_rfl) (by kernel_rfl) (fun _ _ _ h => h) (Or.inl ⟨by kernel_rfl, ?_⟩) (by assumption) ?_
 rotate_left
 ·intro w hSw; (try dsimp only at hSw); go_simp; try with_reducible rfl
 simp only [Act.put, List.setIfInBounds_toArray, List.set_cons_zero, List.set_cons_succ]
 refine wpAnyH_ready (rs := [4, 6]) (by kernel_rfl) (by simp) ?_
 refine AllReadyH.cons (o := { dst := some 9, op := Op.load 71 (.tmp 8), type := 71, pos := "l06_path.go:233", after := #[{ on := 3, ground := .data }], guard := none }) rfl (fun K hK => ?_) ?_
 ·go_simp
  refine hK.out _ _ hHeld (fun hHeld => ?_)
  clear hK K
  try simp only [Act.put, List.setIfInBounds_toArray, List.set_cons_zero, List.set_cons_succ]
  refine wpAnyH_ready (rs := [6]) (by kernel_rfl) (by simp) ?_
  refine AllReadyH.cons (o := { dst := some 11, op := Op.buildSlice 71 1 #[(0, .tmp 10)], type := 71, pos := "l06_path.go:233", after := #[{ on := 5, ground := .data }], guard := none }) rfl (fun K hK => ?_) ?_
  ·go_simp
   refine hK.out _ _ hsx2 (fun hHeld => ?_)
   clear hK K
   try simp only [Act.put, List.setIfInBounds_toArray, List.set_cons_zero, List.set_cons_succ]
   refine wpAnyH_ready (rs := [7]) (by kernel_rfl) (by simp) ?_
   refine AllReadyH.cons (o := { dst := some 12, op := Op.call { callee := Callee.builtin Builtin.append, args := #[.tmp 9, .tmp 11], argTypes := #[71, 71] }, type := 71, pos := "l06_path.go:233", after := #[{ on := 4, ground := .data }, { on := 6, ground := .data }], guard := none }) rfl (fun K hK => ?_) ?_
   ·refine step_append_lies _ rfl (.tmp 9) (.tmp 11) 71 rfl B 127 i8 _ 3 40 Tryz.underlying71 hi8 hz80 hz81 hz82 rfl (by decide) _ k ((List.range (k * 3)).map fl) rfl (by exact h1.drew) ⟨E + 1, 0, none⟩ 1 1 [.int .i64 op, .int .u8 y, .slice ra q rc] rfl rfl (by exact HNW.out) (by simp [Value.oneCell']) (by decide) (by unfold maxLen; omega) (by omega) (by simp; omega) _ rfl ?_; intro g5 cap5 w6 hown5 hgrow5 hloc5 hg5; have hk6 := HGB.out w6 hgrow5; have hsx3 := hk6.2.2; have hc6 := hk6.2.1; have hsx4 := fun (u : Value) => And.intro (cell_set (c := p) (j := 2) hsx3.1 u hne) (And.intro (cell_set (c := p) (j := 2) hsx3.2.1 u hne) (cell_set (c := p) (j := 2) hsx3.2.2 u hne)); have hf6 := hk6.1.frozen 2
    refine hK.out _ _ hsx3 (fun hHeld => ?_)
    clear hK K
    try simp only [Act.put, List.setIfInBounds_toArray, List.set_cons_zero, List.set_cons_succ]
    refine wpAnyH_take (i := 8) (oi := { dst := some 13, op := Op.nilCheck (.tmp 5), type := 0, pos := "l06_path.go:233", after := #[{ on := 0, ground := .data }, { on := 0, ground := .phase }, { on := 1, ground := .phase }, { on := 2, ground := .phase }, { on := 3, ground := .phase }, { on := 4, ground := .phase }, { on := 5, ground := .phase }, { on := 6, ground := .phase }, { on := 7, ground := .phase }], guard := none }) (v := ?_) rfl (by kernel_rfl) (by kernel_rfl) (by kernel_rfl) (fun _ _ _ h => h) (Or.inl ⟨by kernel_rfl, ?_⟩) (by assumption) ?_
    rotate_left
    ·intro w hSw; (try dsimp only at hSw); go_simp; try with_reducible rfl
    simp only [Act.put, List.setIfInBounds_toArray, List.set_cons_zero, List.set_cons_succ]
    refine wpAnyH_take (i := 9) (oi := { dst := some 14, op := Op.fieldAddr 109 (.tmp 13) 2, type := 0, pos := "l06_path.go:233", after := #[{ on := 8, ground := .data }, { on := 0, ground := .phase }, { on := 1, ground := .phase }, { on := 2, ground := .phase }, { on := 3, ground := .phase }, { on := 4, ground := .phase }, { on := 5, ground := .phase }, { on := 6, ground := .phase }, { on := 7, ground := .phase }], guard := none }) (v := ?_) rfl (by kernel_rfl) (by kernel_rfl) (by kernel_rfl) (fun _ _ _ h => h) (Or.inl ⟨by kernel_rfl, ?_⟩) (by assumption) ?_
    rotate_left
    ·intro w hSw; (try dsimp only at hSw); go_simp; try with_reducible rfl
    simp only [Act.put, List.setIfInBounds_toArray, List.set_cons_zero, List.set_cons_succ]
    refine wpAnyH_ready (rs := [10]) (by kernel_rfl) (by simp) ?_
    refine AllReadyH.cons (o := { dst := none, op := Op.store 71 (.tmp 14) (.tmp 12), type := 0, pos := "l06_path.go:233", after := #[{ on := 9, ground := .data }, { on := 7, ground := .data }, { on := 7, ground := .chain }, { on := 0, ground := .phase }, { on := 1, ground := .phase }, { on := 2, ground := .phase }, { on := 3, ground := .phase }, { on := 4, ground := .phase }, { on := 5, ground := .phase }, { on := 6, ground := .phase }, { on := 7, ground := .phase }], guard := none }) rfl (fun K hK => ?_) ?_
    ·go_simp
     refine hK.out _ _ (hsx4 _) (fun hHeld => ?_)
     clear hK K
     try simp only [Act.put, List.setIfInBounds_toArray, List.set_cons_zero, List.set_cons_succ]
     refine wpAnyH_done (by kernel_rfl) ?_ _
     clear hsx1 hsx2 hsx3 hsx4 hHeld
     go_wp2
     go_ret
     exact HEND.out _ g5 cap5 hgrow5 (hloc5.imp id (fun h => by simp at h; omega)) hg5 hown5
    exact AllReadyH.nil
   exact AllReadyH.nil
  exact AllReadyH.nil
 refine AllReadyH.cons (o := { dst := some 11, op := Op.buildSlice 71 1 #[(0, .tmp 10)], type := 71, pos := "l06_path.go:233", after := #[{ on := 5, ground := .data }], guard := none }) rfl (fun K hK => ?_) ?_
 ·go_simp
  refine hK.out _ _ hsx2 (fun hHeld => ?_)
  clear hK K
  try simp only [Act.put, List.setIfInBounds_toArray, List.set_cons_zero, List.set_cons_succ]
  refine wpAnyH_ready (rs := [4]) (by kernel_rfl) (by simp) ?_
  refine AllReadyH.cons (o := { dst := some 9, op := Op.load 71 (.tmp 8), type := 71, pos := "l06_path.go:233", after := #[{ on := 3, ground := .data }], guard := none }) rfl (fun K hK => ?_) ?_
  ·go_simp
   refine hK.out _ _ hHeld (fun hHeld => ?_)
   clear hK K
   try simp only [Act.put, List.setIfInBounds_toArray, List.set_cons_zero, List.set_cons_succ]
   refine wpAnyH_ready (rs := [7]) (by kernel_rfl) (by simp) ?_
   refine AllReadyH.cons (o := { dst := some 12, op := Op.call { callee := Callee.builtin Builtin.append, args := #[.tmp 9, .tmp 11], argTypes := #[71, 71] }, type := 71, pos := "l06_path.go:233", after := #[{ on := 4, ground := .data }, { on := 6, ground := .data }], guard := none }) rfl (fun K hK => ?_) ?_
   ·refine step_append_lies _ rfl (.tmp 9) (.tmp 11) 71 rfl B 127 i8 _ 3 40 Tryz.underlying71 hi8 hz80 hz81 hz82 rfl (by decide) _ k ((List.range (k * 3)).map fl) rfl (by exact h1.drew) ⟨E + 1, 0, none⟩ 1 1 [.int .i64 op, .int .u8 y, .slice ra q rc] rfl rfl (by exact HNW.out) (by simp [Value.oneCell']) (by decide) (by unfold maxLen; omega) (by omega) (by simp; omega) _ rfl ?_; intro g5 cap5 w6 hown5 hgrow5 hloc5 hg5; have hk6 := HGB.out w6 hgrow5; have hsx3 := hk6.2.2; have hc6 := hk6.2.1; have hsx4 := fun (u : Value) => And.intro (cell_set (c := p) (j := 2) hsx3.1 u hne) (And.intro (cell_set (c := p) (j := 2) hsx3.2.1 u hne) (cell_set (c := p) (j := 2) hsx3.2.2 u hne)); have hf6 := hk6.1.frozen 2
    refine hK.out _ _ hsx3 (fun hHeld => ?_)
    clear hK K
    try simp only [Act.put, List.setIfInBounds_toArray, List.set_cons_zero, List.set_cons_succ]
    refine wpAnyH_take (i := 8) (oi := { dst := some 13, op := Op.nilCheck (.tmp 5), type := 0, pos := "l06_path.go:233", after := #[{ on := 0, ground := .data }, { on := 0, ground := .phase }, { on := 1, ground := .phase }, { on := 2, ground := .phase }, { on := 3, ground := .phase }, { on := 4, ground := .phase }, { on := 5, ground := .phase }, { on := 6, ground := .phase }, { on := 7, ground := .phase }], guard := none }) (v := ?_) rfl (by kernel_rfl) (by kernel_rfl) (by kernel_rfl) (fun _ _ _ h => h) (Or.inl ⟨by kernel_rfl, ?_⟩) (by assumption) ?_
    rotate_left
    ·intro w hSw; (try dsimp only at hSw); go_simp; try with_reducible rfl
    simp only [Act.put, List.setIfInBounds_toArray, List.set_cons_zero, List.set_cons_succ]
    refine wpAnyH_take (i := 9) (oi := { dst := some 14, op := Op.fieldAddr 109 (.tmp 13) 2, type := 0, pos := "l06_path.go:233", after := #[{ on := 8, ground := .data }, { on := 0, ground := .phase }, { on := 1, ground := .phase }, { on := 2, ground := .phase }, { on := 3, ground := .phase }, { on := 4, ground := .phase }, { on := 5, ground := .phase }, { on := 6, ground := .phase }, { on := 7, ground := .phase }], guard := none }) (v := ?_) rfl (by kernel_rfl) (by kernel_rfl) (by kernel_rfl) (fun _ _ _ h => h) (Or.inl ⟨by kernel_rfl, ?_⟩) (by assumption) ?_
    rotate_left
    ·intro w hSw; (try dsimp only at hSw); go_simp; try with_reducible rfl
    simp only [Act.put, List.setIfInBounds_toArray, List.set_cons_zero, List.set_cons_succ]
    refine wpAnyH_ready (rs := [10]) (by kernel_rfl) (by simp) ?_
    refine AllReadyH.cons (o := { dst := none, op := Op.store 71 (.tmp 14) (.tmp 12), type := 0, pos := "l06_path.go:233", after := #[{ on := 9, ground := .data }, { on := 7, ground := .data }, { on := 7, ground := .chain }, { on := 0, ground := .phase }, { on := 1, ground := .phase }, { on := 2, ground := .phase }, { on := 3, ground := .phase }, { on := 4, ground := .phase }, { on := 5, ground := .phase }, { on := 6, ground := .phase }, { on := 7, ground := .phase }], guard := none }) rfl (fun K hK => ?_) ?_
    ·go_simp
     refine hK.out _ _ (hsx4 _) (fun hHeld => ?_)
     clear hK K
     try simp only [Act.put, List.setIfInBounds_toArray, List.set_cons_zero, List.set_cons_succ]
     refine wpAnyH_done (by kernel_rfl) ?_ _
     clear hsx1 hsx2 hsx3 hsx4 hHeld
     go_wp2
     go_ret
     exact HEND.out _ g5 cap5 hgrow5 (hloc5.imp id (fun h => by simp at h; omega)) hg5 hown5
    exact AllReadyH.nil
   exact AllReadyH.nil
  exact AllReadyH.nil
 exact AllReadyH.nil
end Go.Proofs.YtbepmeipjdpipaaGreat

namespace Go.Proofs.YtbepmeipjdpipaaGreat
open Go.RowKit
abbrev rcS (s : ByteArray) (a : Nat) (v : Value) (f : Bool) : Nat → Value := fun i => if i = 0 then .string s else if i = 1 then .int .i64 (a : Int) else if i = 2 then .bool f else v
def RS (B p : Nat) (s : ByteArray) (w : World) (a : Nat) (l : List Pc) (f : Bool) (U : Nat → Prop) : Prop :=
 ∃ v, Blk w p 4 (rcS s a v f) ∧ LaidO B w v l U ∧ ¬ U p
theorem RS.lt {B p a : Nat} {s : ByteArray} {w : World} {l : List Pc} {f : Bool} {U : Nat → Prop} (h : RS B p s w a l f U) : ∀ c, pU p U c → c < w.heap.size := by
 obtain ⟨v, h1, h2, _⟩ := h
 rintro c (rfl | hc)
 ·exact h1.lt
 ·exact (h2.lt hc).2
theorem RS.below {B p a : Nat} {s : ByteArray} {w w' : World} {l : List Pc} {f : Bool} {U : Nat → Prop} (h : RS B p s w a l f U) (hb : Below w.heap.size w w') : RS B p s w' a l f U := by
 obtain ⟨v, h1, h2, h3⟩ := h
 exact ⟨v, h1.of_block (hb.block _ h1.lt), h2.below hb, h3⟩
theorem RS.cells {B p a : Nat} {s : ByteArray} {w : World} {l : List Pc} {f : Bool} {U : Nat → Prop} (h : RS B p s w a l f U) : w.cell? ⟨p, 0, none⟩ = some (.string s) ∧ w.cell? ⟨p, 1, none⟩ = some (.int .i64 (a : Int)) ∧ w.cell? ⟨p, 2, none⟩ = some (.bool f) ∧ (∀ i, w.frozen? ⟨p, i, none⟩ = false) := by
 obtain ⟨v, h1, _, _⟩ := h
 exact ⟨h1.cell (i := 0) (by omega), h1.cell (i := 1) (by omega), h1.cell (i := 2) (by omega), fun i => h1.frozen i⟩
theorem RS.step {B p a : Nat} {s : ByteArray} {w : World} {l : List Pc} {f : Bool} {U : Nat → Prop} (h : RS B p s w a l f U) : RS B p s (w.setCell ⟨p, 1, none⟩ (.int .i64 ((a : Int) + 1))) (a + 1) l f U := by
 obtain ⟨v, h1, h2, h3⟩ := h
 refine ⟨v, (h1.set 1 (by omega) _).congr fun i hi => ?_, laid_set h2 h3 _, h3⟩
 rcases (show i = 0 ∨ i = 1 ∨ i = 2 ∨ i = 3 by omega) with rfl | rfl | rfl | rfl <;> simp [rcS]
theorem RS.fail {B p a : Nat} {s : ByteArray} {w : World} {l : List Pc} {f : Bool} {U : Nat → Prop} (h : RS B p s w a l f U) : RS B p s (w.setCell ⟨p, 2, none⟩ (.bool true)) a l true U := by
 obtain ⟨v, h1, h2, h3⟩ := h
 refine ⟨v, (h1.set 2 (by omega) _).congr fun i hi => ?_, laid_set h2 h3 _, h3⟩
 rcases (show i = 0 ∨ i = 1 ∨ i = 2 ∨ i = 3 by omega) with rfl | rfl | rfl | rfl <;> simp [rcS]
theorem laid_moreS {B p a g cap k : Nat} {s : ByteArray} {w W2 w6 : World} {l : List Pc} {f : Bool} {v : Value} {U : Nat → Prop} {x : Pc} {ra : Option Addr} {rc : Nat} {fl : Nat → Value} {R : Nat → Option Addr} {C : Nat → Nat}
  (hb : p < w.heap.size) (hU : ¬ U p) (hB : B ≤ w.heap.size) (hBW : Below w.heap.size w W2) (hp6 : Blk w6 p 4 (rcS s a v f))
  (h2 : ∀ c, v.ownBlock = some c → U c) (h3 : ∀ c, U c → B ≤ c ∧ c < W2.heap.size)
  (h4 : ∀ i, i < l.length → (fl (i * 3) = .int .i64 (pat l i).1 ∧ fl (i * 3 + 1) = .int .u8 (pat l i).2.1 ∧ fl (i * 3 + 2) = .slice (R i) (pat l i).2.2.length (C i)) ∧ RowOwn B W2.heap.size W2 (R i) (pat l i).2.2 ∧
   ((pat l i).2.2 ≠ [] → (∀ c, R i = some ⟨c, 0, none⟩ → U c ∧ v.ownBlock ≠ some c) ∧ ∀ j, j < i → (pat l j).2.2 ≠ [] → R j ≠ R i))
  (hk : l.length = k) (hr : RowOwn B W2.heap.size W2 ra x.2.2) (hn : x.2.2 ≠ [] → ∀ c, ra = some ⟨c, 0, none⟩ → ¬ pU p U c) (hg : W2.grownBy w6 v.ownBlock) (hloc : v.ownBlock = some g ∨ W2.heap.size ≤ g) (hgl : g < w6.heap.size)
  (ho : w6.ownsRow B 127 3 (.slice (some ⟨g, 0, none⟩) (k + 1) cap) (k + 1) ((List.range (k * 3)).map fl ++ [.int .i64 x.1, .int .u8 x.2.1, .slice ra x.2.2.length rc])) :
  ∃ U', (∃ v', Blk (w6.setCell ⟨p, 3, none⟩ (.slice (some ⟨g, 0, none⟩) (k + 1) cap)) p 4 (rcS s a v' f) ∧ LaidO B (w6.setCell ⟨p, 3, none⟩ (.slice (some ⟨g, 0, none⟩) (k + 1) cap)) v' (l ++ [x]) U' ∧ ¬ U' p) ∧ Us w (fun c => pU p U c ∨ ra = some ⟨c, 0, none⟩) (w6.setCell ⟨p, 3, none⟩ (.slice (some ⟨g, 0, none⟩) (k + 1) cap)) (pU p U') := by
 subst hk
 have hBg : B ≤ g := by
  rcases hloc with h | h
  ·exact (h3 g (h2 g h)).1
  ·have := hBW.size; omega
 have hL := LaidO.snoc (x := x) (ra := ra) (rc := rc) h2 h3 h4 hr (fun hne c hc hu => hn hne c hc (.inr hu)) hg hloc hgl hBg ho
 have hU' : ¬ (U p ∨ p = g ∨ (x.2.2 ≠ [] ∧ ra = some ⟨p, 0, none⟩)) := by
  rintro (h | h | ⟨h5, h6⟩)
  ·exact hU h
  ·subst h
   rcases hloc with h | h
   ·exact hU (h2 _ h)
   ·have := hBW.size; omega
  ·exact hn h5 p h6 (.inl rfl)
 refine ⟨_, ⟨_, (hp6.set 3 (by omega) _).congr fun i hi => ?_, laid_set hL hU' _, hU'⟩, ⟨⟨?_, ?_, ?_, ?_, ?_⟩, ?_⟩⟩
 ·rcases (show i = 0 ∨ i = 1 ∨ i = 2 ∨ i = 3 by omega) with rfl | rfl | rfl | rfl <;> simp [rcS]
 ·exact (hg.os).trans hBW.os
 ·exact (hg.tape).trans hBW.tape
 ·exact (hg.output).trans hBW.output
 ·have := hg.size; have := hBW.size; simp; omega
 ·intro c hc hn2
  rw [Below.heap_setCell _ _ _ c (fun e => hn2 (.inl (.inl (by simpa using e))))]
  rw [hg.block c (by have := hBW.size; omega) (fun e => hn2 (.inl (.inr (h2 c e.symm))))]
  exact hBW.block c hc
 ·rintro c (rfl | h | rfl | ⟨_, h⟩)
  ·exact .inl (.inl (.inl rfl))
  ·exact .inl (.inl (.inr h))
  ·rcases hloc with h | h
   ·exact .inl (.inl (.inr (h2 _ h)))
   ·right; have := hBW.size; omega
  ·exact .inl (.inr h)
set_option maxHeartbeats 2000000 in
set_option maxRecDepth 100000 in
theorem put_any (B p : Nat) (s : ByteArray) (a : Nat) (l : List Pc) (f : Bool) (U : Nat → Prop) (op y : Int) (ra : Option Addr) (q rc : Nat) (ks : List Int) (w : World) (hr : RS B p s w a l f U) (hB : B ≤ w.heap.size) (hl : l.length ≤ 1000)
  (hk : RowOwn B w.heap.size w ra ks) (hq : ks.length = q) (hn : ks ≠ [] → ∀ c, ra = some ⟨c, 0, none⟩ → ¬ pU p U c) :
  Calls Tryz.prog 72 #[.pointer (some ⟨p, 0, none⟩), .agg #[.int .i64 op, .int .u8 y, .slice ra q rc]] w fun e w' => e = .returned (.int .i64 (l.length : Int)) ∧ ∃ U', RS B p s w' a (l ++ [(op, y, ks)]) f U' ∧ Us w (fun c => pU p U c ∨ ra = some ⟨c, 0, none⟩) w' (pU p U') := by
 obtain ⟨v, hb, hL, hU⟩ := hr
 obtain ⟨i8, hi8, hz80, hz81, hz82⟩ := info_parts Tryz.info127
 obtain ⟨k, HKL⟩ : ∃ k, Hid (k = l.length) := ⟨_, rfl⟩
 rw [← HKL.out] at hl
 have HB0 : Hid (Blk w p 4 (rcS s a v f)) := hb
 have HL0 : Hid (LaidO B w v l U) := hL
 have HK : Hid (RowOwn B w.heap.size w ra ks) := hk
 have HQ : Hid (ks.length = q) := hq
 have HN : Hid (ks ≠ [] → ∀ c, ra = some ⟨c, 0, none⟩ → ¬ pU p U c) := hn
 have HUP : Hid (¬ U p) := hU
 obtain ⟨W, HW⟩ : ∃ W, Hid (W = w.alloc (.cells #[.int .i64 op, .int .u8 y, .slice ra q rc] 127)) := ⟨_, rfl⟩
 obtain ⟨E, HE⟩ : ∃ E, Hid (E = w.heap.size) := ⟨_, rfl⟩
 have HBW : Hid (Below w.heap.size w W) := by rw [HW.out]; exact below1 _ _
 have HBX : Hid (Blk W E 3 (fun i => if i = 0 then .int .i64 op else if i = 1 then .int .u8 y else .slice ra q rc)) := by rw [HW.out]; exact blk_three w E HE.out _ _ _ _
 have HBP : Hid (Blk W p 4 (rcS s a v f)) := hb.of_block (HBW.out.block _ hb.lt)
 obtain ⟨q0, q1, q2⟩ := blk_three_set HBX.out
 have r2 : W.cell? ⟨p, 3, none⟩ = some v := HBP.out.cell (i := 3) (by omega)
 have hPE : p < E := by rw [HE.out]; exact hb.lt
 have hWE : W.heap.size = E + 1 := by rw [HW.out, HE.out]; simp
 have hBE : B ≤ E := by rw [HE.out]; exact hB
 have HLW : Hid (LaidO B W v l U) := hL.below HBW.out
 clear hb hL hk hq hn hU
 obtain ⟨N, HNN⟩ : ∃ o : Obj, Hid (o = .cells #[.int .i64 op, .int .u8 y, .slice ra q rc] 127) := ⟨_, rfl⟩
 have HBN : Hid (Below W.heap.size W (W.alloc N)) := below1 _ _
 obtain ⟨fl, R, C, h1, h2, h3, h4⟩ := (HLW.out.below HBN.out)
 rw [← HKL.out] at h1
 have HSX : Hid (∀ wx, Below W.heap.size W wx → wx.cell? ⟨p, 3, none⟩ = some v ∧ wx.cell? ⟨E, 0, none⟩ = some (.int .i64 op) ∧ wx.cell? ⟨E, 1, none⟩ = some (.int .u8 y) ∧ wx.cell? ⟨E, 2, none⟩ = some (.slice ra q rc)) := fun wx h =>
  ⟨cell_below r2 h (lt_of_cell r2), cell_below q0 h (lt_of_cell q0), cell_below q1 h (lt_of_cell q1), cell_below q2 h (lt_of_cell q2)⟩
 have hsx1 := HSX.out W (Below.refl _ _)
 have hsx2 := HSX.out (W.alloc N) HBN.out
 rw [HNN.out] at hsx2 h1
 go_enter Tryz.func72, Tryz.ntmps72
 go_upto_region 1 with fail
 rw [← HE.out, ← HW.out]
 have HGB : Hid (∀ w6, ((W.alloc (.cells #[.int .i64 op, .int .u8 y, .slice ra q rc] 127)).drew).grownBy w6 v.ownBlock → Blk w6 p 4 (rcS s a v f) ∧ (w6.cell? ⟨p, 3, none⟩ = some v ∧ w6.cell? ⟨E, 0, none⟩ = some (.int .i64 op) ∧ w6.cell? ⟨E, 1, none⟩ = some (.int .u8 y) ∧ w6.cell? ⟨E, 2, none⟩ = some (.slice ra q rc))) := by
  intro w6 h
  have hUl : ∀ c, U c → c < E := fun c hc => by rw [HE.out]; exact (HL0.out.lt hc).2
  have hb1 : w6.heap[p]? = W.heap[p]? := by
   rw [h.block p (by simp; omega) (fun e => HUP.out (h2 p e.symm))]
   exact Below.heap_alloc W _ p (by omega)
  have hb2 : w6.heap[E]? = W.heap[E]? := by
   rw [h.block E (by simp; omega) (fun e => by have := hUl E (h2 E e.symm); omega)]
   exact Below.heap_alloc W _ E (by omega)
  have k1 := HBP.out.of_block hb1
  obtain ⟨j0, j1, j2⟩ := blk_three_set (HBX.out.of_block hb2)
  exact ⟨k1, k1.cell (i := 3) (by omega), j0, j1, j2⟩
 have H2 : Hid (∀ c, v.ownBlock = some c → U c) := h2
 have H3 : Hid (∀ c, U c → B ≤ c ∧ c < (W.alloc N).heap.size) := h3
 have H4 : Hid (∀ i, i < l.length → (fl (i * 3) = .int .i64 (pat l i).1 ∧ fl (i * 3 + 1) = .int .u8 (pat l i).2.1 ∧ fl (i * 3 + 2) = .slice (R i) (pat l i).2.2.length (C i)) ∧ RowOwn B (W.alloc N).heap.size (W.alloc N) (R i) (pat l i).2.2 ∧
   ((pat l i).2.2 ≠ [] → (∀ c, R i = some ⟨c, 0, none⟩ → U c ∧ v.ownBlock ≠ some c) ∧ ∀ j, j < i → (pat l j).2.2 ≠ [] → R j ≠ R i)) := h4
 have r2' := hsx2.1
 have hsx1 := hsx1.2
 have hsx2 := hsx2.2
 have hne : E ≠ p := by omega
 clear h2 h3 h4 q0 q1 q2
 have HNW : Hid (∀ j u, ([.int .i64 op, .int .u8 y, .slice ra q rc] : List Value)[j]? = some u → (W.alloc (.cells #[.int .i64 op, .int .u8 y, .slice ra q rc] 127)).cell? ((⟨E + 1, 0, none⟩ : Addr).add j) = some u) := by
  have := news_pc W (.int .i64 op) (.int .u8 y) (.slice ra q rc) 127
  rw [hWE] at this
  exact this
 have HEND : Hid (∀ (w6 : World) (g5 cap5 : Nat), ((W.alloc (.cells #[.int .i64 op, .int .u8 y, .slice ra q rc] 127)).drew).grownBy w6 v.ownBlock → (v.ownBlock = some g5 ∨ g5 = E + 2) → g5 < w6.heap.size → w6.ownsRow B 127 3 (.slice (some ⟨g5, 0, none⟩) (k + 1) cap5) (k + 1) ((List.range (k * 3)).map fl ++ [.int .i64 op, .int .u8 y, .slice ra q rc]) →
   (Ending.returned (.int .i64 (k : Int)) = .returned (.int .i64 (l.length : Int)) ∧ ∃ U', RS B p s (w6.setCell ⟨p, 3, none⟩ (.slice (some ⟨g5, 0, none⟩) (k + 1) cap5)) a (l ++ [(op, y, ks)]) f U' ∧ Us w (fun c => pU p U c ∨ ra = some ⟨c, 0, none⟩) (w6.setCell ⟨p, 3, none⟩ (.slice (some ⟨g5, 0, none⟩) (k + 1) cap5)) (pU p U'))) := by
  intro w6 g5 cap5 hg hloc hgl ho
  refine ⟨by rw [HKL.out], ?_⟩
  have hBW2 : Below w.heap.size w (W.alloc N) := HBW.out.trans (HBN.out.mono HBW.out.size)
  have hg2 : (W.alloc N).grownBy w6 v.ownBlock := by rw [HNN.out]; exact ⟨hg.os, hg.tape, hg.output, hg.size, hg.block⟩
  obtain ⟨U', ⟨v', e1, e2, e3⟩, e4⟩ := laid_moreS (x := (op, y, ks)) (ra := ra) (rc := rc) (g := g5) (cap := cap5) HB0.out.lt HUP.out hB hBW2 (HGB.out w6 hg).1 H2.out H3.out H4.out HKL.out.symm (HK.out.below hBW2 (Nat.le_refl _) |>.wide (Nat.le_refl _) hBW2.size) HN.out hg2 (hloc.imp id (fun h => by simp; omega)) hgl (by dsimp only; rw [HQ.out]; exact ho)
  exact ⟨U', ⟨v', e1, e2, e3⟩, e4⟩
 refine wp_region_held_drew (S := fun w' => w'.cell? ⟨E, 0, none⟩ = some (.int .i64 op) ∧ w'.cell? ⟨E, 1, none⟩ = some (.int .u8 y) ∧ w'.cell? ⟨E, 2, none⟩ = some (.slice ra q rc)) (by kernel_rfl) hsx1 (fun hHeld => ?_)
 refine wpAnyH_take (i := 0) (oi := { dst := some 5, op := Op.move (.tmp 0), type := 94, pos := "l06_path.go:43", after := #[], guard := none }) (v := ?_) rfl (by kernel_rfl) (by kernel_rfl) (by kernel_rfl) (fun _ _ _ h => h) (Or.inl ⟨by kernel_rfl, ?_⟩) (by assumption) ?_
 rotate_left
 ·intro w hSw; (try dsimp only at hSw); go_simp; try with_reducible rfl
 simp only [Act.put, List.setIfInBounds_toArray, List.set_cons_zero, List.set_cons_succ]
 refine wpAnyH_take (i := 1) (oi := { dst := some 6, op := Op.move (.tmp 0), type := 94, pos := "l06_path.go:43", after := #[], guard := none }) (v := ?_) rfl (by kernel_rfl) (by kernel_rfl) (by kernel_rfl) (fun _ _ _ h => h) (Or.inl ⟨by kernel_rfl, ?_⟩) (by assumption) ?_
 rotate_left
 ·intro w hSw; (try dsimp only at hSw); go_simp; try with_reducible rfl
 simp only [Act.put, List.setIfInBounds_toArray, List.set_cons_zero, List.set_cons_succ]
 refine wpAnyH_take (i := 2) (oi := { dst := some 7, op := Op.nilCheck (.tmp 6), type := 0, pos := "l06_path.go:43", after := #[{ on := 1, ground := .data }], guard := none }) (v := ?_) rfl (by kernel_rfl) (by kernel_rfl) (by kernel_rfl) (fun _ _ _ h => h) (Or.inl ⟨by kernel_rfl, ?_⟩) (by assumption) ?_
 rotate_left
 ·intro w hSw; (try dsimp only at hSw); go_simp; try with_reducible rfl
 simp only [Act.put, List.setIfInBounds_toArray, List.set_cons_zero, List.set_cons_succ]
 refine wpAnyH_take (i := 3) (oi := { dst := some 8, op := Op.fieldAddr 96 (.tmp 7) 3, type := 0, pos := "l06_path.go:43", after := #[{ on := 2, ground := .data }], guard := none }) (v := ?_) rfl (by kernel_rfl) (by kernel_rfl) (by kernel_rfl) (fun _ _ _ h => h) (Or.inl ⟨by kernel_rfl, ?_⟩) (by assumption) ?_
 rotate_left
 ·intro w hSw; (try dsimp only at hSw); go_simp; try with_reducible rfl
 simp only [Act.put, List.setIfInBounds_toArray, List.set_cons_zero, List.set_cons_succ]
 refine wpAnyH_take (i := 5) (oi := { dst := some 10, op := Op.load 127 (.tmp 3), type := 127, pos := "l06_path.go:43", after := #[], guard := none }) (v := ?_) rfl (by kernel_rfl) (by kernel_rfl) (by kernel_rfl) (fun _ _ _ h => h) (Or.inl ⟨by kernel_rfl, ?_⟩) (by assumption) ?_
 rotate_left
 ·intro w hSw; (try dsimp only at hSw); go_simp; try with_reducible rfl
 simp only [Act.put, List.setIfInBounds_toArray, List.set_cons_zero, List.set_cons_succ]
 refine wpAnyH_ready (rs := [4, 6]) (by kernel_rfl) (by simp) ?_
 refine AllReadyH.cons (o := { dst := some 9, op := Op.load 71 (.tmp 8), type := 71, pos := "l06_path.go:43", after := #[{ on := 3, ground := .data }], guard := none }) rfl (fun K hK => ?_) ?_
 ·go_simp
  refine hK.out _ _ hHeld (fun hHeld => ?_)
  clear hK K
  try simp only [Act.put, List.setIfInBounds_toArray, List.set_cons_zero, List.set_cons_succ]
  refine wpAnyH_ready (rs := [6]) (by kernel_rfl) (by simp) ?_
  refine AllReadyH.cons (o := { dst := some 11, op := Op.buildSlice 71 1 #[(0, .tmp 10)], type := 71, pos := "l06_path.go:43", after := #[{ on := 5, ground := .data }], guard := none }) rfl (fun K hK => ?_) ?_
  ·go_simp
   refine hK.out _ _ hsx2 (fun hHeld => ?_)
   clear hK K
   try simp only [Act.put, List.setIfInBounds_toArray, List.set_cons_zero, List.set_cons_succ]
   refine wpAnyH_ready (rs := [7]) (by kernel_rfl) (by simp) ?_
   refine AllReadyH.cons (o := { dst := some 12, op := Op.call { callee := Callee.builtin Builtin.append, args := #[.tmp 9, .tmp 11], argTypes := #[71, 71] }, type := 71, pos := "l06_path.go:43", after := #[{ on := 4, ground := .data }, { on := 6, ground := .data }], guard := none }) rfl (fun K hK => ?_) ?_
   ·refine step_append_lies _ rfl (.tmp 9) (.tmp 11) 71 rfl B 127 i8 _ 3 40 Tryz.underlying71 hi8 hz80 hz81 hz82 rfl (by decide) _ k ((List.range (k * 3)).map fl) rfl (by exact h1.drew) ⟨E + 1, 0, none⟩ 1 1 [.int .i64 op, .int .u8 y, .slice ra q rc] rfl rfl (by exact HNW.out) (by simp [Value.oneCell']) (by decide) (by unfold maxLen; omega) (by omega) (by simp; omega) _ rfl ?_; intro g5 cap5 w6 hown5 hgrow5 hloc5 hg5; have hk6 := HGB.out w6 hgrow5; have hsx3 := hk6.2.2; have hc6 := hk6.2.1; have hsx4 := fun (u : Value) => And.intro (cell_set (c := p) (j := 3) hsx3.1 u hne) (And.intro (cell_set (c := p) (j := 3) hsx3.2.1 u hne) (cell_set (c := p) (j := 3) hsx3.2.2 u hne)); have hf6 := hk6.1.frozen 3
    refine hK.out _ _ hsx3 (fun hHeld => ?_)
    clear hK K
    try simp only [Act.put, List.setIfInBounds_toArray, List.set_cons_zero, List.set_cons_succ]
    refine wpAnyH_take (i := 8) (oi := { dst := some 13, op := Op.nilCheck (.tmp 5), type := 0, pos := "l06_path.go:43", after := #[{ on := 0, ground := .data }, { on := 0, ground := .phase }, { on := 1, ground := .phase }, { on := 2, ground := .phase }, { on := 3, ground := .phase }, { on := 4, ground := .phase }, { on := 5, ground := .phase }, { on := 6, ground := .phase }, { on := 7, ground := .phase }], guard := none }) (v := ?_) rfl (by kernel_rfl) (by kernel_rfl) (by kernel_rfl) (fun _ _ _ h => h) (Or.inl ⟨by kernel_rfl, ?_⟩) (by assumption) ?_
    rotate_left
    ·intro w hSw; (try dsimp only at hSw); go_simp; try with_reducible rfl
    simp only [Act.put, List.setIfInBounds_toArray, List.set_cons_zero, List.set_cons_succ]
    refine wpAnyH_take (i := 9) (oi := { dst := some 14, op := Op.fieldAddr 96 (.tmp 13) 3, type := 0, pos := "l06_path.go:43", after := #[{ on := 8, ground := .data }, { on := 0, ground := .phase }, { on := 1, ground := .phase }, { on := 2, ground := .phase }, { on := 3, ground := .phase }, { on := 4, ground := .phase }, { on := 5, ground := .phase }, { on := 6, ground := .phase }, { on := 7, ground := .phase }], guard := none }) (v := ?_) rfl (by kernel_rfl) (by kernel_rfl) (by kernel_rfl) (fun _ _ _ h => h) (Or.inl ⟨by kernel_rfl, ?_⟩) (by assumption) ?_
    rotate_left
    ·intro w hSw; (try dsimp only at hSw); go_simp; try with_reducible rfl
    simp only [Act.put, List.setIfInBounds_toArray, List.set_cons_zero, List.set_cons_succ]
    refine wpAnyH_ready (rs := [10]) (by kernel_rfl) (by simp) ?_
    refine AllReadyH.cons (o := { dst := none, op := Op.store 71 (.tmp 14) (.tmp 12), type := 0, pos := "l06_path.go:43", after := #[{ on := 9, ground := .data }, { on := 7, ground := .data }, { on := 7, ground := .chain }, { on := 0, ground := .phase }, { on := 1, ground := .phase }, { on := 2, ground := .phase }, { on := 3, ground := .phase }, { on := 4, ground := .phase }, { on := 5, ground := .phase }, { on := 6, ground := .phase }, { on := 7, ground := .phase }], guard := none }) rfl (fun K hK => ?_) ?_
    ·go_simp
     refine hK.out _ _ (hsx4 _) (fun hHeld => ?_)
     clear hK K
     try simp only [Act.put, List.setIfInBounds_toArray, List.set_cons_zero, List.set_cons_succ]
     refine wpAnyH_done (by kernel_rfl) ?_ _
     clear hsx1 hsx2 hsx3 hsx4 hHeld
     go_wp2
     go_ret
     exact HEND.out _ g5 cap5 hgrow5 (hloc5.imp id (fun h => by simp at h; omega)) hg5 hown5
    exact AllReadyH.nil
   exact AllReadyH.nil
  exact AllReadyH.nil
 refine AllReadyH.cons (o := { dst := some 11, op := Op.buildSlice 71 1 #[(0, .tmp 10)], type := 71, pos := "l06_path.go:43", after := #[{ on := 5, ground := .data }], guard := none }) rfl (fun K hK => ?_) ?_
 ·go_simp
  refine hK.out _ _ hsx2 (fun hHeld => ?_)
  clear hK K
  try simp only [Act.put, List.setIfInBounds_toArray, List.set_cons_zero, List.set_cons_succ]
  refine wpAnyH_ready (rs := [4]) (by kernel_rfl) (by simp) ?_
  refine AllReadyH.cons (o := { dst := some 9, op := Op.load 71 (.tmp 8), type := 71, pos := "l06_path.go:43", after := #[{ on := 3, ground := .data }], guard := none }) rfl (fun K hK => ?_) ?_
  ·go_simp
   refine hK.out _ _ hHeld (fun hHeld => ?_)
   clear hK K
   try simp only [Act.put, List.setIfInBounds_toArray, List.set_cons_zero, List.set_cons_succ]
   refine wpAnyH_ready (rs := [7]) (by kernel_rfl) (by simp) ?_
   refine AllReadyH.cons (o := { dst := some 12, op := Op.call { callee := Callee.builtin Builtin.append, args := #[.tmp 9, .tmp 11], argTypes := #[71, 71] }, type := 71, pos := "l06_path.go:43", after := #[{ on := 4, ground := .data }, { on := 6, ground := .data }], guard := none }) rfl (fun K hK => ?_) ?_
   ·refine step_append_lies _ rfl (.tmp 9) (.tmp 11) 71 rfl B 127 i8 _ 3 40 Tryz.underlying71 hi8 hz80 hz81 hz82 rfl (by decide) _ k ((List.range (k * 3)).map fl) rfl (by exact h1.drew) ⟨E + 1, 0, none⟩ 1 1 [.int .i64 op, .int .u8 y, .slice ra q rc] rfl rfl (by exact HNW.out) (by simp [Value.oneCell']) (by decide) (by unfold maxLen; omega) (by omega) (by simp; omega) _ rfl ?_; intro g5 cap5 w6 hown5 hgrow5 hloc5 hg5; have hk6 := HGB.out w6 hgrow5; have hsx3 := hk6.2.2; have hc6 := hk6.2.1; have hsx4 := fun (u : Value) => And.intro (cell_set (c := p) (j := 3) hsx3.1 u hne) (And.intro (cell_set (c := p) (j := 3) hsx3.2.1 u hne) (cell_set (c := p) (j := 3) hsx3.2.2 u hne)); have hf6 := hk6.1.frozen 3
    refine hK.out _ _ hsx3 (fun hHeld => ?_)
    clear hK K
    try simp only [Act.put, List.setIfInBounds_toArray, List.set_cons_zero, List.set_cons_succ]
    refine wpAnyH_take (i := 8) (oi := { dst := some 13, op := Op.nilCheck (.tmp 5), type := 0, pos := "l06_path.go:43", after := #[{ on := 0, ground := .data }, { on := 0, ground := .phase }, { on := 1, ground := .phase }, { on := 2, ground := .phase }, { on := 3, ground := .phase }, { on := 4, ground := .phase }, { on := 5, ground := .phase }, { on := 6, ground := .phase }, { on := 7, ground := .phase }], guard := none }) (v := ?_) rfl (by kernel_rfl) (by kernel_rfl) (by kernel_rfl) (fun _ _ _ h => h) (Or.inl ⟨by kernel_rfl, ?_⟩) (by assumption) ?_
    rotate_left
    ·intro w hSw; (try dsimp only at hSw); go_simp; try with_reducible rfl
    simp only [Act.put, List.setIfInBounds_toArray, List.set_cons_zero, List.set_cons_succ]
    refine wpAnyH_take (i := 9) (oi := { dst := some 14, op := Op.fieldAddr 96 (.tmp 13) 3, type := 0, pos := "l06_path.go:43", after := #[{ on := 8, ground := .data }, { on := 0, ground := .phase }, { on := 1, ground := .phase }, { on := 2, ground := .phase }, { on := 3, ground := .phase }, { on := 4, ground := .phase }, { on := 5, ground := .phase }, { on := 6, ground := .phase }, { on := 7, ground := .phase }], guard := none }) (v := ?_) rfl (by kernel_rfl) (by kernel_rfl) (by kernel_rfl) (fun _ _ _ h => h) (Or.inl ⟨by kernel_rfl, ?_⟩) (by assumption) ?_
    rotate_left
    ·intro w hSw; (try dsimp only at hSw); go_simp; try with_reducible rfl
    simp only [Act.put, List.setIfInBounds_toArray, List.set_cons_zero, List.set_cons_succ]
    refine wpAnyH_ready (rs := [10]) (by kernel_rfl) (by simp) ?_
    refine AllReadyH.cons (o := { dst := none, op := Op.store 71 (.tmp 14) (.tmp 12), type := 0, pos := "l06_path.go:43", after := #[{ on := 9, ground := .data }, { on := 7, ground := .data }, { on := 7, ground := .chain }, { on := 0, ground := .phase }, { on := 1, ground := .phase }, { on := 2, ground := .phase }, { on := 3, ground := .phase }, { on := 4, ground := .phase }, { on := 5, ground := .phase }, { on := 6, ground := .phase }, { on := 7, ground := .phase }], guard := none }) rfl (fun K hK => ?_) ?_
    ·go_simp
     refine hK.out _ _ (hsx4 _) (fun hHeld => ?_)
     clear hK K
     try simp only [Act.put, List.setIfInBounds_toArray, List.set_cons_zero, List.set_cons_succ]
     refine wpAnyH_done (by kernel_rfl) ?_ _
     clear hsx1 hsx2 hsx3 hsx4 hHeld
     go_wp2
     go_ret
     exact HEND.out _ g5 cap5 hgrow5 (hloc5.imp id (fun h => by simp at h; omega)) hg5 hown5
    exact AllReadyH.nil
   exact AllReadyH.nil
  exact AllReadyH.nil
 exact AllReadyH.nil
end Go.Proofs.YtbepmeipjdpipaaGreat
