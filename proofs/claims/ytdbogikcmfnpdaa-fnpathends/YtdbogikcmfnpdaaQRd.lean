/-
  The model's ReadPath.
-/
import Derived.Test.YtdbogikcmfnpdaaRpM
import Derived.Test.YtdbogikcmfnpdaaLay
import Derived.Deep.RegionHeldLaw
import Derived.Shelf.Small.Strs
import Derived.Test.YtdbogikcmfnpdaaProg
import Derived.Deep.DeepCutAuto
import Derived.Deep.CutBlock
/-
  The program's reader of a path: what lies behind its pointer, its next byte, a piece more.
-/
namespace Go.Proofs.Ytdbogikcmfnpdaa
open Go.RowKit

/-- as it was but for what is in use, and what is new -/
def Us (w : World) (U : Nat → Prop) (w' : World) (U' : Nat → Prop) : Prop := KeptP U w w' ∧ ∀ c, U' c → U c ∨ w.heap.size ≤ c
theorem Us.refl (w : World) (U : Nat → Prop) : Us w U w U := ⟨KeptP.refl _ _, fun _ h => .inl h⟩
theorem Us.trans {w w1 w2 : World} {U U1 U2 : Nat → Prop} (h : Us w U w1 U1) (h' : Us w1 U1 w2 U2) : Us w U w2 U2 :=
  ⟨⟨h'.1.os.trans h.1.os, h'.1.tape.trans h.1.tape, h'.1.output.trans h.1.output, Nat.le_trans h.1.size h'.1.size, fun k hk hn => by
    rw [h'.1.block k (Nat.lt_of_lt_of_le hk h.1.size) (fun hu => by
      rcases h.2 k hu with h2 | h2
      · exact hn h2
      · omega)]
    exact h.1.block k hk hn⟩, fun c hc => by
    rcases h'.2 c hc with h2 | h2
    · exact h.2 c h2
    · exact .inr (Nat.le_trans h.1.size h2)⟩
theorem Us.below {w w1 w2 : World} {U U1 : Nat → Prop} (h : Us w U w1 U1) (hb : Below w1.heap.size w1 w2) : Us w U w2 U1 :=
  ⟨h.1.trans (KeptP.of_below hb (fun _ hk _ => hk)), h.2⟩
theorem Us.first {w w1 w2 : World} {U U2 : Nat → Prop} (hb : Below w.heap.size w w1) (h : Us w1 U w2 U2) (_hU : ∀ c, U c → c < w.heap.size) : Us w U w2 U2 :=
  ⟨(KeptP.of_below hb (fun _ hk _ => hk)).trans h.1, fun c hc => (h.2 c hc).imp id (fun h2 => Nat.le_trans hb.size h2)⟩
/-- what a call widens the use by -/
theorem Us.weak {w w1 : World} {U V U1 : Nat → Prop} (h : Us w U w1 U1) (hV : ∀ c, U c → V c ∨ w.heap.size ≤ c) : Us w V w1 U1 :=
  ⟨⟨h.1.os, h.1.tape, h.1.output, h.1.size, fun k hk hn => h.1.block k hk (fun hu => by
    rcases hV k hu with h2 | h2
    · exact hn h2
    · omega)⟩, fun c hc => by
    rcases h.2 c hc with h2 | h2
    · exact hV c h2
    · exact .inr h2⟩
/-- the reader's own block beside what is in use -/
def pU (p : Nat) (U : Nat → Prop) : Nat → Prop := fun c => c = p ∨ U c
/-- the cells of the program's reader: text, place, pieces, whether it failed -/
abbrev rcI (s : ByteArray) (a : Nat) (v : Value) (f : Bool) : Nat → Value := fun i => if i = 0 then .string s else if i = 1 then .int .i64 (a : Int) else if i = 2 then v else .bool f
/-- the program's reader -/
def RI (B p : Nat) (s : ByteArray) (w : World) (a : Nat) (l : List Pc) (f : Bool) (U : Nat → Prop) : Prop :=
  ∃ v, Blk w p 4 (rcI s a v f) ∧ LaidO B w v l U ∧ ¬ U p
theorem RI.lt {B p a : Nat} {s : ByteArray} {w : World} {l : List Pc} {f : Bool} {U : Nat → Prop} (h : RI B p s w a l f U) : ∀ c, pU p U c → c < w.heap.size := by
  obtain ⟨v, h1, h2, _⟩ := h
  rintro c (rfl | hc)
  · exact h1.lt
  · exact (h2.lt hc).2
theorem RI.below {B p a : Nat} {s : ByteArray} {w w' : World} {l : List Pc} {f : Bool} {U : Nat → Prop} (h : RI B p s w a l f U) (hb : Below w.heap.size w w') : RI B p s w' a l f U := by
  obtain ⟨v, h1, h2, h3⟩ := h
  exact ⟨v, h1.of_block (hb.block _ h1.lt), h2.below hb, h3⟩
theorem RI.cells {B p a : Nat} {s : ByteArray} {w : World} {l : List Pc} {f : Bool} {U : Nat → Prop} (h : RI B p s w a l f U) : w.cell? ⟨p, 0, none⟩ = some (.string s) ∧ w.cell? ⟨p, 1, none⟩ = some (.int .i64 (a : Int)) ∧ w.cell? ⟨p, 3, none⟩ = some (.bool f) ∧ (∀ i, w.frozen? ⟨p, i, none⟩ = false) := by
  obtain ⟨v, h1, _, _⟩ := h
  exact ⟨h1.cell (i := 0) (by omega), h1.cell (i := 1) (by omega), h1.cell (i := 3) (by omega), fun i => h1.frozen i⟩
theorem us_set {w : World} {p i : Nat} {U : Nat → Prop} (v : Value) : Us w (pU p U) (w.setCell ⟨p, i, none⟩ v) (pU p U) := ⟨KeptP.setCell (p := pU p U) (KeptP.refl _ _) (.inl rfl) _, fun _ h => .inl h⟩
theorem laid_set {B p i : Nat} {w : World} {l : List Pc} {u : Value} {U : Nat → Prop} (h : LaidO B w u l U) (hp : ¬ U p) (v : Value) : LaidO B (w.setCell ⟨p, i, none⟩ v) u l U :=
  h.kept (p := fun c => c = p) (KeptP.setCell (p := fun c => c = p) (KeptP.refl _ _) rfl _) (fun c hc e => hp (by rw [← e]; exact hc))
/-- the place goes on -/
theorem RI.step {B p a : Nat} {s : ByteArray} {w : World} {l : List Pc} {f : Bool} {U : Nat → Prop} (h : RI B p s w a l f U) : RI B p s (w.setCell ⟨p, 1, none⟩ (.int .i64 ((a : Int) + 1))) (a + 1) l f U := by
  obtain ⟨v, h1, h2, h3⟩ := h
  refine ⟨v, (h1.set 1 (by omega) _).congr fun i hi => ?_, laid_set h2 h3 _, h3⟩
  rcases (show i = 0 ∨ i = 1 ∨ i = 2 ∨ i = 3 by omega) with rfl | rfl | rfl | rfl <;> simp [rcI]
theorem RI.fail {B p a : Nat} {s : ByteArray} {w : World} {l : List Pc} {f : Bool} {U : Nat → Prop} (h : RI B p s w a l f U) : RI B p s (w.setCell ⟨p, 3, none⟩ (.bool true)) a l true U := by
  obtain ⟨v, h1, h2, h3⟩ := h
  refine ⟨v, (h1.set 3 (by omega) _).congr fun i hi => ?_, laid_set h2 h3 _, h3⟩
  rcases (show i = 0 ∨ i = 1 ∨ i = 2 ∨ i = 3 by omega) with rfl | rfl | rfl | rfl <;> simp [rcI]

set_option maxHeartbeats 600000 in
theorem next_any (p : Nat) (s : ByteArray) (a : Nat) (x : Nat) (w : World) (ha : a ≤ 1048576) (c0 : w.cell? ⟨p, 0, none⟩ = some (.string s)) (c1 : w.cell? ⟨p, 1, none⟩ = some (.int .i64 (a : Int))) (hx : x = bt s a) :
    Calls Try.prog 62 #[.pointer (some ⟨p, 0, none⟩)] w fun e w' => e = .returned (.int .u8 (x : Int)) ∧ Hid (Below w.heap.size w w') := by
  have HX : Hid (x = bt s a) := hx
  clear hx
  by_cases h : a < s.size
  · have h1 : ¬ (a : Int) ≥ (s.size : Int) := by omega
    have h2 : (a : Int) < (s.size : Int) := by omega
    have h0 : (0 : Int) ≤ (a : Int) := by omega
    have HB : Hid (x = s[a].toNat) := by show _ = _; rw [HX.out, bt_lt h]
    go_enter Try.func62, Try.ntmps62
    go_wp2_with fail
    go_quiet (fail)
    go_wp2_with fail
    go_quiet (fail)
    go_wp2
    go_ret
    exact ⟨by rw [HB.out]; rfl, below_drewN (below_drewN (Below.refl _ _) _) _⟩
  · have h1 : (a : Int) ≥ (s.size : Int) := by omega
    have HB : Hid (x = 0) := by show _ = _; rw [HX.out, bt_end h]
    go_enter Try.func62, Try.ntmps62
    go_wp2_with fail
    go_quiet (fail)
    go_wp2
    go_ret
    exact ⟨by rw [HB.out]; rfl, below_drewN (Below.refl _ _) _⟩

theorem own_one (w : World) (B : Nat) (v : Value) (hb : B ≤ w.heap.size) : (w.alloc (.cells #[v] 3)).ownsRow B 3 1 (.slice (some ⟨w.heap.size, 0, none⟩) 1 1) 1 [v] :=
  ⟨rfl, .inr ⟨w.heap.size, 1, #[v], rfl, hb, heap_alloc_new w _, Nat.le_refl _, by unfold maxLen; omega, rfl, by simp⟩⟩
/-- a piece more, in mathematics -/
theorem laid_more {B p a g cap k : Nat} {s : ByteArray} {w W2 w6 : World} {l : List Pc} {f : Bool} {v : Value} {U : Nat → Prop} {x : Pc} {ra : Option Addr} {rc : Nat} {fl : Nat → Value} {R : Nat → Option Addr} {C : Nat → Nat}
    (hb : p < w.heap.size) (hU : ¬ U p) (hB : B ≤ w.heap.size) (hBW : Below w.heap.size w W2) (hp6 : Blk w6 p 4 (rcI s a v f))
    (h2 : ∀ c, v.ownBlock = some c → U c) (h3 : ∀ c, U c → B ≤ c ∧ c < W2.heap.size)
    (h4 : ∀ i, i < l.length → (fl (i * 3) = .int .i64 (pat l i).1 ∧ fl (i * 3 + 1) = .int .u8 (pat l i).2.1 ∧ fl (i * 3 + 2) = .slice (R i) (pat l i).2.2.length (C i)) ∧ RowOwn B W2.heap.size W2 (R i) (pat l i).2.2 ∧
      ((pat l i).2.2 ≠ [] → (∀ c, R i = some ⟨c, 0, none⟩ → U c ∧ v.ownBlock ≠ some c) ∧ ∀ j, j < i → (pat l j).2.2 ≠ [] → R j ≠ R i))
    (hk : l.length = k) (hr : RowOwn B W2.heap.size W2 ra x.2.2) (hn : x.2.2 ≠ [] → ∀ c, ra = some ⟨c, 0, none⟩ → ¬ pU p U c) (hg : W2.grownBy w6 v.ownBlock) (hloc : v.ownBlock = some g ∨ W2.heap.size ≤ g) (hgl : g < w6.heap.size)
    (ho : w6.ownsRow B 112 3 (.slice (some ⟨g, 0, none⟩) (k + 1) cap) (k + 1) ((List.range (k * 3)).map fl ++ [.int .i64 x.1, .int .u8 x.2.1, .slice ra x.2.2.length rc])) :
    ∃ U', (∃ v', Blk (w6.setCell ⟨p, 2, none⟩ (.slice (some ⟨g, 0, none⟩) (k + 1) cap)) p 4 (rcI s a v' f) ∧ LaidO B (w6.setCell ⟨p, 2, none⟩ (.slice (some ⟨g, 0, none⟩) (k + 1) cap)) v' (l ++ [x]) U' ∧ ¬ U' p) ∧ Us w (fun c => pU p U c ∨ ra = some ⟨c, 0, none⟩) (w6.setCell ⟨p, 2, none⟩ (.slice (some ⟨g, 0, none⟩) (k + 1) cap)) (pU p U') := by
  subst hk
  have hBg : B ≤ g := by
    rcases hloc with h | h
    · exact (h3 g (h2 g h)).1
    · have := hBW.size; omega
  have hL := LaidO.snoc (x := x) (ra := ra) (rc := rc) h2 h3 h4 hr (fun hne c hc hu => hn hne c hc (.inr hu)) hg hloc hgl hBg ho
  have hU' : ¬ (U p ∨ p = g ∨ (x.2.2 ≠ [] ∧ ra = some ⟨p, 0, none⟩)) := by
    rintro (h | h | ⟨h5, h6⟩)
    · exact hU h
    · subst h
      rcases hloc with h | h
      · exact hU (h2 _ h)
      · have := hBW.size; omega
    · exact hn h5 p h6 (.inl rfl)
  refine ⟨_, ⟨_, (hp6.set 2 (by omega) _).congr fun i hi => ?_, laid_set hL hU' _, hU'⟩, ⟨⟨?_, ?_, ?_, ?_, ?_⟩, ?_⟩⟩
  · rcases (show i = 0 ∨ i = 1 ∨ i = 2 ∨ i = 3 by omega) with rfl | rfl | rfl | rfl <;> simp [rcI]
  · exact (hg.os).trans hBW.os
  · exact (hg.tape).trans hBW.tape
  · exact (hg.output).trans hBW.output
  · have := hg.size; have := hBW.size; simp; omega
  · intro c hc hn2
    rw [Below.heap_setCell _ _ _ c (fun e => hn2 (.inl (.inl (by simpa using e))))]
    rw [hg.block c (by have := hBW.size; omega) (fun e => hn2 (.inl (.inr (h2 c e.symm))))]
    exact hBW.block c hc
  · rintro c (rfl | h | rfl | ⟨_, h⟩)
    · exact .inl (.inl (.inl rfl))
    · exact .inl (.inl (.inr h))
    · rcases hloc with h | h
      · exact .inl (.inl (.inr (h2 _ h)))
      · right; have := hBW.size; omega
    · exact .inl (.inr h)

set_option maxHeartbeats 2000000 in
set_option maxRecDepth 100000 in
theorem add_any (B p : Nat) (s : ByteArray) (a : Nat) (l : List Pc) (f : Bool) (U : Nat → Prop) (op y : Int) (ra : Option Addr) (q rc : Nat) (ks : List Int) (w : World) (hr : RI B p s w a l f U) (hB : B ≤ w.heap.size) (hl : l.length ≤ 1000)
    (hk : RowOwn B w.heap.size w ra ks) (hq : ks.length = q) (hn : ks ≠ [] → ∀ c, ra = some ⟨c, 0, none⟩ → ¬ pU p U c) :
    Calls Try.prog 83 #[.pointer (some ⟨p, 0, none⟩), .agg #[.int .i64 op, .int .u8 y, .slice ra q rc]] w fun e w' => e = .returned (.int .i64 (l.length : Int)) ∧ ∃ U', RI B p s w' a (l ++ [(op, y, ks)]) f U' ∧ Us w (fun c => pU p U c ∨ ra = some ⟨c, 0, none⟩) w' (pU p U') := by
  obtain ⟨v, hb, hL, hU⟩ := hr
  obtain ⟨i8, hi8, hz80, hz81, hz82⟩ := info_parts Try.info112
  obtain ⟨k, HKL⟩ : ∃ k, Hid (k = l.length) := ⟨_, rfl⟩
  rw [← HKL.out] at hl
  have HB0 : Hid (Blk w p 4 (rcI s a v f)) := hb
  have HL0 : Hid (LaidO B w v l U) := hL
  have HK : Hid (RowOwn B w.heap.size w ra ks) := hk
  have HQ : Hid (ks.length = q) := hq
  have HN : Hid (ks ≠ [] → ∀ c, ra = some ⟨c, 0, none⟩ → ¬ pU p U c) := hn
  have HUP : Hid (¬ U p) := hU
  obtain ⟨W, HW⟩ : ∃ W, Hid (W = w.alloc (.cells #[.int .i64 op, .int .u8 y, .slice ra q rc] 112)) := ⟨_, rfl⟩
  obtain ⟨E, HE⟩ : ∃ E, Hid (E = w.heap.size) := ⟨_, rfl⟩
  have HBW : Hid (Below w.heap.size w W) := by rw [HW.out]; exact below1 _ _
  have HBX : Hid (Blk W E 3 (fun i => if i = 0 then .int .i64 op else if i = 1 then .int .u8 y else .slice ra q rc)) := by rw [HW.out]; exact blk_three w E HE.out _ _ _ _
  have HBP : Hid (Blk W p 4 (rcI s a v f)) := hb.of_block (HBW.out.block _ hb.lt)
  obtain ⟨q0, q1, q2⟩ := blk_three_set HBX.out
  have r2 : W.cell? ⟨p, 2, none⟩ = some v := HBP.out.cell (i := 2) (by omega)
  have hPE : p < E := by rw [HE.out]; exact hb.lt
  have hWE : W.heap.size = E + 1 := by rw [HW.out, HE.out]; simp
  have hBE : B ≤ E := by rw [HE.out]; exact hB
  have HLW : Hid (LaidO B W v l U) := hL.below HBW.out
  clear hb hL hk hq hn hU
  obtain ⟨N, HNN⟩ : ∃ o : Obj, Hid (o = .cells #[.int .i64 op, .int .u8 y, .slice ra q rc] 112) := ⟨_, rfl⟩
  have HBN : Hid (Below W.heap.size W (W.alloc N)) := below1 _ _
  obtain ⟨fl, R, C, h1, h2, h3, h4⟩ := (HLW.out.below HBN.out)
  rw [← HKL.out] at h1
  have HSX : Hid (∀ wx, Below W.heap.size W wx → wx.cell? ⟨p, 2, none⟩ = some v ∧ wx.cell? ⟨E, 0, none⟩ = some (.int .i64 op) ∧ wx.cell? ⟨E, 1, none⟩ = some (.int .u8 y) ∧ wx.cell? ⟨E, 2, none⟩ = some (.slice ra q rc)) := fun wx h =>
    ⟨cell_below r2 h (lt_of_cell r2), cell_below q0 h (lt_of_cell q0), cell_below q1 h (lt_of_cell q1), cell_below q2 h (lt_of_cell q2)⟩
  have hsx1 := HSX.out W (Below.refl _ _)
  have hsx2 := HSX.out (W.alloc N) HBN.out
  rw [HNN.out] at hsx2 h1
  go_enter Try.func83, Try.ntmps83
  go_upto_region 1 with fail
  rw [← HE.out, ← HW.out]
  have HGB : Hid (∀ w6, ((W.alloc (.cells #[.int .i64 op, .int .u8 y, .slice ra q rc] 112)).drew).grownBy w6 v.ownBlock → Blk w6 p 4 (rcI s a v f) ∧ (w6.cell? ⟨p, 2, none⟩ = some v ∧ w6.cell? ⟨E, 0, none⟩ = some (.int .i64 op) ∧ w6.cell? ⟨E, 1, none⟩ = some (.int .u8 y) ∧ w6.cell? ⟨E, 2, none⟩ = some (.slice ra q rc))) := by
    intro w6 h
    have hUl : ∀ c, U c → c < E := fun c hc => by rw [HE.out]; exact (HL0.out.lt hc).2
    have hb1 : w6.heap[p]? = W.heap[p]? := by
      rw [h.block p (by simp; omega) (fun e => HUP.out (h2 p e.symm))]
      exact Below.heap_alloc W _ p (by omega)
    have hb2 : w6.heap[E]? = W.heap[E]? := by
      rw [h.block E (by simp; omega) (fun e => by have := hUl E (h2 E e.symm); omega)]
      exact Below.heap_alloc W _ E (by omega)
    have k1 := HBP.out.of_block hb1
    obtain ⟨j0, j1, j2⟩ := blk_three_set (HBX.out.of_block hb2)
    exact ⟨k1, k1.cell (i := 2) (by omega), j0, j1, j2⟩
  have H2 : Hid (∀ c, v.ownBlock = some c → U c) := h2
  have H3 : Hid (∀ c, U c → B ≤ c ∧ c < (W.alloc N).heap.size) := h3
  have H4 : Hid (∀ i, i < l.length → (fl (i * 3) = .int .i64 (pat l i).1 ∧ fl (i * 3 + 1) = .int .u8 (pat l i).2.1 ∧ fl (i * 3 + 2) = .slice (R i) (pat l i).2.2.length (C i)) ∧ RowOwn B (W.alloc N).heap.size (W.alloc N) (R i) (pat l i).2.2 ∧
      ((pat l i).2.2 ≠ [] → (∀ c, R i = some ⟨c, 0, none⟩ → U c ∧ v.ownBlock ≠ some c) ∧ ∀ j, j < i → (pat l j).2.2 ≠ [] → R j ≠ R i)) := h4
  have r2' := hsx2.1
  have hsx1 := hsx1.2
  have hsx2 := hsx2.2
  have hne : E ≠ p := by omega
  clear h2 h3 h4 q0 q1 q2
  have HNW : Hid (∀ j u, ([.int .i64 op, .int .u8 y, .slice ra q rc] : List Value)[j]? = some u → (W.alloc (.cells #[.int .i64 op, .int .u8 y, .slice ra q rc] 112)).cell? ((⟨E + 1, 0, none⟩ : Addr).add j) = some u) := by
    have := news_pc W (.int .i64 op) (.int .u8 y) (.slice ra q rc) 112
    rw [hWE] at this
    exact this
  have HEND : Hid (∀ (w6 : World) (g5 cap5 : Nat), ((W.alloc (.cells #[.int .i64 op, .int .u8 y, .slice ra q rc] 112)).drew).grownBy w6 v.ownBlock → (v.ownBlock = some g5 ∨ g5 = E + 2) → g5 < w6.heap.size → w6.ownsRow B 112 3 (.slice (some ⟨g5, 0, none⟩) (k + 1) cap5) (k + 1) ((List.range (k * 3)).map fl ++ [.int .i64 op, .int .u8 y, .slice ra q rc]) →
      (Ending.returned (.int .i64 (k : Int)) = .returned (.int .i64 (l.length : Int)) ∧ ∃ U', RI B p s (w6.setCell ⟨p, 2, none⟩ (.slice (some ⟨g5, 0, none⟩) (k + 1) cap5)) a (l ++ [(op, y, ks)]) f U' ∧ Us w (fun c => pU p U c ∨ ra = some ⟨c, 0, none⟩) (w6.setCell ⟨p, 2, none⟩ (.slice (some ⟨g5, 0, none⟩) (k + 1) cap5)) (pU p U'))) := by
    intro w6 g5 cap5 hg hloc hgl ho
    refine ⟨by rw [HKL.out], ?_⟩
    have hBW2 : Below w.heap.size w (W.alloc N) := HBW.out.trans (HBN.out.mono HBW.out.size)
    have hg2 : (W.alloc N).grownBy w6 v.ownBlock := by rw [HNN.out]; exact ⟨hg.os, hg.tape, hg.output, hg.size, hg.block⟩
    obtain ⟨U', ⟨v', e1, e2, e3⟩, e4⟩ := laid_more (x := (op, y, ks)) (ra := ra) (rc := rc) (g := g5) (cap := cap5) HB0.out.lt HUP.out hB hBW2 (HGB.out w6 hg).1 H2.out H3.out H4.out HKL.out.symm (HK.out.below hBW2 (Nat.le_refl _) |>.wide (Nat.le_refl _) hBW2.size) HN.out hg2 (hloc.imp id (fun h => by simp; omega)) hgl (by dsimp only; rw [HQ.out]; exact ho)
    exact ⟨U', ⟨v', e1, e2, e3⟩, e4⟩
  refine wp_region_held_drew (S := fun w' => w'.cell? ⟨E, 0, none⟩ = some (.int .i64 op) ∧ w'.cell? ⟨E, 1, none⟩ = some (.int .u8 y) ∧ w'.cell? ⟨E, 2, none⟩ = some (.slice ra q rc)) (by kernel_rfl) hsx1 (fun hHeld => ?_)
  refine wpAnyH_take (i := 0) (oi := { dst := some 5, op := Go.Op.move (Go.Operand.tmp 0), type := 108, pos := "l06_path.go:233", after := #[], guard := none }) (v := ?_) rfl (by kernel_rfl) (by kernel_rfl) (by kernel_rfl) (fun _ _ _ h => h) (Or.inl ⟨by kernel_rfl, ?_⟩) (by assumption) ?_
  rotate_left
  · intro w hSw; (try dsimp only at hSw); go_simp; try with_reducible rfl
  simp only [Act.put, List.setIfInBounds_toArray, List.set_cons_zero, List.set_cons_succ]
  refine wpAnyH_take (i := 1) (oi := { dst := some 6, op := Go.Op.move (Go.Operand.tmp 0), type := 108, pos := "l06_path.go:233", after := #[], guard := none }) (v := ?_) rfl (by kernel_rfl) (by kernel_rfl) (by kernel_rfl) (fun _ _ _ h => h) (Or.inl ⟨by kernel_rfl, ?_⟩) (by assumption) ?_
  rotate_left
  · intro w hSw; (try dsimp only at hSw); go_simp; try with_reducible rfl
  simp only [Act.put, List.setIfInBounds_toArray, List.set_cons_zero, List.set_cons_succ]
  refine wpAnyH_take (i := 2) (oi := { dst := some 7, op := Go.Op.nilCheck (Go.Operand.tmp 6), type := 0, pos := "l06_path.go:233", after := #[{ on := 1, ground := Go.Ground.data }], guard := none }) (v := ?_) rfl (by kernel_rfl) (by kernel_rfl) (by kernel_rfl) (fun _ _ _ h => h) (Or.inl ⟨by kernel_rfl, ?_⟩) (by assumption) ?_
  rotate_left
  · intro w hSw; (try dsimp only at hSw); go_simp; try with_reducible rfl
  simp only [Act.put, List.setIfInBounds_toArray, List.set_cons_zero, List.set_cons_succ]
  refine wpAnyH_take (i := 3) (oi := { dst := some 8, op := Go.Op.fieldAddr 70 (Go.Operand.tmp 7) 2, type := 0, pos := "l06_path.go:233", after := #[{ on := 2, ground := Go.Ground.data }], guard := none }) (v := ?_) rfl (by kernel_rfl) (by kernel_rfl) (by kernel_rfl) (fun _ _ _ h => h) (Or.inl ⟨by kernel_rfl, ?_⟩) (by assumption) ?_
  rotate_left
  · intro w hSw; (try dsimp only at hSw); go_simp; try with_reducible rfl
  simp only [Act.put, List.setIfInBounds_toArray, List.set_cons_zero, List.set_cons_succ]
  refine wpAnyH_take (i := 5) (oi := { dst := some 10, op := Go.Op.load 112 (Go.Operand.tmp 3), type := 112, pos := "l06_path.go:233", after := #[], guard := none }) (v := ?_) rfl (by kernel_rfl) (by kernel_rfl) (by kernel_rfl) (fun _ _ _ h => h) (Or.inl ⟨by kernel_rfl, ?_⟩) (by assumption) ?_
  rotate_left
  · intro w hSw; (try dsimp only at hSw); go_simp; try with_reducible rfl
  simp only [Act.put, List.setIfInBounds_toArray, List.set_cons_zero, List.set_cons_succ]
  refine wpAnyH_ready (rs := [4, 6]) (by kernel_rfl) (by simp) ?_
  refine AllReadyH.cons (o := { dst := some 9, op := Go.Op.load 34 (Go.Operand.tmp 8), type := 34, pos := "l06_path.go:233", after := #[{ on := 3, ground := Go.Ground.data }], guard := none }) rfl (fun K hK => ?_) ?_
  · go_simp
    refine hK.out _ _ hHeld (fun hHeld => ?_)
    clear hK K
    try simp only [Act.put, List.setIfInBounds_toArray, List.set_cons_zero, List.set_cons_succ]
    refine wpAnyH_ready (rs := [6]) (by kernel_rfl) (by simp) ?_
    refine AllReadyH.cons (o := { dst := some 11, op := Go.Op.buildSlice 34 1 #[(0, Go.Operand.tmp 10)], type := 34, pos := "l06_path.go:233", after := #[{ on := 5, ground := Go.Ground.data }], guard := none }) rfl (fun K hK => ?_) ?_
    · go_simp
      refine hK.out _ _ hsx2 (fun hHeld => ?_)
      clear hK K
      try simp only [Act.put, List.setIfInBounds_toArray, List.set_cons_zero, List.set_cons_succ]
      refine wpAnyH_ready (rs := [7]) (by kernel_rfl) (by simp) ?_
      refine AllReadyH.cons (o := { dst := some 12, op := Go.Op.call { callee := Go.Callee.builtin Go.Builtin.append, args := #[Go.Operand.tmp 9, Go.Operand.tmp 11], argTypes := #[34, 34] }, type := 34, pos := "l06_path.go:233", after := #[{ on := 4, ground := Go.Ground.data }, { on := 6, ground := Go.Ground.data }], guard := none }) rfl (fun K hK => ?_) ?_
      · refine step_append_lies _ rfl (.tmp 9) (.tmp 11) 34 rfl B 112 i8 _ 3 40 Try.underlying34 hi8 hz80 hz81 hz82 rfl (by decide) _ k ((List.range (k * 3)).map fl) rfl (by exact h1.drew) ⟨E + 1, 0, none⟩ 1 1 [.int .i64 op, .int .u8 y, .slice ra q rc] rfl rfl (by exact HNW.out) (by simp [Value.oneCell']) (by decide) (by unfold maxLen; omega) (by omega) (by simp; omega) _ rfl ?_; intro g5 cap5 w6 hown5 hgrow5 hloc5 hg5; have hk6 := HGB.out w6 hgrow5; have hsx3 := hk6.2.2; have hc6 := hk6.2.1; have hsx4 := fun (u : Value) => And.intro (cell_set (c := p) (j := 2) hsx3.1 u hne) (And.intro (cell_set (c := p) (j := 2) hsx3.2.1 u hne) (cell_set (c := p) (j := 2) hsx3.2.2 u hne)); have hf6 := hk6.1.frozen 2
        refine hK.out _ _ hsx3 (fun hHeld => ?_)
        clear hK K
        try simp only [Act.put, List.setIfInBounds_toArray, List.set_cons_zero, List.set_cons_succ]
        refine wpAnyH_take (i := 8) (oi := { dst := some 13, op := Go.Op.nilCheck (Go.Operand.tmp 5), type := 0, pos := "l06_path.go:233", after := #[{ on := 0, ground := Go.Ground.data }, { on := 0, ground := Go.Ground.phase }, { on := 1, ground := Go.Ground.phase }, { on := 2, ground := Go.Ground.phase }, { on := 3, ground := Go.Ground.phase }, { on := 4, ground := Go.Ground.phase }, { on := 5, ground := Go.Ground.phase }, { on := 6, ground := Go.Ground.phase }, { on := 7, ground := Go.Ground.phase }], guard := none }) (v := ?_) rfl (by kernel_rfl) (by kernel_rfl) (by kernel_rfl) (fun _ _ _ h => h) (Or.inl ⟨by kernel_rfl, ?_⟩) (by assumption) ?_
        rotate_left
        · intro w hSw; (try dsimp only at hSw); go_simp; try with_reducible rfl
        simp only [Act.put, List.setIfInBounds_toArray, List.set_cons_zero, List.set_cons_succ]
        refine wpAnyH_take (i := 9) (oi := { dst := some 14, op := Go.Op.fieldAddr 70 (Go.Operand.tmp 13) 2, type := 0, pos := "l06_path.go:233", after := #[{ on := 8, ground := Go.Ground.data }, { on := 0, ground := Go.Ground.phase }, { on := 1, ground := Go.Ground.phase }, { on := 2, ground := Go.Ground.phase }, { on := 3, ground := Go.Ground.phase }, { on := 4, ground := Go.Ground.phase }, { on := 5, ground := Go.Ground.phase }, { on := 6, ground := Go.Ground.phase }, { on := 7, ground := Go.Ground.phase }], guard := none }) (v := ?_) rfl (by kernel_rfl) (by kernel_rfl) (by kernel_rfl) (fun _ _ _ h => h) (Or.inl ⟨by kernel_rfl, ?_⟩) (by assumption) ?_
        rotate_left
        · intro w hSw; (try dsimp only at hSw); go_simp; try with_reducible rfl
        simp only [Act.put, List.setIfInBounds_toArray, List.set_cons_zero, List.set_cons_succ]
        refine wpAnyH_ready (rs := [10]) (by kernel_rfl) (by simp) ?_
        refine AllReadyH.cons (o := { dst := none, op := Go.Op.store 34 (Go.Operand.tmp 14) (Go.Operand.tmp 12), type := 0, pos := "l06_path.go:233", after := #[{ on := 9, ground := Go.Ground.data }, { on := 7, ground := Go.Ground.data }, { on := 7, ground := Go.Ground.chain }, { on := 0, ground := Go.Ground.phase }, { on := 1, ground := Go.Ground.phase }, { on := 2, ground := Go.Ground.phase }, { on := 3, ground := Go.Ground.phase }, { on := 4, ground := Go.Ground.phase }, { on := 5, ground := Go.Ground.phase }, { on := 6, ground := Go.Ground.phase }, { on := 7, ground := Go.Ground.phase }], guard := none }) rfl (fun K hK => ?_) ?_
        · go_simp
          refine hK.out _ _ (hsx4 _) (fun hHeld => ?_)
          clear hK K
          try simp only [Act.put, List.setIfInBounds_toArray, List.set_cons_zero, List.set_cons_succ]
          refine wpAnyH_done (by kernel_rfl) ?_ _
          clear hsx1 hsx2 hsx3 hsx4 hHeld
          go_wp2
          go_ret
          exact HEND.out _ g5 cap5 hgrow5 (hloc5.imp id (fun h => by simp at h; omega)) hg5 hown5
        exact AllReadyH.nil
      exact AllReadyH.nil
    exact AllReadyH.nil
  refine AllReadyH.cons (o := { dst := some 11, op := Go.Op.buildSlice 34 1 #[(0, Go.Operand.tmp 10)], type := 34, pos := "l06_path.go:233", after := #[{ on := 5, ground := Go.Ground.data }], guard := none }) rfl (fun K hK => ?_) ?_
  · go_simp
    refine hK.out _ _ hsx2 (fun hHeld => ?_)
    clear hK K
    try simp only [Act.put, List.setIfInBounds_toArray, List.set_cons_zero, List.set_cons_succ]
    refine wpAnyH_ready (rs := [4]) (by kernel_rfl) (by simp) ?_
    refine AllReadyH.cons (o := { dst := some 9, op := Go.Op.load 34 (Go.Operand.tmp 8), type := 34, pos := "l06_path.go:233", after := #[{ on := 3, ground := Go.Ground.data }], guard := none }) rfl (fun K hK => ?_) ?_
    · go_simp
      refine hK.out _ _ hHeld (fun hHeld => ?_)
      clear hK K
      try simp only [Act.put, List.setIfInBounds_toArray, List.set_cons_zero, List.set_cons_succ]
      refine wpAnyH_ready (rs := [7]) (by kernel_rfl) (by simp) ?_
      refine AllReadyH.cons (o := { dst := some 12, op := Go.Op.call { callee := Go.Callee.builtin Go.Builtin.append, args := #[Go.Operand.tmp 9, Go.Operand.tmp 11], argTypes := #[34, 34] }, type := 34, pos := "l06_path.go:233", after := #[{ on := 4, ground := Go.Ground.data }, { on := 6, ground := Go.Ground.data }], guard := none }) rfl (fun K hK => ?_) ?_
      · refine step_append_lies _ rfl (.tmp 9) (.tmp 11) 34 rfl B 112 i8 _ 3 40 Try.underlying34 hi8 hz80 hz81 hz82 rfl (by decide) _ k ((List.range (k * 3)).map fl) rfl (by exact h1.drew) ⟨E + 1, 0, none⟩ 1 1 [.int .i64 op, .int .u8 y, .slice ra q rc] rfl rfl (by exact HNW.out) (by simp [Value.oneCell']) (by decide) (by unfold maxLen; omega) (by omega) (by simp; omega) _ rfl ?_; intro g5 cap5 w6 hown5 hgrow5 hloc5 hg5; have hk6 := HGB.out w6 hgrow5; have hsx3 := hk6.2.2; have hc6 := hk6.2.1; have hsx4 := fun (u : Value) => And.intro (cell_set (c := p) (j := 2) hsx3.1 u hne) (And.intro (cell_set (c := p) (j := 2) hsx3.2.1 u hne) (cell_set (c := p) (j := 2) hsx3.2.2 u hne)); have hf6 := hk6.1.frozen 2
        refine hK.out _ _ hsx3 (fun hHeld => ?_)
        clear hK K
        try simp only [Act.put, List.setIfInBounds_toArray, List.set_cons_zero, List.set_cons_succ]
        refine wpAnyH_take (i := 8) (oi := { dst := some 13, op := Go.Op.nilCheck (Go.Operand.tmp 5), type := 0, pos := "l06_path.go:233", after := #[{ on := 0, ground := Go.Ground.data }, { on := 0, ground := Go.Ground.phase }, { on := 1, ground := Go.Ground.phase }, { on := 2, ground := Go.Ground.phase }, { on := 3, ground := Go.Ground.phase }, { on := 4, ground := Go.Ground.phase }, { on := 5, ground := Go.Ground.phase }, { on := 6, ground := Go.Ground.phase }, { on := 7, ground := Go.Ground.phase }], guard := none }) (v := ?_) rfl (by kernel_rfl) (by kernel_rfl) (by kernel_rfl) (fun _ _ _ h => h) (Or.inl ⟨by kernel_rfl, ?_⟩) (by assumption) ?_
        rotate_left
        · intro w hSw; (try dsimp only at hSw); go_simp; try with_reducible rfl
        simp only [Act.put, List.setIfInBounds_toArray, List.set_cons_zero, List.set_cons_succ]
        refine wpAnyH_take (i := 9) (oi := { dst := some 14, op := Go.Op.fieldAddr 70 (Go.Operand.tmp 13) 2, type := 0, pos := "l06_path.go:233", after := #[{ on := 8, ground := Go.Ground.data }, { on := 0, ground := Go.Ground.phase }, { on := 1, ground := Go.Ground.phase }, { on := 2, ground := Go.Ground.phase }, { on := 3, ground := Go.Ground.phase }, { on := 4, ground := Go.Ground.phase }, { on := 5, ground := Go.Ground.phase }, { on := 6, ground := Go.Ground.phase }, { on := 7, ground := Go.Ground.phase }], guard := none }) (v := ?_) rfl (by kernel_rfl) (by kernel_rfl) (by kernel_rfl) (fun _ _ _ h => h) (Or.inl ⟨by kernel_rfl, ?_⟩) (by assumption) ?_
        rotate_left
        · intro w hSw; (try dsimp only at hSw); go_simp; try with_reducible rfl
        simp only [Act.put, List.setIfInBounds_toArray, List.set_cons_zero, List.set_cons_succ]
        refine wpAnyH_ready (rs := [10]) (by kernel_rfl) (by simp) ?_
        refine AllReadyH.cons (o := { dst := none, op := Go.Op.store 34 (Go.Operand.tmp 14) (Go.Operand.tmp 12), type := 0, pos := "l06_path.go:233", after := #[{ on := 9, ground := Go.Ground.data }, { on := 7, ground := Go.Ground.data }, { on := 7, ground := Go.Ground.chain }, { on := 0, ground := Go.Ground.phase }, { on := 1, ground := Go.Ground.phase }, { on := 2, ground := Go.Ground.phase }, { on := 3, ground := Go.Ground.phase }, { on := 4, ground := Go.Ground.phase }, { on := 5, ground := Go.Ground.phase }, { on := 6, ground := Go.Ground.phase }, { on := 7, ground := Go.Ground.phase }], guard := none }) rfl (fun K hK => ?_) ?_
        · go_simp
          refine hK.out _ _ (hsx4 _) (fun hHeld => ?_)
          clear hK K
          try simp only [Act.put, List.setIfInBounds_toArray, List.set_cons_zero, List.set_cons_succ]
          refine wpAnyH_done (by kernel_rfl) ?_ _
          clear hsx1 hsx2 hsx3 hsx4 hHeld
          go_wp2
          go_ret
          exact HEND.out _ g5 cap5 hgrow5 (hloc5.imp id (fun h => by simp at h; omega)) hg5 hown5
        exact AllReadyH.nil
      exact AllReadyH.nil
    exact AllReadyH.nil
  exact AllReadyH.nil
end Go.Proofs.Ytdbogikcmfnpdaa

/-
  The model's reader of a path: what lies behind its pointer, a piece more.
-/
namespace Go.Proofs.Ytdbogikcmfnpdaa
open Go.RowKit

/-- the cells of the model's reader: text, place, whether it failed, pieces -/
abbrev rcS (s : ByteArray) (a : Nat) (v : Value) (f : Bool) : Nat → Value := fun i => if i = 0 then .string s else if i = 1 then .int .i64 (a : Int) else if i = 2 then .bool f else v
/-- the model's reader -/
def RS (B p : Nat) (s : ByteArray) (w : World) (a : Nat) (l : List Pc) (f : Bool) (U : Nat → Prop) : Prop :=
  ∃ v, Blk w p 4 (rcS s a v f) ∧ LaidO B w v l U ∧ ¬ U p
theorem RS.lt {B p a : Nat} {s : ByteArray} {w : World} {l : List Pc} {f : Bool} {U : Nat → Prop} (h : RS B p s w a l f U) : ∀ c, pU p U c → c < w.heap.size := by
  obtain ⟨v, h1, h2, _⟩ := h
  rintro c (rfl | hc)
  · exact h1.lt
  · exact (h2.lt hc).2
theorem RS.below {B p a : Nat} {s : ByteArray} {w w' : World} {l : List Pc} {f : Bool} {U : Nat → Prop} (h : RS B p s w a l f U) (hb : Below w.heap.size w w') : RS B p s w' a l f U := by
  obtain ⟨v, h1, h2, h3⟩ := h
  exact ⟨v, h1.of_block (hb.block _ h1.lt), h2.below hb, h3⟩
theorem RS.cells {B p a : Nat} {s : ByteArray} {w : World} {l : List Pc} {f : Bool} {U : Nat → Prop} (h : RS B p s w a l f U) : w.cell? ⟨p, 0, none⟩ = some (.string s) ∧ w.cell? ⟨p, 1, none⟩ = some (.int .i64 (a : Int)) ∧ w.cell? ⟨p, 2, none⟩ = some (.bool f) ∧ (∀ i, w.frozen? ⟨p, i, none⟩ = false) := by
  obtain ⟨v, h1, _, _⟩ := h
  exact ⟨h1.cell (i := 0) (by omega), h1.cell (i := 1) (by omega), h1.cell (i := 2) (by omega), fun i => h1.frozen i⟩
/-- the place goes on -/
theorem RS.step {B p a : Nat} {s : ByteArray} {w : World} {l : List Pc} {f : Bool} {U : Nat → Prop} (h : RS B p s w a l f U) : RS B p s (w.setCell ⟨p, 1, none⟩ (.int .i64 ((a : Int) + 1))) (a + 1) l f U := by
  obtain ⟨v, h1, h2, h3⟩ := h
  refine ⟨v, (h1.set 1 (by omega) _).congr fun i hi => ?_, laid_set h2 h3 _, h3⟩
  rcases (show i = 0 ∨ i = 1 ∨ i = 2 ∨ i = 3 by omega) with rfl | rfl | rfl | rfl <;> simp [rcS]
theorem RS.fail {B p a : Nat} {s : ByteArray} {w : World} {l : List Pc} {f : Bool} {U : Nat → Prop} (h : RS B p s w a l f U) : RS B p s (w.setCell ⟨p, 2, none⟩ (.bool true)) a l true U := by
  obtain ⟨v, h1, h2, h3⟩ := h
  refine ⟨v, (h1.set 2 (by omega) _).congr fun i hi => ?_, laid_set h2 h3 _, h3⟩
  rcases (show i = 0 ∨ i = 1 ∨ i = 2 ∨ i = 3 by omega) with rfl | rfl | rfl | rfl <;> simp [rcS]

/-- a piece more, in mathematics -/
theorem laid_moreS {B p a g cap k : Nat} {s : ByteArray} {w W2 w6 : World} {l : List Pc} {f : Bool} {v : Value} {U : Nat → Prop} {x : Pc} {ra : Option Addr} {rc : Nat} {fl : Nat → Value} {R : Nat → Option Addr} {C : Nat → Nat}
    (hb : p < w.heap.size) (hU : ¬ U p) (hB : B ≤ w.heap.size) (hBW : Below w.heap.size w W2) (hp6 : Blk w6 p 4 (rcS s a v f))
    (h2 : ∀ c, v.ownBlock = some c → U c) (h3 : ∀ c, U c → B ≤ c ∧ c < W2.heap.size)
    (h4 : ∀ i, i < l.length → (fl (i * 3) = .int .i64 (pat l i).1 ∧ fl (i * 3 + 1) = .int .u8 (pat l i).2.1 ∧ fl (i * 3 + 2) = .slice (R i) (pat l i).2.2.length (C i)) ∧ RowOwn B W2.heap.size W2 (R i) (pat l i).2.2 ∧
      ((pat l i).2.2 ≠ [] → (∀ c, R i = some ⟨c, 0, none⟩ → U c ∧ v.ownBlock ≠ some c) ∧ ∀ j, j < i → (pat l j).2.2 ≠ [] → R j ≠ R i))
    (hk : l.length = k) (hr : RowOwn B W2.heap.size W2 ra x.2.2) (hn : x.2.2 ≠ [] → ∀ c, ra = some ⟨c, 0, none⟩ → ¬ pU p U c) (hg : W2.grownBy w6 v.ownBlock) (hloc : v.ownBlock = some g ∨ W2.heap.size ≤ g) (hgl : g < w6.heap.size)
    (ho : w6.ownsRow B 112 3 (.slice (some ⟨g, 0, none⟩) (k + 1) cap) (k + 1) ((List.range (k * 3)).map fl ++ [.int .i64 x.1, .int .u8 x.2.1, .slice ra x.2.2.length rc])) :
    ∃ U', (∃ v', Blk (w6.setCell ⟨p, 3, none⟩ (.slice (some ⟨g, 0, none⟩) (k + 1) cap)) p 4 (rcS s a v' f) ∧ LaidO B (w6.setCell ⟨p, 3, none⟩ (.slice (some ⟨g, 0, none⟩) (k + 1) cap)) v' (l ++ [x]) U' ∧ ¬ U' p) ∧ Us w (fun c => pU p U c ∨ ra = some ⟨c, 0, none⟩) (w6.setCell ⟨p, 3, none⟩ (.slice (some ⟨g, 0, none⟩) (k + 1) cap)) (pU p U') := by
  subst hk
  have hBg : B ≤ g := by
    rcases hloc with h | h
    · exact (h3 g (h2 g h)).1
    · have := hBW.size; omega
  have hL := LaidO.snoc (x := x) (ra := ra) (rc := rc) h2 h3 h4 hr (fun hne c hc hu => hn hne c hc (.inr hu)) hg hloc hgl hBg ho
  have hU' : ¬ (U p ∨ p = g ∨ (x.2.2 ≠ [] ∧ ra = some ⟨p, 0, none⟩)) := by
    rintro (h | h | ⟨h5, h6⟩)
    · exact hU h
    · subst h
      rcases hloc with h | h
      · exact hU (h2 _ h)
      · have := hBW.size; omega
    · exact hn h5 p h6 (.inl rfl)
  refine ⟨_, ⟨_, (hp6.set 3 (by omega) _).congr fun i hi => ?_, laid_set hL hU' _, hU'⟩, ⟨⟨?_, ?_, ?_, ?_, ?_⟩, ?_⟩⟩
  · rcases (show i = 0 ∨ i = 1 ∨ i = 2 ∨ i = 3 by omega) with rfl | rfl | rfl | rfl <;> simp [rcS]
  · exact (hg.os).trans hBW.os
  · exact (hg.tape).trans hBW.tape
  · exact (hg.output).trans hBW.output
  · have := hg.size; have := hBW.size; simp; omega
  · intro c hc hn2
    rw [Below.heap_setCell _ _ _ c (fun e => hn2 (.inl (.inl (by simpa using e))))]
    rw [hg.block c (by have := hBW.size; omega) (fun e => hn2 (.inl (.inr (h2 c e.symm))))]
    exact hBW.block c hc
  · rintro c (rfl | h | rfl | ⟨_, h⟩)
    · exact .inl (.inl (.inl rfl))
    · exact .inl (.inl (.inr h))
    · rcases hloc with h | h
      · exact .inl (.inl (.inr (h2 _ h)))
      · right; have := hBW.size; omega
    · exact .inl (.inr h)

set_option maxHeartbeats 2000000 in
set_option maxRecDepth 100000 in
theorem put_any (B p : Nat) (s : ByteArray) (a : Nat) (l : List Pc) (f : Bool) (U : Nat → Prop) (op y : Int) (ra : Option Addr) (q rc : Nat) (ks : List Int) (w : World) (hr : RS B p s w a l f U) (hB : B ≤ w.heap.size) (hl : l.length ≤ 1000)
    (hk : RowOwn B w.heap.size w ra ks) (hq : ks.length = q) (hn : ks ≠ [] → ∀ c, ra = some ⟨c, 0, none⟩ → ¬ pU p U c) :
    Calls Try.prog 80 #[.pointer (some ⟨p, 0, none⟩), .agg #[.int .i64 op, .int .u8 y, .slice ra q rc]] w fun e w' => e = .returned (.int .i64 (l.length : Int)) ∧ ∃ U', RS B p s w' a (l ++ [(op, y, ks)]) f U' ∧ Us w (fun c => pU p U c ∨ ra = some ⟨c, 0, none⟩) w' (pU p U') := by
  obtain ⟨v, hb, hL, hU⟩ := hr
  obtain ⟨i8, hi8, hz80, hz81, hz82⟩ := info_parts Try.info112
  obtain ⟨k, HKL⟩ : ∃ k, Hid (k = l.length) := ⟨_, rfl⟩
  rw [← HKL.out] at hl
  have HB0 : Hid (Blk w p 4 (rcS s a v f)) := hb
  have HL0 : Hid (LaidO B w v l U) := hL
  have HK : Hid (RowOwn B w.heap.size w ra ks) := hk
  have HQ : Hid (ks.length = q) := hq
  have HN : Hid (ks ≠ [] → ∀ c, ra = some ⟨c, 0, none⟩ → ¬ pU p U c) := hn
  have HUP : Hid (¬ U p) := hU
  obtain ⟨W, HW⟩ : ∃ W, Hid (W = w.alloc (.cells #[.int .i64 op, .int .u8 y, .slice ra q rc] 112)) := ⟨_, rfl⟩
  obtain ⟨E, HE⟩ : ∃ E, Hid (E = w.heap.size) := ⟨_, rfl⟩
  have HBW : Hid (Below w.heap.size w W) := by rw [HW.out]; exact below1 _ _
  have HBX : Hid (Blk W E 3 (fun i => if i = 0 then .int .i64 op else if i = 1 then .int .u8 y else .slice ra q rc)) := by rw [HW.out]; exact blk_three w E HE.out _ _ _ _
  have HBP : Hid (Blk W p 4 (rcS s a v f)) := hb.of_block (HBW.out.block _ hb.lt)
  obtain ⟨q0, q1, q2⟩ := blk_three_set HBX.out
  have r2 : W.cell? ⟨p, 3, none⟩ = some v := HBP.out.cell (i := 3) (by omega)
  have hPE : p < E := by rw [HE.out]; exact hb.lt
  have hWE : W.heap.size = E + 1 := by rw [HW.out, HE.out]; simp
  have hBE : B ≤ E := by rw [HE.out]; exact hB
  have HLW : Hid (LaidO B W v l U) := hL.below HBW.out
  clear hb hL hk hq hn hU
  obtain ⟨N, HNN⟩ : ∃ o : Obj, Hid (o = .cells #[.int .i64 op, .int .u8 y, .slice ra q rc] 112) := ⟨_, rfl⟩
  have HBN : Hid (Below W.heap.size W (W.alloc N)) := below1 _ _
  obtain ⟨fl, R, C, h1, h2, h3, h4⟩ := (HLW.out.below HBN.out)
  rw [← HKL.out] at h1
  have HSX : Hid (∀ wx, Below W.heap.size W wx → wx.cell? ⟨p, 3, none⟩ = some v ∧ wx.cell? ⟨E, 0, none⟩ = some (.int .i64 op) ∧ wx.cell? ⟨E, 1, none⟩ = some (.int .u8 y) ∧ wx.cell? ⟨E, 2, none⟩ = some (.slice ra q rc)) := fun wx h =>
    ⟨cell_below r2 h (lt_of_cell r2), cell_below q0 h (lt_of_cell q0), cell_below q1 h (lt_of_cell q1), cell_below q2 h (lt_of_cell q2)⟩
  have hsx1 := HSX.out W (Below.refl _ _)
  have hsx2 := HSX.out (W.alloc N) HBN.out
  rw [HNN.out] at hsx2 h1
  go_enter Try.func80, Try.ntmps80
  go_upto_region 1 with fail
  rw [← HE.out, ← HW.out]
  have HGB : Hid (∀ w6, ((W.alloc (.cells #[.int .i64 op, .int .u8 y, .slice ra q rc] 112)).drew).grownBy w6 v.ownBlock → Blk w6 p 4 (rcS s a v f) ∧ (w6.cell? ⟨p, 3, none⟩ = some v ∧ w6.cell? ⟨E, 0, none⟩ = some (.int .i64 op) ∧ w6.cell? ⟨E, 1, none⟩ = some (.int .u8 y) ∧ w6.cell? ⟨E, 2, none⟩ = some (.slice ra q rc))) := by
    intro w6 h
    have hUl : ∀ c, U c → c < E := fun c hc => by rw [HE.out]; exact (HL0.out.lt hc).2
    have hb1 : w6.heap[p]? = W.heap[p]? := by
      rw [h.block p (by simp; omega) (fun e => HUP.out (h2 p e.symm))]
      exact Below.heap_alloc W _ p (by omega)
    have hb2 : w6.heap[E]? = W.heap[E]? := by
      rw [h.block E (by simp; omega) (fun e => by have := hUl E (h2 E e.symm); omega)]
      exact Below.heap_alloc W _ E (by omega)
    have k1 := HBP.out.of_block hb1
    obtain ⟨j0, j1, j2⟩ := blk_three_set (HBX.out.of_block hb2)
    exact ⟨k1, k1.cell (i := 3) (by omega), j0, j1, j2⟩
  have H2 : Hid (∀ c, v.ownBlock = some c → U c) := h2
  have H3 : Hid (∀ c, U c → B ≤ c ∧ c < (W.alloc N).heap.size) := h3
  have H4 : Hid (∀ i, i < l.length → (fl (i * 3) = .int .i64 (pat l i).1 ∧ fl (i * 3 + 1) = .int .u8 (pat l i).2.1 ∧ fl (i * 3 + 2) = .slice (R i) (pat l i).2.2.length (C i)) ∧ RowOwn B (W.alloc N).heap.size (W.alloc N) (R i) (pat l i).2.2 ∧
      ((pat l i).2.2 ≠ [] → (∀ c, R i = some ⟨c, 0, none⟩ → U c ∧ v.ownBlock ≠ some c) ∧ ∀ j, j < i → (pat l j).2.2 ≠ [] → R j ≠ R i)) := h4
  have r2' := hsx2.1
  have hsx1 := hsx1.2
  have hsx2 := hsx2.2
  have hne : E ≠ p := by omega
  clear h2 h3 h4 q0 q1 q2
  have HNW : Hid (∀ j u, ([.int .i64 op, .int .u8 y, .slice ra q rc] : List Value)[j]? = some u → (W.alloc (.cells #[.int .i64 op, .int .u8 y, .slice ra q rc] 112)).cell? ((⟨E + 1, 0, none⟩ : Addr).add j) = some u) := by
    have := news_pc W (.int .i64 op) (.int .u8 y) (.slice ra q rc) 112
    rw [hWE] at this
    exact this
  have HEND : Hid (∀ (w6 : World) (g5 cap5 : Nat), ((W.alloc (.cells #[.int .i64 op, .int .u8 y, .slice ra q rc] 112)).drew).grownBy w6 v.ownBlock → (v.ownBlock = some g5 ∨ g5 = E + 2) → g5 < w6.heap.size → w6.ownsRow B 112 3 (.slice (some ⟨g5, 0, none⟩) (k + 1) cap5) (k + 1) ((List.range (k * 3)).map fl ++ [.int .i64 op, .int .u8 y, .slice ra q rc]) →
      (Ending.returned (.int .i64 (k : Int)) = .returned (.int .i64 (l.length : Int)) ∧ ∃ U', RS B p s (w6.setCell ⟨p, 3, none⟩ (.slice (some ⟨g5, 0, none⟩) (k + 1) cap5)) a (l ++ [(op, y, ks)]) f U' ∧ Us w (fun c => pU p U c ∨ ra = some ⟨c, 0, none⟩) (w6.setCell ⟨p, 3, none⟩ (.slice (some ⟨g5, 0, none⟩) (k + 1) cap5)) (pU p U'))) := by
    intro w6 g5 cap5 hg hloc hgl ho
    refine ⟨by rw [HKL.out], ?_⟩
    have hBW2 : Below w.heap.size w (W.alloc N) := HBW.out.trans (HBN.out.mono HBW.out.size)
    have hg2 : (W.alloc N).grownBy w6 v.ownBlock := by rw [HNN.out]; exact ⟨hg.os, hg.tape, hg.output, hg.size, hg.block⟩
    obtain ⟨U', ⟨v', e1, e2, e3⟩, e4⟩ := laid_moreS (x := (op, y, ks)) (ra := ra) (rc := rc) (g := g5) (cap := cap5) HB0.out.lt HUP.out hB hBW2 (HGB.out w6 hg).1 H2.out H3.out H4.out HKL.out.symm (HK.out.below hBW2 (Nat.le_refl _) |>.wide (Nat.le_refl _) hBW2.size) HN.out hg2 (hloc.imp id (fun h => by simp; omega)) hgl (by dsimp only; rw [HQ.out]; exact ho)
    exact ⟨U', ⟨v', e1, e2, e3⟩, e4⟩
  refine wp_region_held_drew (S := fun w' => w'.cell? ⟨E, 0, none⟩ = some (.int .i64 op) ∧ w'.cell? ⟨E, 1, none⟩ = some (.int .u8 y) ∧ w'.cell? ⟨E, 2, none⟩ = some (.slice ra q rc)) (by kernel_rfl) hsx1 (fun hHeld => ?_)
  refine wpAnyH_take (i := 0) (oi := { dst := some 5, op := Go.Op.move (Go.Operand.tmp 0), type := 105, pos := "l06_path.go:43", after := #[], guard := none }) (v := ?_) rfl (by kernel_rfl) (by kernel_rfl) (by kernel_rfl) (fun _ _ _ h => h) (Or.inl ⟨by kernel_rfl, ?_⟩) (by assumption) ?_
  rotate_left
  · intro w hSw; (try dsimp only at hSw); go_simp; try with_reducible rfl
  simp only [Act.put, List.setIfInBounds_toArray, List.set_cons_zero, List.set_cons_succ]
  refine wpAnyH_take (i := 1) (oi := { dst := some 6, op := Go.Op.move (Go.Operand.tmp 0), type := 105, pos := "l06_path.go:43", after := #[], guard := none }) (v := ?_) rfl (by kernel_rfl) (by kernel_rfl) (by kernel_rfl) (fun _ _ _ h => h) (Or.inl ⟨by kernel_rfl, ?_⟩) (by assumption) ?_
  rotate_left
  · intro w hSw; (try dsimp only at hSw); go_simp; try with_reducible rfl
  simp only [Act.put, List.setIfInBounds_toArray, List.set_cons_zero, List.set_cons_succ]
  refine wpAnyH_take (i := 2) (oi := { dst := some 7, op := Go.Op.nilCheck (Go.Operand.tmp 6), type := 0, pos := "l06_path.go:43", after := #[{ on := 1, ground := Go.Ground.data }], guard := none }) (v := ?_) rfl (by kernel_rfl) (by kernel_rfl) (by kernel_rfl) (fun _ _ _ h => h) (Or.inl ⟨by kernel_rfl, ?_⟩) (by assumption) ?_
  rotate_left
  · intro w hSw; (try dsimp only at hSw); go_simp; try with_reducible rfl
  simp only [Act.put, List.setIfInBounds_toArray, List.set_cons_zero, List.set_cons_succ]
  refine wpAnyH_take (i := 3) (oi := { dst := some 8, op := Go.Op.fieldAddr 107 (Go.Operand.tmp 7) 3, type := 0, pos := "l06_path.go:43", after := #[{ on := 2, ground := Go.Ground.data }], guard := none }) (v := ?_) rfl (by kernel_rfl) (by kernel_rfl) (by kernel_rfl) (fun _ _ _ h => h) (Or.inl ⟨by kernel_rfl, ?_⟩) (by assumption) ?_
  rotate_left
  · intro w hSw; (try dsimp only at hSw); go_simp; try with_reducible rfl
  simp only [Act.put, List.setIfInBounds_toArray, List.set_cons_zero, List.set_cons_succ]
  refine wpAnyH_take (i := 5) (oi := { dst := some 10, op := Go.Op.load 112 (Go.Operand.tmp 3), type := 112, pos := "l06_path.go:43", after := #[], guard := none }) (v := ?_) rfl (by kernel_rfl) (by kernel_rfl) (by kernel_rfl) (fun _ _ _ h => h) (Or.inl ⟨by kernel_rfl, ?_⟩) (by assumption) ?_
  rotate_left
  · intro w hSw; (try dsimp only at hSw); go_simp; try with_reducible rfl
  simp only [Act.put, List.setIfInBounds_toArray, List.set_cons_zero, List.set_cons_succ]
  refine wpAnyH_ready (rs := [4, 6]) (by kernel_rfl) (by simp) ?_
  refine AllReadyH.cons (o := { dst := some 9, op := Go.Op.load 34 (Go.Operand.tmp 8), type := 34, pos := "l06_path.go:43", after := #[{ on := 3, ground := Go.Ground.data }], guard := none }) rfl (fun K hK => ?_) ?_
  · go_simp
    refine hK.out _ _ hHeld (fun hHeld => ?_)
    clear hK K
    try simp only [Act.put, List.setIfInBounds_toArray, List.set_cons_zero, List.set_cons_succ]
    refine wpAnyH_ready (rs := [6]) (by kernel_rfl) (by simp) ?_
    refine AllReadyH.cons (o := { dst := some 11, op := Go.Op.buildSlice 34 1 #[(0, Go.Operand.tmp 10)], type := 34, pos := "l06_path.go:43", after := #[{ on := 5, ground := Go.Ground.data }], guard := none }) rfl (fun K hK => ?_) ?_
    · go_simp
      refine hK.out _ _ hsx2 (fun hHeld => ?_)
      clear hK K
      try simp only [Act.put, List.setIfInBounds_toArray, List.set_cons_zero, List.set_cons_succ]
      refine wpAnyH_ready (rs := [7]) (by kernel_rfl) (by simp) ?_
      refine AllReadyH.cons (o := { dst := some 12, op := Go.Op.call { callee := Go.Callee.builtin Go.Builtin.append, args := #[Go.Operand.tmp 9, Go.Operand.tmp 11], argTypes := #[34, 34] }, type := 34, pos := "l06_path.go:43", after := #[{ on := 4, ground := Go.Ground.data }, { on := 6, ground := Go.Ground.data }], guard := none }) rfl (fun K hK => ?_) ?_
      · refine step_append_lies _ rfl (.tmp 9) (.tmp 11) 34 rfl B 112 i8 _ 3 40 Try.underlying34 hi8 hz80 hz81 hz82 rfl (by decide) _ k ((List.range (k * 3)).map fl) rfl (by exact h1.drew) ⟨E + 1, 0, none⟩ 1 1 [.int .i64 op, .int .u8 y, .slice ra q rc] rfl rfl (by exact HNW.out) (by simp [Value.oneCell']) (by decide) (by unfold maxLen; omega) (by omega) (by simp; omega) _ rfl ?_; intro g5 cap5 w6 hown5 hgrow5 hloc5 hg5; have hk6 := HGB.out w6 hgrow5; have hsx3 := hk6.2.2; have hc6 := hk6.2.1; have hsx4 := fun (u : Value) => And.intro (cell_set (c := p) (j := 3) hsx3.1 u hne) (And.intro (cell_set (c := p) (j := 3) hsx3.2.1 u hne) (cell_set (c := p) (j := 3) hsx3.2.2 u hne)); have hf6 := hk6.1.frozen 3
        refine hK.out _ _ hsx3 (fun hHeld => ?_)
        clear hK K
        try simp only [Act.put, List.setIfInBounds_toArray, List.set_cons_zero, List.set_cons_succ]
        refine wpAnyH_take (i := 8) (oi := { dst := some 13, op := Go.Op.nilCheck (Go.Operand.tmp 5), type := 0, pos := "l06_path.go:43", after := #[{ on := 0, ground := Go.Ground.data }, { on := 0, ground := Go.Ground.phase }, { on := 1, ground := Go.Ground.phase }, { on := 2, ground := Go.Ground.phase }, { on := 3, ground := Go.Ground.phase }, { on := 4, ground := Go.Ground.phase }, { on := 5, ground := Go.Ground.phase }, { on := 6, ground := Go.Ground.phase }, { on := 7, ground := Go.Ground.phase }], guard := none }) (v := ?_) rfl (by kernel_rfl) (by kernel_rfl) (by kernel_rfl) (fun _ _ _ h => h) (Or.inl ⟨by kernel_rfl, ?_⟩) (by assumption) ?_
        rotate_left
        · intro w hSw; (try dsimp only at hSw); go_simp; try with_reducible rfl
        simp only [Act.put, List.setIfInBounds_toArray, List.set_cons_zero, List.set_cons_succ]
        refine wpAnyH_take (i := 9) (oi := { dst := some 14, op := Go.Op.fieldAddr 107 (Go.Operand.tmp 13) 3, type := 0, pos := "l06_path.go:43", after := #[{ on := 8, ground := Go.Ground.data }, { on := 0, ground := Go.Ground.phase }, { on := 1, ground := Go.Ground.phase }, { on := 2, ground := Go.Ground.phase }, { on := 3, ground := Go.Ground.phase }, { on := 4, ground := Go.Ground.phase }, { on := 5, ground := Go.Ground.phase }, { on := 6, ground := Go.Ground.phase }, { on := 7, ground := Go.Ground.phase }], guard := none }) (v := ?_) rfl (by kernel_rfl) (by kernel_rfl) (by kernel_rfl) (fun _ _ _ h => h) (Or.inl ⟨by kernel_rfl, ?_⟩) (by assumption) ?_
        rotate_left
        · intro w hSw; (try dsimp only at hSw); go_simp; try with_reducible rfl
        simp only [Act.put, List.setIfInBounds_toArray, List.set_cons_zero, List.set_cons_succ]
        refine wpAnyH_ready (rs := [10]) (by kernel_rfl) (by simp) ?_
        refine AllReadyH.cons (o := { dst := none, op := Go.Op.store 34 (Go.Operand.tmp 14) (Go.Operand.tmp 12), type := 0, pos := "l06_path.go:43", after := #[{ on := 9, ground := Go.Ground.data }, { on := 7, ground := Go.Ground.data }, { on := 7, ground := Go.Ground.chain }, { on := 0, ground := Go.Ground.phase }, { on := 1, ground := Go.Ground.phase }, { on := 2, ground := Go.Ground.phase }, { on := 3, ground := Go.Ground.phase }, { on := 4, ground := Go.Ground.phase }, { on := 5, ground := Go.Ground.phase }, { on := 6, ground := Go.Ground.phase }, { on := 7, ground := Go.Ground.phase }], guard := none }) rfl (fun K hK => ?_) ?_
        · go_simp
          refine hK.out _ _ (hsx4 _) (fun hHeld => ?_)
          clear hK K
          try simp only [Act.put, List.setIfInBounds_toArray, List.set_cons_zero, List.set_cons_succ]
          refine wpAnyH_done (by kernel_rfl) ?_ _
          clear hsx1 hsx2 hsx3 hsx4 hHeld
          go_wp2
          go_ret
          exact HEND.out _ g5 cap5 hgrow5 (hloc5.imp id (fun h => by simp at h; omega)) hg5 hown5
        exact AllReadyH.nil
      exact AllReadyH.nil
    exact AllReadyH.nil
  refine AllReadyH.cons (o := { dst := some 11, op := Go.Op.buildSlice 34 1 #[(0, Go.Operand.tmp 10)], type := 34, pos := "l06_path.go:43", after := #[{ on := 5, ground := Go.Ground.data }], guard := none }) rfl (fun K hK => ?_) ?_
  · go_simp
    refine hK.out _ _ hsx2 (fun hHeld => ?_)
    clear hK K
    try simp only [Act.put, List.setIfInBounds_toArray, List.set_cons_zero, List.set_cons_succ]
    refine wpAnyH_ready (rs := [4]) (by kernel_rfl) (by simp) ?_
    refine AllReadyH.cons (o := { dst := some 9, op := Go.Op.load 34 (Go.Operand.tmp 8), type := 34, pos := "l06_path.go:43", after := #[{ on := 3, ground := Go.Ground.data }], guard := none }) rfl (fun K hK => ?_) ?_
    · go_simp
      refine hK.out _ _ hHeld (fun hHeld => ?_)
      clear hK K
      try simp only [Act.put, List.setIfInBounds_toArray, List.set_cons_zero, List.set_cons_succ]
      refine wpAnyH_ready (rs := [7]) (by kernel_rfl) (by simp) ?_
      refine AllReadyH.cons (o := { dst := some 12, op := Go.Op.call { callee := Go.Callee.builtin Go.Builtin.append, args := #[Go.Operand.tmp 9, Go.Operand.tmp 11], argTypes := #[34, 34] }, type := 34, pos := "l06_path.go:43", after := #[{ on := 4, ground := Go.Ground.data }, { on := 6, ground := Go.Ground.data }], guard := none }) rfl (fun K hK => ?_) ?_
      · refine step_append_lies _ rfl (.tmp 9) (.tmp 11) 34 rfl B 112 i8 _ 3 40 Try.underlying34 hi8 hz80 hz81 hz82 rfl (by decide) _ k ((List.range (k * 3)).map fl) rfl (by exact h1.drew) ⟨E + 1, 0, none⟩ 1 1 [.int .i64 op, .int .u8 y, .slice ra q rc] rfl rfl (by exact HNW.out) (by simp [Value.oneCell']) (by decide) (by unfold maxLen; omega) (by omega) (by simp; omega) _ rfl ?_; intro g5 cap5 w6 hown5 hgrow5 hloc5 hg5; have hk6 := HGB.out w6 hgrow5; have hsx3 := hk6.2.2; have hc6 := hk6.2.1; have hsx4 := fun (u : Value) => And.intro (cell_set (c := p) (j := 3) hsx3.1 u hne) (And.intro (cell_set (c := p) (j := 3) hsx3.2.1 u hne) (cell_set (c := p) (j := 3) hsx3.2.2 u hne)); have hf6 := hk6.1.frozen 3
        refine hK.out _ _ hsx3 (fun hHeld => ?_)
        clear hK K
        try simp only [Act.put, List.setIfInBounds_toArray, List.set_cons_zero, List.set_cons_succ]
        refine wpAnyH_take (i := 8) (oi := { dst := some 13, op := Go.Op.nilCheck (Go.Operand.tmp 5), type := 0, pos := "l06_path.go:43", after := #[{ on := 0, ground := Go.Ground.data }, { on := 0, ground := Go.Ground.phase }, { on := 1, ground := Go.Ground.phase }, { on := 2, ground := Go.Ground.phase }, { on := 3, ground := Go.Ground.phase }, { on := 4, ground := Go.Ground.phase }, { on := 5, ground := Go.Ground.phase }, { on := 6, ground := Go.Ground.phase }, { on := 7, ground := Go.Ground.phase }], guard := none }) (v := ?_) rfl (by kernel_rfl) (by kernel_rfl) (by kernel_rfl) (fun _ _ _ h => h) (Or.inl ⟨by kernel_rfl, ?_⟩) (by assumption) ?_
        rotate_left
        · intro w hSw; (try dsimp only at hSw); go_simp; try with_reducible rfl
        simp only [Act.put, List.setIfInBounds_toArray, List.set_cons_zero, List.set_cons_succ]
        refine wpAnyH_take (i := 9) (oi := { dst := some 14, op := Go.Op.fieldAddr 107 (Go.Operand.tmp 13) 3, type := 0, pos := "l06_path.go:43", after := #[{ on := 8, ground := Go.Ground.data }, { on := 0, ground := Go.Ground.phase }, { on := 1, ground := Go.Ground.phase }, { on := 2, ground := Go.Ground.phase }, { on := 3, ground := Go.Ground.phase }, { on := 4, ground := Go.Ground.phase }, { on := 5, ground := Go.Ground.phase }, { on := 6, ground := Go.Ground.phase }, { on := 7, ground := Go.Ground.phase }], guard := none }) (v := ?_) rfl (by kernel_rfl) (by kernel_rfl) (by kernel_rfl) (fun _ _ _ h => h) (Or.inl ⟨by kernel_rfl, ?_⟩) (by assumption) ?_
        rotate_left
        · intro w hSw; (try dsimp only at hSw); go_simp; try with_reducible rfl
        simp only [Act.put, List.setIfInBounds_toArray, List.set_cons_zero, List.set_cons_succ]
        refine wpAnyH_ready (rs := [10]) (by kernel_rfl) (by simp) ?_
        refine AllReadyH.cons (o := { dst := none, op := Go.Op.store 34 (Go.Operand.tmp 14) (Go.Operand.tmp 12), type := 0, pos := "l06_path.go:43", after := #[{ on := 9, ground := Go.Ground.data }, { on := 7, ground := Go.Ground.data }, { on := 7, ground := Go.Ground.chain }, { on := 0, ground := Go.Ground.phase }, { on := 1, ground := Go.Ground.phase }, { on := 2, ground := Go.Ground.phase }, { on := 3, ground := Go.Ground.phase }, { on := 4, ground := Go.Ground.phase }, { on := 5, ground := Go.Ground.phase }, { on := 6, ground := Go.Ground.phase }, { on := 7, ground := Go.Ground.phase }], guard := none }) rfl (fun K hK => ?_) ?_
        · go_simp
          refine hK.out _ _ (hsx4 _) (fun hHeld => ?_)
          clear hK K
          try simp only [Act.put, List.setIfInBounds_toArray, List.set_cons_zero, List.set_cons_succ]
          refine wpAnyH_done (by kernel_rfl) ?_ _
          clear hsx1 hsx2 hsx3 hsx4 hHeld
          go_wp2
          go_ret
          exact HEND.out _ g5 cap5 hgrow5 (hloc5.imp id (fun h => by simp at h; omega)) hg5 hown5
        exact AllReadyH.nil
      exact AllReadyH.nil
    exact AllReadyH.nil
  exact AllReadyH.nil
end Go.Proofs.Ytdbogikcmfnpdaa

/-
  Laid off the shelf at this translation: strings.IndexByte.
-/
namespace Go.Proofs.Ytdbogikcmfnpdaa
open Go.Shelf
def Try.lays137_ren : Go.Shelf.Ren := ⟨fun | 137 => 93 | 217 => 101 | 266 => 107 | n => n, fun | 9 => 9 | 5 => 5 | 3 => 3 | n => n, fun | n => n⟩
theorem Try.lays137 : Go.Proofs.Lays.n137 Try.prog Try.lays137_ren := {
  mixed := by kernel_rfl
  f137 := Try.func93.trans (congrArg some (by kernel_rfl))
  f217 := Try.func101.trans (congrArg some (by kernel_rfl))
  f266 := Try.func107.trans (congrArg some (by kernel_rfl))
  t3 := Try.underlying3
  a3 := Try.isAgg3
  z3 := Try.sizeOf3
  v3 := Try.zeroValue3
  t5 := Try.underlying5
  a5 := Try.isAgg5
  z5 := Try.sizeOf5
  v5 := Try.zeroValue5
  t9 := Try.underlying9
  a9 := Try.isAgg9
  z9 := Try.sizeOf9
  v9 := Try.zeroValue9 }
open Go.RowKit in
theorem Try.strings_IndexByte (s : ByteArray) (c : Int) (w : World) :
    Calls Try.prog 93 #[.string s, .int .u8 c] w fun e w' => e = .returned (.int .i64 (Lib.indexByte s.data.toList c.toNat.toUInt8)) ∧ w' = w := Any.strings_IndexByte Try.lays137 s c w
end Go.Proofs.Ytdbogikcmfnpdaa

/-
  The program's reader of a path: a list of kids made a piece; one step or brackets; with its signs.
-/
namespace Go.Proofs.Ytdbogikcmfnpdaa
open Go.RowKit

set_option maxHeartbeats 1000000 in
set_option maxRecDepth 100000 in
theorem addAll_any (B p : Nat) (s : ByteArray) (a : Nat) (l : List Pc) (f : Bool) (U : Nat → Prop) (op : Int) (kv : Value) (n : Nat) (ks : List Int) (w : World) (hr : RI B p s w a l f U) (hB : B ≤ w.heap.size) (hl : l.length ≤ 1000)
    (hk : w.ownsRow B 3 1 kv n (rowCells ks)) (hn : ks.length = n) (h1 : 1 ≤ n) (hne : ∀ c, kv.ownBlock = some c → ¬ pU p U c) :
    Calls Try.prog 63 #[.pointer (some ⟨p, 0, none⟩), .int .i64 op, kv] w fun e w' => ∃ (k : Int) (l' : List Pc) (U' : Nat → Prop), e = .returned (.int .i64 k) ∧ Hid (closeP op (a, l, ks) = (a, l', k)) ∧ Hid (RI B p s w' a l' f U') ∧ Hid (Us w (fun c => pU p U c ∨ kv.ownBlock = some c) w' (pU p U')) ∧ Hid (l'.length ≤ l.length + 1 ∧ (n = 1 → l' = l)) := by
  have HR : Hid (RI B p s w a l f U) := hr
  obtain ⟨ra, rc, rfl, HK0⟩ := rowOwn_of hk hn
  have HK : Hid (RowOwn B w.heap.size w ra ks) := HK0
  have HN : Hid (ks.length = n) := hn
  have HNE : Hid (∀ c, (Value.slice ra n rc).ownBlock = some c → ¬ pU p U c) := hne
  clear hr hk hn hne HK0
  by_cases h : n = 1
  · subst h
    obtain ⟨b, o, rfl, hc⟩ := HK.out.toIn.num (i := 0) (by rw [HN.out]; omega)
    obtain ⟨k, HKK⟩ : ∃ k, Hid (k = ks.getD 0 0) := ⟨_, rfl⟩
    rw [← HKK.out, Nat.add_zero] at hc
    go_enter Try.func63, Try.ntmps63
    go_wp2
    go_ret
    exact ⟨k, l, U, rfl, by show _ = _; unfold closeP; rw [if_pos HN.out, ← HKK.out], HR, ⟨KeptP.refl _ _, fun c hc => .inl (.inl hc)⟩, by show _ ∧ _; exact ⟨by omega, fun _ => rfl⟩⟩
  · have hne1 : ¬ (n : Int) = 1 := by omega
    have hdec : decide ((n : Int) = 1) = false := by simp; omega
    go_enter Try.func63, Try.ntmps63
    go_wp2_with fail
    refine (add_any B p s a l f U op 0 ra n rc ks w HR.out hB hl HK.out HN.out (fun h c hc hu => HNE.out c (by rw [hc]; rfl) hu)).mono ?_
    rintro e w1 ⟨rfl, U', h1, h2⟩
    have H1 : Hid (RI B p s w1 a (l ++ [(op, 0, ks)]) f U') := h1
    have H2 : Hid (Us w (fun c => pU p U c ∨ ra = some ⟨c, 0, none⟩) w1 (pU p U')) := h2
    clear h1 h2
    go_wp2
    go_ret
    refine ⟨_, _, U', rfl, by show _ = _; unfold closeP; rw [if_neg (by dsimp only; rw [HN.out]; exact h)], H1, H2.out.weak (fun c hc => ?_), by show _ ∧ _; exact ⟨by simp, fun e => absurd e h⟩⟩
    rcases hc with hc | hc
    · exact .inl (.inl hc)
    · exact .inl (.inr (by rw [hc]; rfl))

/-- what is told behind a call of the reader: it failed, or it has read what the mathematics does -/
def APost (N B p : Nat) (s : ByteArray) (w : World) (a : Nat) (l : List Pc) (f : Bool) (U : Nat → Prop) (P : Option St) (e : Ending) (w' : World) : Prop :=
  ∃ (k : Int) (a' : Nat) (l' : List Pc) (f' : Bool) (U' : Nat → Prop), e = .returned (.int .i64 k) ∧ Hid (RI B p s w' a' l' f' U') ∧ Hid (Us w (pU p U) w' (pU p U')) ∧
    Hid ((f' = true ∧ (f = true ∨ P = none)) ∨ (f = false ∧ f' = false ∧ P = some (a', l', k))) ∧ Hid (a ≤ a' ∧ a' ≤ 2 * N - a ∧ l'.length ≤ l.length + 3 * (a' - a))
/-- and it has gone on -/
def OPost (N B p : Nat) (s : ByteArray) (w : World) (a : Nat) (l : List Pc) (f : Bool) (U : Nat → Prop) (P : Option St) (e : Ending) (w' : World) : Prop :=
  ∃ (k : Int) (a' : Nat) (l' : List Pc) (f' : Bool) (U' : Nat → Prop), e = .returned (.int .i64 k) ∧ Hid (RI B p s w' a' l' f' U') ∧ Hid (Us w (pU p U) w' (pU p U')) ∧
    Hid ((f' = true ∧ (f = true ∨ P = none)) ∨ (f = false ∧ f' = false ∧ P = some (a', l', k))) ∧ Hid (a ≤ a' ∧ a' ≤ 2 * N - a ∧ l'.length ≤ l.length + 3 * (a' - a) ∧ ((isLab (bt s a) || decide (bt s a = 40)) = true → a < a' ∧ l'.length + 2 ≤ l.length + 3 * (a' - a)))
def AltOK (s : ByteArray) (d : Nat) : Prop := ∀ (B p a : Nat) (l : List Pc) (f : Bool) (U : Nat → Prop) (w : World), RI B p s w a l f U → B ≤ w.heap.size → l.length + 3 * (2 * s.size - a) ≤ 200 → a ≤ s.size → s.size ≤ a + d →
  Calls Try.prog 40 #[.pointer (some ⟨p, 0, none⟩)] w fun e w' => APost s.size B p s w a l f U (altP (bt s) s.size (d + 1) a l) e w'

set_option maxHeartbeats 2000000 in
set_option maxRecDepth 100000 in
theorem single_any (s : ByteArray) (d : Nat) (hd : ∀ d', d = d' + 1 → AltOK s d') (hs : s.size ≤ 20) (B p a : Nat) (l : List Pc) (f : Bool) (U : Nat → Prop) (w : World) (hr : RI B p s w a l f U) (hB : B ≤ w.heap.size) (hl : l.length + 3 * (2 * s.size - a) ≤ 200) (ha : a ≤ s.size) (had : s.size ≤ a + d) :
    Calls Try.prog 92 #[.pointer (some ⟨p, 0, none⟩)] w fun e w' => OPost s.size B p s w a l f U (sglP (bt s) (altP (bt s) s.size d) a l) e w' := by
  have HR : Hid (RI B p s w a l f U) := hr
  have HD : Hid (∀ d', d = d' + 1 → AltOK s d') := hd
  obtain ⟨P, HP⟩ : ∃ P, Hid (P = sglP (bt s) (altP (bt s) s.size d) a l) := ⟨_, rfl⟩
  rw [← HP.out]
  obtain ⟨x, HX⟩ : ∃ x, Hid (x = bt s a) := ⟨_, rfl⟩
  obtain ⟨r, HRL⟩ : ∃ r, Hid (r = isL (x : Int)) := ⟨_, rfl⟩
  obtain ⟨c0, c1, _, _⟩ := hr.cells
  clear hr hd
  go_enter Try.func92, Try.ntmps92
  go_wp2_with fail
  refine (next_any p s a x w (by omega) c0 c1 HX.out).mono ?_
  rintro e w1 ⟨rfl, HB1⟩
  have HR1 : Hid (RI B p s w1 a l f U) := HR.out.below HB1.out
  have hB1 : B ≤ w1.heap.size := Nat.le_trans hB HB1.out.size
  have HU1 : Hid (Us w (pU p U) w1 (pU p U)) := (Us.refl _ _).below HB1.out
  go_wp2_with fail
  refine (isLabel_any (x : Int) r w1 HRL.out).mono ?_
  rintro e w2 ⟨rfl, rfl⟩
  clear c0 c1
  obtain ⟨c0, c1, c3, cf⟩ := HR1.out.cells
  have fz1 := cf 1
  have fz3 := cf 3
  rcases Bool.eq_false_or_eq_true r with hr | hr
  · subst hr
    have HL : Hid (isLab (bt s a) = true) := by show isL _ = true; rw [← HX.out, ← HRL.out]
    have hin : a < s.size := bt_in (isLab_0 HL.out).1
    have HR2 : Hid (RI B p s (w1.setCell ⟨p, 1, none⟩ (.int .i64 ((a : Int) + 1))) (a + 1) l f U) := HR1.out.step
    have HU2 : Hid (Us w (pU p U) (w1.setCell ⟨p, 1, none⟩ (.int .i64 ((a : Int) + 1))) (pU p U)) := HU1.out.trans (us_set _)
    go_wp2_with fail
    refine (add_any B p s (a + 1) l f U 1 (x : Int) none 0 0 [] _ HR2.out (by simpa using hB1) (by omega) (.inl rfl) rfl (fun h => absurd rfl h)).mono ?_
    rintro e w3 ⟨rfl, U', h1, h2⟩
    have H1 : Hid (RI B p s w3 (a + 1) (l ++ [(1, (x : Int), [])]) f U') := h1
    have H2 : Hid (Us w (pU p U) w3 (pU p U')) := HU2.out.trans (h2.weak (fun c hc => hc.imp id (fun h => by cases h)))
    clear h1 h2
    go_wp2
    go_ret
    refine ⟨_, _, _, f, U', rfl, H1, H2, ?_, by show _ ∧ _; refine ⟨by omega, by omega, by simp <;> omega, fun _ => ⟨by omega, by simp <;> omega⟩⟩⟩
    have hP : P = some (a + 1, l ++ [(1, (x : Int), [])], (l.length : Int)) := by rw [HP.out]; unfold sglP; rw [if_pos HL.out, ← HX.out]
    cases f
    · exact .inr ⟨rfl, rfl, hP⟩
    · exact .inl ⟨rfl, .inl rfl⟩
  · subst hr
    have HL : Hid (isLab (bt s a) = false) := by show isL _ = false; rw [← HX.out, ← HRL.out]
    by_cases h40 : x = 40
    · subst h40
      have h40b : bt s a = 40 := HX.out.symm
      have hin : a < s.size := bt_in (by omega)
      obtain ⟨d', rfl⟩ : ∃ d', d = d' + 1 := ⟨d - 1, by omega⟩
      have HR2 : Hid (RI B p s (w1.setCell ⟨p, 1, none⟩ (.int .i64 ((a : Int) + 1))) (a + 1) l f U) := HR1.out.step
      have HU2 : Hid (Us w (pU p U) (w1.setCell ⟨p, 1, none⟩ (.int .i64 ((a : Int) + 1))) (pU p U)) := HU1.out.trans (us_set _)
      obtain ⟨Q, HQ⟩ : ∃ Q, Hid (Q = altP (bt s) s.size (d' + 1) (a + 1) l) := ⟨_, rfl⟩
      have HPQ : Hid (P = brk (bt s) Q) := by show _ = _; rw [HP.out, HQ.out]; unfold sglP; rw [if_neg (by rw [HL.out]; simp), if_pos h40b]
      have HC := HD.out d' rfl B p (a + 1) l f U _ HR2.out (by simpa using hB1) (by omega) (by omega) (by omega)
      rw [← HQ.out] at HC
      clear h40b
      go_wp2_with fail
      refine HC.mono ?_
      rintro e w3 ⟨k, a3, l3, f3, U3, rfl, HR3, HU3, HF3, HB3⟩
      obtain ⟨hb1, hb2, hb3⟩ := HB3.out
      obtain ⟨y, HY⟩ : ∃ y, Hid (y = bt s a3) := ⟨_, rfl⟩
      have HUX : Hid (Us w (pU p U) w3 (pU p U3)) := HU2.out.trans HU3.out
      have hB3 : B ≤ w3.heap.size := by have := HU3.out.1.size; simp at this; omega
      clear c0 c1 c3 cf fz1 fz3
      obtain ⟨c0, c1, c3, cf⟩ := HR3.out.cells
      go_wp2_with fail
      refine (next_any p s a3 y w3 (by omega) c0 c1 HY.out).mono ?_
      rintro e w4 ⟨rfl, HB4⟩
      have HR4 : Hid (RI B p s w4 a3 l3 f3 U3) := HR3.out.below HB4.out
      have HU4 : Hid (Us w (pU p U) w4 (pU p U3)) := HUX.out.below HB4.out
      clear c0 c1 c3 cf
      obtain ⟨c0, c1, c3, cf⟩ := HR4.out.cells
      have fz1 := cf 1
      have fz3 := cf 3
      by_cases h41 : y = 41
      · subst h41
        have HR5 : Hid (RI B p s (w4.setCell ⟨p, 1, none⟩ (.int .i64 ((a3 : Int) + 1))) (a3 + 1) l3 f3 U3) := HR4.out.step
        go_wp2
        go_ret
        refine ⟨k, a3 + 1, l3, f3, U3, rfl, HR5, HU4.out.trans (us_set _), ?_, by show _ ∧ _; exact ⟨by omega, by omega, by omega, fun _ => ⟨by omega, by omega⟩⟩⟩
        rcases HF3.out with ⟨h1, h2⟩ | ⟨h1, h2, h3⟩
        · refine .inl ⟨h1, h2.imp id (fun h => ?_)⟩
          rw [HPQ.out, h]; rfl
        · refine .inr ⟨h1, h2, ?_⟩
          rw [HPQ.out, h3]
          show (if bt s a3 = 41 then some (a3 + 1, l3, k) else none) = _
          rw [if_pos HY.out.symm]
      · have hy : ¬ (y : Int) = 41 := by omega
        have hyd : decide ((y : Int) = 41) = false := by simp; omega
        have HR5 : Hid (RI B p s ((w4.setCell ⟨p, 3, none⟩ (.bool true)).setCell ⟨p, 1, none⟩ (.int .i64 ((a3 : Int) + 1))) (a3 + 1) l3 true U3) := HR4.out.fail.step
        obtain ⟨_, d1, _, df⟩ := HR4.out.fail.cells
        have df1 := df 1
        go_wp2
        go_ret
        refine ⟨k, a3 + 1, l3, true, U3, rfl, HR5, (HU4.out.trans (us_set _)).trans (us_set _), ?_, by show _ ∧ _; exact ⟨by omega, by omega, by omega, fun _ => ⟨by omega, by omega⟩⟩⟩
        refine .inl ⟨rfl, ?_⟩
        rcases HF3.out with ⟨h1, h2⟩ | ⟨h1, h2, h3⟩
        · exact h2.imp id (fun h => by rw [HPQ.out, h]; rfl)
        · right
          rw [HPQ.out, h3]
          show (if bt s a3 = 41 then some (a3 + 1, l3, k) else none) = _
          rw [if_neg (fun h => h41 (by rw [HY.out]; exact h))]
    · have hy : ¬ (x : Int) = 40 := by omega
      have hyd : decide ((x : Int) = 40) = false := by simp; omega
      go_wp2
      go_ret
      refine ⟨0, a, l, true, U, rfl, HR1.out.fail, HU1.out.trans (us_set _), .inl ⟨rfl, .inr ?_⟩, ?_⟩
      · rw [HP.out]; unfold sglP; rw [if_neg (by rw [HL.out]; simp), if_neg (by rw [← HX.out]; exact h40)]
      · show _ ∧ _
        refine ⟨by omega, by omega, by omega, fun h => ?_⟩
        rw [HL.out, ← HX.out] at h; simp at h; omega
end Go.Proofs.Ytdbogikcmfnpdaa

/-
  The program's reader of a path: a piece with its signs, a row, alternatives.
-/
namespace Go.Proofs.Ytdbogikcmfnpdaa
open Go.RowKit

/-- the place of the reader, out of the world -/
def atOf (w : World) (p : Nat) : Nat := match w.cell? ⟨p, 1, none⟩ with | some (.int _ z) => z.toNat | _ => 0
theorem RI.atOf {B p a : Nat} {s : ByteArray} {w : World} {l : List Pc} {f : Bool} {U : Nat → Prop} (h : RI B p s w a l f U) : atOf w p = a := by
  unfold Go.Proofs.Ytdbogikcmfnpdaa.atOf
  rw [h.cells.2.1]
  simp
theorem Us.join {w w1 w2 : World} {A C R D : Nat → Prop} (h : Us w A w1 C) (hR : ∀ c, R c → w.heap.size ≤ c) (h2 : Us w1 (fun c => C c ∨ R c) w2 D) : Us w A w2 D :=
  Us.trans (U1 := fun c => C c ∨ R c) ⟨h.1, fun c hc => hc.elim (h.2 c) (fun hr => .inr (hR c hr))⟩ h2
theorem idx_val (x : Nat) (hx : x < 256) : Lib.indexByte (ByteArray.mk #[42, 43, 63]).data.toList ((x : Int).toNat.toUInt8) = if sgn x = 0 then -1 else (sgn x : Int) - 4 := idx_sgn hx

set_option maxHeartbeats 2000000 in
set_option maxRecDepth 100000 in
theorem repeated_any (s : ByteArray) (d : Nat) (hd : ∀ d', d = d' + 1 → AltOK s d') (hs : s.size ≤ 20) (B p a : Nat) (l : List Pc) (f : Bool) (U : Nat → Prop) (w : World) (hr : RI B p s w a l f U) (hB : B ≤ w.heap.size) (hl : l.length + 3 * (2 * s.size - a) ≤ 200) (ha : a ≤ s.size) (had : s.size ≤ a + d) :
    Calls Try.prog 81 #[.pointer (some ⟨p, 0, none⟩)] w fun e w' => OPost s.size B p s w a l f U (oneP (bt s) s.size (altP (bt s) s.size d) a l) e w' := by
  have HR : Hid (RI B p s w a l f U) := hr
  have HC := single_any s d hd hs B p a l f U w hr hB hl ha had
  obtain ⟨Q, HQ⟩ : ∃ Q, Hid (Q = sglP (bt s) (altP (bt s) s.size d) a l) := ⟨_, rfl⟩
  obtain ⟨P, HP⟩ : ∃ P, Hid (P = oneP (bt s) s.size (altP (bt s) s.size d) a l) := ⟨_, rfl⟩
  have HPQ : Hid (P = Q.map fun x => signP (bt s) (s.size + 1) x.1 x.2.1 x.2.2) := by show _ = _; rw [HP.out, HQ.out]; rfl
  rw [← HQ.out] at HC
  rw [← HP.out]
  obtain ⟨G, HG⟩ : ∃ G : Prop, Hid (G = ((isLab (bt s a) || decide (bt s a = 40)) = true)) := ⟨_, rfl⟩
  clear hr hd HP HQ
  go_enter Try.func81, Try.ntmps81
  go_wp2_with fail
  refine HC.mono ?_
  rintro e w1 ⟨k0, a0, l0, f0, U0, rfl, HR0, HU0, HF0, HB0⟩
  rw [← HG.out] at HB0
  clear HC
  go_wp2
  go_loopw [3] (fun v wr => ∃ (k : Int) (a1 : Nat) (l1 : List Pc) (f1 : Bool) (U1 : Nat → Prop) (fu : Nat), v = .int .i64 k ∧ Hid (RI B p s wr a1 l1 f1 U1) ∧ Hid (Us w (pU p U) wr (pU p U1)) ∧
    Hid ((f1 = true ∧ (f = true ∨ P = none)) ∨ (f = false ∧ f1 = false ∧ P = some (signP (bt s) fu a1 l1 k))) ∧ Hid (s.size < a1 + fu) ∧ Hid (a ≤ a1 ∧ a1 ≤ 2 * s.size - a ∧ l1.length ≤ l.length + 3 * (a1 - a) ∧ (G → a < a1 ∧ l1.length + 2 ≤ l.length + 3 * (a1 - a)))) (fun _ wr => s.size + 1 - atOf wr p)
  case atStart =>
    refine ⟨k0, a0, l0, f0, U0, s.size + 1, rfl, HR0, HU0, ?_, by show _ < _; omega, HB0⟩
    rcases HF0.out with ⟨h1, h2⟩ | ⟨h1, h2, h3⟩
    · exact .inl ⟨h1, h2.imp id (fun h => by rw [HPQ.out, h]; rfl)⟩
    · exact .inr ⟨h1, h2, by rw [HPQ.out, h3]; rfl⟩
  case round =>
    obtain ⟨V, rfl⟩ : ∃ V, V = wr := ⟨_, rfl⟩
    obtain ⟨k, a1, l1, f1, U1, fu, rfl, HR1, HU1, HF1, HFU, HB1⟩ := hrel
    obtain ⟨hb1, hb2, hb3, hb4⟩ := HB1.out
    have HB4 : Hid (G → a < a1 ∧ l1.length + 2 ≤ l.length + 3 * (a1 - a)) := hb4
    have hfu := HFU.out
    clear hb4
    obtain ⟨x, HX⟩ : ∃ x, Hid (x = bt s a1) := ⟨_, rfl⟩
    have hx256 : x < 256 := by rw [HX.out]; exact bt_256 _ _
    obtain ⟨c0, c1, _, _⟩ := HR1.out.cells
    have hBV : B ≤ V.heap.size := by have := HU1.out.1.size; omega
    go_wp2_with fail
    refine (next_any p s a1 x V (by omega) c0 c1 HX.out).mono ?_
    rintro e w2 ⟨rfl, HB2⟩
    have HR2 : Hid (RI B p s w2 a1 l1 f1 U1) := HR1.out.below HB2.out
    have HU2 : Hid (Us w (pU p U) w2 (pU p U1)) := HU1.out.below HB2.out
    have hB2 : B ≤ w2.heap.size := Nat.le_trans hBV HB2.out.size
    clear c0 c1
    go_wp2_with fail
    refine (Try.strings_IndexByte _ _ _).mono ?_
    rintro e w3 ⟨rfl, rfl⟩
    rw [idx_val x hx256]
    rcases sgn_cases x with h0 | ⟨g, hg, hg2⟩
    · rw [if_pos h0]
      have HEN : Hid (signP (bt s) fu a1 l1 k = (a1, l1, k)) := signP_end (by rw [← HX.out]; exact h0)
      rw [HEN.out] at HF1
      go_wp2
      go_ret
      exact ⟨k, a1, l1, f1, U1, rfl, HR2, HU2, HF1, by show _ ∧ _; rw [← HG.out]; exact ⟨hb1, hb2, hb3, HB4.out⟩⟩
    · have hne : sgn x ≠ 0 := by omega
      rw [if_neg hne]
      have hgv : (sgn x : Int) - 4 = (g : Int) := by omega
      rw [hgv]
      have hin : a1 < s.size := bt_in (by rw [← HX.out]; exact sgn_0 hne)
      obtain ⟨fv, rfl⟩ : ∃ fv, fu = fv + 1 := ⟨fu - 1, by omega⟩
      have hg0 : ¬ (g : Int) < 0 := by omega
      have hgd : decide ((g : Int) < 0) = false := by simp
      obtain ⟨c0, c1, _, cf⟩ := HR2.out.cells
      have fz1 := cf 1
      have HR3 : Hid (RI B p s (w3.setCell ⟨p, 1, none⟩ (.int .i64 ((a1 : Int) + 1))) (a1 + 1) l1 f1 U1) := HR2.out.step
      have HU3 : Hid (Us w (pU p U) (w3.setCell ⟨p, 1, none⟩ (.int .i64 ((a1 : Int) + 1))) (pU p U1)) := HU2.out.trans (us_set _)
      obtain ⟨W, HW⟩ : ∃ W, Hid (W = w3.setCell ⟨p, 1, none⟩ (.int .i64 ((a1 : Int) + 1))) := ⟨_, rfl⟩
      have hWs : W.heap.size = w3.heap.size := by rw [HW.out]; simp
      rw [← HW.out] at HR3 HU3
      have hp3 := HR3.out.lt
      obtain ⟨W2, HW2⟩ : ∃ W2, Hid (W2 = W.alloc (.cells #[.int .i64 k] 3)) := ⟨_, rfl⟩
      have HBW : Hid (Below W.heap.size W W2) := by rw [HW2.out]; exact below1 _ _
      have HRO : Hid (RowOwn B W2.heap.size W2 (some ⟨w3.heap.size, 0, none⟩) [k]) := by
        refine .inr ⟨w3.heap.size, rfl, hB2, by rw [HW2.out]; simp; omega, ?_⟩
        rw [HW2.out, ← hWs]
        exact blk_new W #[.int .i64 k] 3 _ (fun i hi => by
          have hi2 : i < 1 := hi
          obtain rfl : i = 0 := by omega
          rfl)
      have HR4 : Hid (RI B p s W2 (a1 + 1) l1 f1 U1) := HR3.out.below HBW.out
      have HU4 : Hid (Us w (pU p U) W2 (pU p U1)) := HU3.out.below HBW.out
      have hns : ∀ c, (some (⟨w3.heap.size, 0, none⟩ : Addr) = some ⟨c, 0, none⟩) → w3.heap.size = c := by intro c h; simpa using h
      have hU1s := HU2.out.1.size
      go_upto_region 6 with fail
      rw [← HW.out]
      clear c0 c1 cf fz1 HW
      go_wp2_with fail
      rw [← HW2.out]
      refine (add_any B p s (a1 + 1) l1 f1 U1 (4 + (g : Int)) 0 (some ⟨w3.heap.size, 0, none⟩) 1 1 [k] W2 HR4.out (by have := HBW.out.size; omega) (by omega) HRO.out rfl (fun _ c hc hu => by have := hp3 c hu; have := hns c hc; omega)).mono ?_
      rintro e w5 ⟨rfl, U5, h1, h2⟩
      have HR5 : Hid (RI B p s w5 (a1 + 1) (l1 ++ [(4 + (g : Int), 0, [k])]) f1 U5) := h1
      have HU5 : Hid (Us w (pU p U) w5 (pU p U5)) := HU4.out.join (fun c hc => by have := hns c hc; omega) h2
      have HST : Hid (signP (bt s) (fv + 1) a1 l1 k = signP (bt s) fv (a1 + 1) (l1 ++ [(4 + (g : Int), 0, [k])]) (l1.length : Int)) := by
        show _ = _
        rw [signP_go (by rw [← HX.out]; exact hne), ← HX.out]
        have : (sgn x : Int) = 4 + (g : Int) := by omega
        rw [this]
      rw [HST.out] at HF1
      clear h1 h2
      go_wp2
      go_roundw
      case rel =>
        refine ⟨_, a1 + 1, _, f1, U5, fv, rfl, HR5, HU5, HF1, by show _ < _; omega, ?_⟩
        show _ ∧ _
        refine ⟨by omega, by omega, by simp <;> omega, fun h => ?_⟩
        have := HB4.out h
        exact ⟨by omega, by simp <;> omega⟩
      case measure =>
        have e1 := HR1.out.atOf
        have e2 := HR5.out.atOf
        first | (rw [e1, e2]; omega) | (simp only [e1, e2]; omega) | omega
end Go.Proofs.Ytdbogikcmfnpdaa

/-
  The model's reader of a path: one piece with its signs.
-/
namespace Go.Proofs.Ytdbogikcmfnpdaa
open Go.RowKit

theorem RS.atOf {B p a : Nat} {s : ByteArray} {w : World} {l : List Pc} {f : Bool} {U : Nat → Prop} (h : RS B p s w a l f U) : atOf w p = a := by
  unfold Go.Proofs.Ytdbogikcmfnpdaa.atOf
  rw [h.cells.2.1]
  simp
/-- where the model may stop -/
def okStop (s : ByteArray) (a : Nat) : Prop := s.size ≤ a ∨ bt s a = 41 ∨ bt s a = 124
/-- what is told behind rows and alternatives -/
def WPost (N B p : Nat) (s : ByteArray) (w : World) (a : Nat) (l : List Pc) (f : Bool) (U : Nat → Prop) (P : Option St) (e : Ending) (w' : World) : Prop :=
  ∃ (k : Int) (a' : Nat) (l' : List Pc) (f' : Bool) (U' : Nat → Prop), e = .returned (.int .i64 k) ∧ Hid (RS B p s w' a' l' f' U') ∧ Hid (Us w (pU p U) w' (pU p U')) ∧
    Hid ((f' = true ∧ (f = true ∨ P = none ∨ ∃ x, P = some x ∧ ¬ okStop s x.1)) ∨ (f = false ∧ f' = false ∧ P = some (a', l', k) ∧ okStop s a')) ∧ Hid (a ≤ a' ∧ a' ≤ 2 * N - a ∧ l'.length ≤ l.length + 3 * (a' - a))
/-- what is told behind one -/
def NPost (N B p : Nat) (s : ByteArray) (w : World) (a : Nat) (l : List Pc) (f : Bool) (U : Nat → Prop) (P : Option St) (e : Ending) (w' : World) : Prop :=
  ∃ (k : Int) (a' : Nat) (l' : List Pc) (f' : Bool) (U' : Nat → Prop), e = .returned (.int .i64 k) ∧ Hid (RS B p s w' a' l' f' U') ∧ Hid (Us w (pU p U) w' (pU p U')) ∧
    Hid ((f' = true ∧ (f = true ∨ P = none)) ∨ (f = false ∧ f' = false ∧ P = some (a', l', k))) ∧ Hid (a ≤ a' ∧ a' ≤ 2 * N - a ∧ l'.length ≤ l.length + 3 * (a' - a) ∧ (f = false → a < N → a < a' ∧ l'.length + 2 ≤ l.length + 3 * (a' - a)))
def AltSOK (s : ByteArray) (d : Nat) : Prop := ∀ (B p a : Nat) (l : List Pc) (f : Bool) (U : Nat → Prop) (w : World), RS B p s w a l f U → B ≤ w.heap.size → l.length + 3 * (2 * s.size - a) ≤ 200 → a ≤ s.size → s.size ≤ a + d →
  Calls Try.prog 60 #[.pointer (some ⟨p, 0, none⟩)] w fun e w' => WPost s.size B p s w a l f U (altP (bt s) s.size (d + 1) a l) e w'

set_option maxHeartbeats 4000000 in
set_option maxRecDepth 100000 in
theorem one_any (s : ByteArray) (d : Nat) (hd : ∀ d', d = d' + 1 → AltSOK s d') (hs : s.size ≤ 20) (B p a : Nat) (l : List Pc) (f : Bool) (U : Nat → Prop) (w : World) (hr : RS B p s w a l f U) (hB : B ≤ w.heap.size) (hl : l.length + 3 * (2 * s.size - a) ≤ 200) (ha : a ≤ s.size) (had : s.size ≤ a + d) :
    Calls Try.prog 91 #[.pointer (some ⟨p, 0, none⟩)] w fun e w' => NPost s.size B p s w a l f U (oneP (bt s) s.size (altP (bt s) s.size d) a l) e w' := by
  have HR : Hid (RS B p s w a l f U) := hr
  have HD : Hid (∀ d', d = d' + 1 → AltSOK s d') := hd
  obtain ⟨Q, HQ⟩ : ∃ Q, Hid (Q = sglP (bt s) (altP (bt s) s.size d) a l) := ⟨_, rfl⟩
  obtain ⟨P, HP⟩ : ∃ P, Hid (P = oneP (bt s) s.size (altP (bt s) s.size d) a l) := ⟨_, rfl⟩
  have HPQ : Hid (P = Q.map fun x => signP (bt s) (s.size + 1) x.1 x.2.1 x.2.2) := by show _ = _; rw [HP.out, HQ.out]; rfl
  rw [← HP.out]
  obtain ⟨c0, c1, c2, cf⟩ := hr.cells
  have fz2 := cf 2
  have fz1 := cf 1
  clear hr hd HP
  go_enter Try.func91, Try.ntmps91
  rcases Bool.eq_false_or_eq_true f with hf | hf
  · subst hf
    go_wp2_with fail
    go_quiet (fail)
    go_wp2
    go_ret
    exact ⟨0, a, l, true, U, rfl, (HR.out.below (below_drewN (Below.refl _ _) _)).fail, ((Us.refl _ _).below (below_drewN (Below.refl _ _) _)).trans (us_set _), .inl ⟨rfl, .inl rfl⟩, ⟨by omega, by omega, by omega, fun h => by cases h⟩⟩
  · subst hf
    by_cases hin : a < s.size
    · have hi1 : ¬ (a : Int) ≥ (s.size : Int) := by omega
      have hi2 : (a : Int) < (s.size : Int) := by omega
      have hi0 : (0 : Int) ≤ (a : Int) := by omega
      obtain ⟨x, HX⟩ : ∃ x, Hid (x = bt s a) := ⟨_, rfl⟩
      have hx256 : x < 256 := by rw [HX.out]; exact bt_256 _ _
      have hsx : s[a].toNat = x := by rw [HX.out, bt_lt hin]
      go_wp2_with fail
      go_quiet (fail)
      obtain ⟨W0, HW0⟩ : ∃ W0, Hid (W0 = w.drewN nq) := ⟨_, rfl⟩
      have HBW0 : Hid (Below w.heap.size w W0) := by rw [HW0.out]; exact below_drewN (Below.refl _ _) _
      rw [← HW0.out]
      have HR00 : Hid (RS B p s W0 a l false U) := HR.out.below HBW0.out
      clear c0 c1 c2 cf fz1 fz2 HW0
      obtain ⟨c0, c1, c2, cf⟩ := HR00.out.cells
      go_wp2_with fail
      go_quiet (fail)
      obtain ⟨W, HW⟩ : ∃ W, Hid (W = W0.drewN nq) := ⟨_, rfl⟩
      have HBW : Hid (Below w.heap.size w W) := HBW0.out.trans (by rw [HW.out]; exact below_drewN (Below.refl _ _) _ |>.mono HBW0.out.size)
      rw [← HW.out]
      go_upto_region 5 with fail
      have HR1 : Hid (RS B p s W a l false U) := HR.out.below HBW.out
      have HU1 : Hid (Us w (pU p U) W (pU p U)) := (Us.refl _ _).below HBW.out
      have hB1 : B ≤ W.heap.size := Nat.le_trans hB HBW.out.size
      clear c0 c1 c2 cf HW
      obtain ⟨c0, c1, c2, cf⟩ := HR1.out.cells
      have fz1 := cf 1
      obtain ⟨V, HV⟩ : ∃ V, Hid (V = W.setCell ⟨p, 1, none⟩ (.int .i64 ((a : Int) + 1))) := ⟨_, rfl⟩
      have HR2 : Hid (RS B p s V (a + 1) l false U) := by rw [HV.out]; exact HR1.out.step
      have HU2 : Hid (Us w (pU p U) V (pU p U)) := by rw [HV.out]; exact HU1.out.trans (us_set _)
      have hB2 : B ≤ V.heap.size := by rw [HV.out]; simpa using hB1
      go_upto_block 0 with fail
      rw [← HV.out]
      clear c0 c1 c2 cf fz1 HV
      obtain ⟨c0, c1, c2, cf⟩ := HR2.out.cells
      have fz2 := cf 2
      go_cut [4] (fun v wc => ∃ (k : Int) (a' : Nat) (l' : List Pc) (U' : Nat → Prop), v = .int .i64 k ∧ Hid (RS B p s wc a' l' false U') ∧ Hid (Us w (pU p U) wc (pU p U')) ∧ Hid (Q = some (a', l', k)) ∧ Hid (a < a' ∧ a' ≤ 2 * s.size - a ∧ l'.length + 2 ≤ l.length + 3 * (a' - a)))
      case first =>
        have HQN : Hid (Q = none → P = none) := fun h => by rw [HPQ.out, h]; rfl
        by_cases hL : 97 ≤ x ∧ x ≤ 100
        · have hd1 : decide ((x : Int) ≥ 97) = true := by simp; omega
          have hd2 : decide ((x : Int) ≤ 100) = true := by simp; omega
          have h97 : (97 : Int) ≤ (x : Int) := by omega
          have h100 : (x : Int) ≤ 100 := by omega
          have HLB : Hid (isLab (bt s a) = true) := by show isL _ = true; rw [← HX.out]; unfold isL; simp; omega
          go_wp2_with fail
          refine (put_any B p s (a + 1) l false U 1 (x : Int) none 0 0 [] V HR2.out hB2 (by omega) (.inl rfl) rfl (fun h => absurd rfl h)).mono ?_
          rintro e w3 ⟨rfl, U', h1, h2⟩
          have H1 : Hid (RS B p s w3 (a + 1) (l ++ [(1, (x : Int), [])]) false U') := h1
          have H2 : Hid (Us w (pU p U) w3 (pU p U')) := HU2.out.trans (h2.weak (fun c hc => hc.imp id (fun h => by cases h)))
          have HQ1 : Hid (Q = some (a + 1, l ++ [(1, (x : Int), [])], (l.length : Int))) := by show _ = _; rw [HQ.out]; unfold sglP; rw [if_pos HLB.out, ← HX.out]
          clear h1 h2
          go_wp2
          go_meet
          case rel => exact ⟨_, a + 1, _, U', rfl, H1, H2, HQ1, ⟨by omega, by omega, by simp <;> omega⟩⟩
        · have HLB : Hid (isLab (bt s a) = false) := by show isL _ = false; rw [← HX.out]; unfold isL; simp; omega
          by_cases h40 : x = 40
          · subst h40
            have h40b : bt s a = 40 := HX.out.symm
            obtain ⟨d', rfl⟩ : ∃ d', d = d' + 1 := ⟨d - 1, by omega⟩
            obtain ⟨Y, HY0⟩ : ∃ Y, Hid (Y = altP (bt s) s.size (d' + 1) (a + 1) l) := ⟨_, rfl⟩
            have HQY : Hid (Q = brk (bt s) Y) := by show _ = _; rw [HQ.out, HY0.out]; unfold sglP; rw [if_neg (by rw [HLB.out]; simp), if_pos h40b]
            have HC := HD.out d' rfl B p (a + 1) l false U V HR2.out hB2 (by omega) (by omega) (by omega)
            rw [← HY0.out] at HC
            clear h40b
            go_wp2_with fail
            refine HC.mono ?_
            rintro e w3 ⟨k, a3, l3, f3, U3, rfl, HR3, HU3, HF3, HB3⟩
            obtain ⟨hb1, hb2, hb3⟩ := HB3.out
            have HUX : Hid (Us w (pU p U) w3 (pU p U3)) := HU2.out.trans HU3.out
            clear c0 c1 c2 cf fz2 HC
            obtain ⟨c0, c1, c2, cf⟩ := HR3.out.cells
            have fz1 := cf 1
            have fz2 := cf 2
            have HNOT : Hid (f3 = true ∨ bt s a3 ≠ 41 → P = none) := by
              intro h
              apply HQN.out
              rw [HQY.out]
              rcases HF3.out with ⟨h1, h2 | h2 | ⟨x, h2, h4⟩⟩ | ⟨_, h2, h4, _⟩
              · cases h2
              · rw [h2]; rfl
              · rw [h2]
                show (if bt s x.1 = 41 then some (x.1 + 1, x.2.1, x.2.2) else none) = none
                rw [if_neg (fun e => h4 (.inr (.inl e)))]
              · rw [h4]
                show (if bt s a3 = 41 then some (a3 + 1, l3, k) else none) = none
                rw [if_neg]
                rcases h with h | h
                · rw [h2] at h; cases h
                · exact h
            have HBAD : Hid (∀ wx, Below w3.heap.size w3 wx → P = none → NPost s.size B p s w a l false U P (.returned (.int .i64 0)) (wx.setCell ⟨p, 2, none⟩ (.bool true))) := fun wx hb hp => ⟨0, a3, l3, true, U3, rfl, (HR3.out.below hb).fail, (HUX.out.below hb).trans (us_set _), .inl ⟨rfl, .inr hp⟩, ⟨by omega, by omega, by omega, fun _ _ => ⟨by omega, by omega⟩⟩⟩
            rcases Bool.eq_false_or_eq_true f3 with hf | hf
            · subst hf
              go_wp2_with fail
              go_quiet (fail)
              go_wp2
              go_ret
              exact HBAD.out _ (below_drewN (Below.refl _ _) _) (HNOT.out (by simp))
            · subst hf
              by_cases hin3 : a3 < s.size
              · have hj1 : ¬ (a3 : Int) ≥ (s.size : Int) := by omega
                have hj2 : (a3 : Int) < (s.size : Int) := by omega
                have hj0 : (0 : Int) ≤ (a3 : Int) := by omega
                obtain ⟨y, HY⟩ : ∃ y, Hid (y = bt s a3) := ⟨_, rfl⟩
                have hsy : s[a3].toNat = y := by rw [HY.out, bt_lt hin3]
                by_cases h41 : y = 41
                · subst h41
                  have HQ1 : Hid (Q = some (a3 + 1, l3, k)) := by
                    show _ = _
                    rw [HQY.out]
                    rcases HF3.out with ⟨h1, _⟩ | ⟨_, _, h4, _⟩
                    · cases h1
                    · rw [h4]
                      show (if bt s a3 = 41 then some (a3 + 1, l3, k) else none) = _
                      rw [if_pos HY.out.symm]
                  go_wp2_with fail
                  go_quiet (fail)
                  obtain ⟨W5, HW5⟩ : ∃ W5, Hid (W5 = w3.drewN nq) := ⟨_, rfl⟩
                  have HB5 : Hid (Below w3.heap.size w3 W5) := by rw [HW5.out]; exact below_drewN (Below.refl _ _) _
                  rw [← HW5.out]
                  have HR5 : Hid (RS B p s W5 a3 l3 false U3) := HR3.out.below HB5.out
                  clear c0 c1 c2 cf fz1 fz2 HW5
                  obtain ⟨c0, c1, c2, cf⟩ := HR5.out.cells
                  have fz1 := cf 1
                  go_wp2
                  go_meet
                  case rel => exact ⟨k, a3 + 1, l3, U3, rfl, HR5.out.step, (HUX.out.below HB5.out).trans (us_set _), HQ1, ⟨by omega, by omega, by omega⟩⟩
                · have hy : ¬ (y : Int) = 41 := by omega
                  have hyd : decide ((y : Int) = 41) = false := by simp; omega
                  have hyn : ((y : Int) != 41) = true := by rw [bne_iff_ne]; exact hy
                  go_wp2_with fail
                  go_quiet (fail)
                  go_wp2
                  all_goals first | (rename_i hfa; exact absurd hfa.2 (by rw [hyn]; simp)) | (go_ret; exact HBAD.out _ (below_drewN (Below.refl _ _) _) (HNOT.out (.inr (by rw [← HY.out]; exact h41))))
              · have hj1 : (a3 : Int) ≥ (s.size : Int) := by omega
                go_wp2_with fail
                go_quiet (fail)
                go_wp2
                go_ret
                exact HBAD.out _ (below_drewN (Below.refl _ _) _) (HNOT.out (.inr (by rw [bt_end hin3]; decide)))
          · have hy : ¬ (x : Int) = 40 := by omega
            have hyd : decide ((x : Int) = 40) = false := by simp; omega
            have HPN : Hid (P = none) := HQN.out (by rw [HQ.out]; unfold sglP; rw [if_neg (by rw [HLB.out]; simp), if_neg (by rw [← HX.out]; exact h40)])
            have HBAD : Hid (NPost s.size B p s w a l false U P (.returned (.int .i64 0)) (V.setCell ⟨p, 2, none⟩ (.bool true))) := ⟨0, a + 1, l, true, U, rfl, HR2.out.fail, HU2.out.trans (us_set _), .inl ⟨rfl, .inr HPN.out⟩, ⟨by omega, by omega, by omega, fun _ _ => ⟨by omega, by omega⟩⟩⟩
            by_cases h97 : 97 ≤ x
            · have hd1 : decide ((x : Int) ≥ 97) = true := by simp; omega
              have hd2 : decide ((x : Int) ≤ 100) = false := by simp; omega
              have h97i : (97 : Int) ≤ (x : Int) := by omega
              have h100 : ¬ (x : Int) ≤ 100 := by omega
              go_wp2
              go_ret
              exact HBAD
            · have hd1 : decide ((x : Int) ≥ 97) = false := by simp; omega
              have h97i : ¬ (97 : Int) ≤ (x : Int) := by omega
              go_wp2
              go_ret
              exact HBAD
      case rest =>
        obtain ⟨k0, a0, l0, U0, rfl, HR0, HU0, HQ0, HB0⟩ := hcut
        have HP0 : Hid (P = some (signP (bt s) (s.size + 1) a0 l0 k0)) := by show _ = _; rw [HPQ.out, HQ0.out]; rfl
        clear c0 c1 c2 cf fz2
        go_wp2_with fail
        go_loopw [4] (fun v wr => ∃ (k : Int) (a1 : Nat) (l1 : List Pc) (U1 : Nat → Prop) (fu : Nat), v = .int .i64 k ∧ Hid (RS B p s wr a1 l1 false U1) ∧ Hid (Us w (pU p U) wr (pU p U1)) ∧ Hid (P = some (signP (bt s) fu a1 l1 k)) ∧ Hid (s.size < a1 + fu) ∧ Hid (a < a1 ∧ a1 ≤ 2 * s.size - a ∧ l1.length + 2 ≤ l.length + 3 * (a1 - a))) (fun _ wr => s.size + 1 - atOf wr p)
        case atStart => exact ⟨k0, a0, l0, U0, s.size + 1, rfl, HR0, HU0, HP0, by show _ < _; omega, HB0⟩
        case round =>
          obtain ⟨V1, rfl⟩ : ∃ V1, V1 = wr := ⟨_, rfl⟩
          obtain ⟨k, a1, l1, U1, fu, rfl, HR1, HU1, HP1, HFU, HB1⟩ := hrel
          obtain ⟨hb1, hb2, hb3⟩ := HB1.out
          have hfu := HFU.out
          obtain ⟨c0, c1, c2, cf⟩ := HR1.out.cells
          have HEND : Hid (sgn (bt s a1) = 0 → ∀ wx, Below V1.heap.size V1 wx → NPost s.size B p s w a l false U P (.returned (.int .i64 k)) wx) := fun h wx hb => ⟨k, a1, l1, false, U1, rfl, HR1.out.below hb, HU1.out.below hb, .inr ⟨rfl, rfl, by rw [HP1.out, signP_end h]⟩, ⟨by omega, by omega, by omega, fun _ _ => ⟨by omega, by omega⟩⟩⟩
          by_cases hin1 : a1 < s.size
          · have hj1 : (a1 : Int) < (s.size : Int) := by omega
            have hj0 : (0 : Int) ≤ (a1 : Int) := by omega
            obtain ⟨x1, HX1⟩ : ∃ x1, Hid (x1 = bt s a1) := ⟨_, rfl⟩
            have hsx1 : s[a1].toNat = x1 := by rw [HX1.out, bt_lt hin1]
            go_wp2_with fail
            go_quiet (fail)
            obtain ⟨W4, HW4⟩ : ∃ W4, Hid (W4 = V1.drewN nq) := ⟨_, rfl⟩
            have HBW4 : Hid (Below V1.heap.size V1 W4) := by rw [HW4.out]; exact below_drewN (Below.refl _ _) _
            rw [← HW4.out]
            have HR4X : Hid (RS B p s W4 a1 l1 false U1) := HR1.out.below HBW4.out
            clear c0 c1 c2 cf HW4
            obtain ⟨c0, c1, c2, cf⟩ := HR4X.out.cells
            go_wp2_with fail
            go_quiet (fail)
            obtain ⟨W5, HW5⟩ : ∃ W5, Hid (W5 = W4.drewN nq) := ⟨_, rfl⟩
            have HBW5 : Hid (Below V1.heap.size V1 W5) := HBW4.out.trans (by rw [HW5.out]; exact (below_drewN (Below.refl _ _) _).mono HBW4.out.size)
            rw [← HW5.out]
            have HR5 : Hid (RS B p s W5 a1 l1 false U1) := HR1.out.below HBW5.out
            have HU5 : Hid (Us w (pU p U) W5 (pU p U1)) := HU1.out.below HBW5.out
            have hB5 : B ≤ W5.heap.size := by have := HU5.out.1.size; omega
            clear c0 c1 c2 cf HW5
            obtain ⟨c0, c1, c2, cf⟩ := HR5.out.cells
            have fz1 := cf 1
            by_cases e42 : x1 = 42
            · subst e42
              have HSG : Hid (sgn (bt s a1) = 4) := by show _ = _; rw [← HX1.out]; rfl
              obtain ⟨fv, rfl⟩ : ∃ fv, fu = fv + 1 := ⟨fu - 1, by omega⟩
              have HR3 : Hid (RS B p s (W5.setCell ⟨p, 1, none⟩ (.int .i64 ((a1 : Int) + 1))) (a1 + 1) l1 false U1) := HR5.out.step
              have HU3 : Hid (Us w (pU p U) (W5.setCell ⟨p, 1, none⟩ (.int .i64 ((a1 : Int) + 1))) (pU p U1)) := HU5.out.trans (us_set _)
              obtain ⟨W6, HW6⟩ : ∃ W6, Hid (W6 = W5.setCell ⟨p, 1, none⟩ (.int .i64 ((a1 : Int) + 1))) := ⟨_, rfl⟩
              have hWs : W6.heap.size = W5.heap.size := by rw [HW6.out]; simp
              rw [← HW6.out] at HR3 HU3
              have hp3 := HR3.out.lt
              obtain ⟨W7, HW7⟩ : ∃ W7, Hid (W7 = W6.alloc (.cells #[.int .i64 k] 3)) := ⟨_, rfl⟩
              have HBW7 : Hid (Below W6.heap.size W6 W7) := by rw [HW7.out]; exact below1 _ _
              have HRO : Hid (RowOwn B W7.heap.size W7 (some ⟨W5.heap.size, 0, none⟩) [k]) := by
                refine .inr ⟨W5.heap.size, rfl, hB5, by rw [HW7.out]; simp; omega, ?_⟩
                rw [HW7.out, ← hWs]
                exact blk_new W6 #[.int .i64 k] 3 _ (fun i hi => by
                  have hi2 : i < 1 := hi
                  obtain rfl : i = 0 := by omega
                  rfl)
              have HR4 : Hid (RS B p s W7 (a1 + 1) l1 false U1) := HR3.out.below HBW7.out
              have HU4 : Hid (Us w (pU p U) W7 (pU p U1)) := HU3.out.below HBW7.out
              have hns : ∀ c, (some (⟨W5.heap.size, 0, none⟩ : Addr) = some ⟨c, 0, none⟩) → W5.heap.size = c := by intro c h; simpa using h
              have hU5s := HU5.out.1.size
              go_upto_region 28 with fail
              rw [← HW6.out]
              clear c0 c1 c2 cf fz1 HW6
              go_wp2_with fail
              rw [← HW7.out]
              refine (put_any B p s (a1 + 1) l1 false U1 4 0 (some ⟨W5.heap.size, 0, none⟩) 1 1 [k] W7 HR4.out (by have := HBW7.out.size; omega) (by omega) HRO.out rfl (fun _ c hc hu => by have := hp3 c hu; have := hns c hc; omega)).mono ?_
              rintro e w8 ⟨rfl, U8, h1, h2⟩
              have HR8 : Hid (RS B p s w8 (a1 + 1) (l1 ++ [(4, 0, [k])]) false U8) := h1
              have HU8 : Hid (Us w (pU p U) w8 (pU p U8)) := HU4.out.join (fun c hc => by have := hns c hc; omega) h2
              have HST : Hid (signP (bt s) (fv + 1) a1 l1 k = signP (bt s) fv (a1 + 1) (l1 ++ [(4, 0, [k])]) (l1.length : Int)) := by
                show _ = _
                rw [signP_go (by rw [HSG.out]; decide), HSG.out]
                rfl
              rw [HST.out] at HP1
              clear h1 h2
              go_wp2
              go_roundw
              case rel => exact ⟨_, a1 + 1, _, U8, fv, rfl, HR8, HU8, HP1, by show _ < _; omega, ⟨by omega, by omega, by simp <;> omega⟩⟩
              case measure =>
                have e1 := HR1.out.atOf
                have e2 := HR8.out.atOf
                first | (rw [e1, e2]; omega) | (simp only [e1, e2]; omega) | omega
            · have n42 : ¬ (x1 : Int) = 42 := by omega
              have d42 : decide ((x1 : Int) = 42) = false := by simp; omega
              by_cases e43 : x1 = 43
              · subst e43
                have HSG : Hid (sgn (bt s a1) = 5) := by show _ = _; rw [← HX1.out]; rfl
                obtain ⟨fv, rfl⟩ : ∃ fv, fu = fv + 1 := ⟨fu - 1, by omega⟩
                have HR3 : Hid (RS B p s (W5.setCell ⟨p, 1, none⟩ (.int .i64 ((a1 : Int) + 1))) (a1 + 1) l1 false U1) := HR5.out.step
                have HU3 : Hid (Us w (pU p U) (W5.setCell ⟨p, 1, none⟩ (.int .i64 ((a1 : Int) + 1))) (pU p U1)) := HU5.out.trans (us_set _)
                obtain ⟨W6, HW6⟩ : ∃ W6, Hid (W6 = W5.setCell ⟨p, 1, none⟩ (.int .i64 ((a1 : Int) + 1))) := ⟨_, rfl⟩
                have hWs : W6.heap.size = W5.heap.size := by rw [HW6.out]; simp
                rw [← HW6.out] at HR3 HU3
                have hp3 := HR3.out.lt
                obtain ⟨W7, HW7⟩ : ∃ W7, Hid (W7 = W6.alloc (.cells #[.int .i64 k] 3)) := ⟨_, rfl⟩
                have HBW7 : Hid (Below W6.heap.size W6 W7) := by rw [HW7.out]; exact below1 _ _
                have HRO : Hid (RowOwn B W7.heap.size W7 (some ⟨W5.heap.size, 0, none⟩) [k]) := by
                  refine .inr ⟨W5.heap.size, rfl, hB5, by rw [HW7.out]; simp; omega, ?_⟩
                  rw [HW7.out, ← hWs]
                  exact blk_new W6 #[.int .i64 k] 3 _ (fun i hi => by
                    have hi2 : i < 1 := hi
                    obtain rfl : i = 0 := by omega
                    rfl)
                have HR4 : Hid (RS B p s W7 (a1 + 1) l1 false U1) := HR3.out.below HBW7.out
                have HU4 : Hid (Us w (pU p U) W7 (pU p U1)) := HU3.out.below HBW7.out
                have hns : ∀ c, (some (⟨W5.heap.size, 0, none⟩ : Addr) = some ⟨c, 0, none⟩) → W5.heap.size = c := by intro c h; simpa using h
                have hU5s := HU5.out.1.size
                go_upto_region 28 with fail
                rw [← HW6.out]
                clear c0 c1 c2 cf fz1 HW6
                go_wp2_with fail
                rw [← HW7.out]
                refine (put_any B p s (a1 + 1) l1 false U1 5 0 (some ⟨W5.heap.size, 0, none⟩) 1 1 [k] W7 HR4.out (by have := HBW7.out.size; omega) (by omega) HRO.out rfl (fun _ c hc hu => by have := hp3 c hu; have := hns c hc; omega)).mono ?_
                rintro e w8 ⟨rfl, U8, h1, h2⟩
                have HR8 : Hid (RS B p s w8 (a1 + 1) (l1 ++ [(5, 0, [k])]) false U8) := h1
                have HU8 : Hid (Us w (pU p U) w8 (pU p U8)) := HU4.out.join (fun c hc => by have := hns c hc; omega) h2
                have HST : Hid (signP (bt s) (fv + 1) a1 l1 k = signP (bt s) fv (a1 + 1) (l1 ++ [(5, 0, [k])]) (l1.length : Int)) := by
                  show _ = _
                  rw [signP_go (by rw [HSG.out]; decide), HSG.out]
                  rfl
                rw [HST.out] at HP1
                clear h1 h2
                go_wp2
                go_roundw
                case rel => exact ⟨_, a1 + 1, _, U8, fv, rfl, HR8, HU8, HP1, by show _ < _; omega, ⟨by omega, by omega, by simp <;> omega⟩⟩
                case measure =>
                  have e1 := HR1.out.atOf
                  have e2 := HR8.out.atOf
                  first | (rw [e1, e2]; omega) | (simp only [e1, e2]; omega) | omega
              · have n43 : ¬ (x1 : Int) = 43 := by omega
                have d43 : decide ((x1 : Int) = 43) = false := by simp; omega
                by_cases e63 : x1 = 63
                · subst e63
                  have HSG : Hid (sgn (bt s a1) = 6) := by show _ = _; rw [← HX1.out]; rfl
                  obtain ⟨fv, rfl⟩ : ∃ fv, fu = fv + 1 := ⟨fu - 1, by omega⟩
                  have HR3 : Hid (RS B p s (W5.setCell ⟨p, 1, none⟩ (.int .i64 ((a1 : Int) + 1))) (a1 + 1) l1 false U1) := HR5.out.step
                  have HU3 : Hid (Us w (pU p U) (W5.setCell ⟨p, 1, none⟩ (.int .i64 ((a1 : Int) + 1))) (pU p U1)) := HU5.out.trans (us_set _)
                  obtain ⟨W6, HW6⟩ : ∃ W6, Hid (W6 = W5.setCell ⟨p, 1, none⟩ (.int .i64 ((a1 : Int) + 1))) := ⟨_, rfl⟩
                  have hWs : W6.heap.size = W5.heap.size := by rw [HW6.out]; simp
                  rw [← HW6.out] at HR3 HU3
                  have hp3 := HR3.out.lt
                  obtain ⟨W7, HW7⟩ : ∃ W7, Hid (W7 = W6.alloc (.cells #[.int .i64 k] 3)) := ⟨_, rfl⟩
                  have HBW7 : Hid (Below W6.heap.size W6 W7) := by rw [HW7.out]; exact below1 _ _
                  have HRO : Hid (RowOwn B W7.heap.size W7 (some ⟨W5.heap.size, 0, none⟩) [k]) := by
                    refine .inr ⟨W5.heap.size, rfl, hB5, by rw [HW7.out]; simp; omega, ?_⟩
                    rw [HW7.out, ← hWs]
                    exact blk_new W6 #[.int .i64 k] 3 _ (fun i hi => by
                      have hi2 : i < 1 := hi
                      obtain rfl : i = 0 := by omega
                      rfl)
                  have HR4 : Hid (RS B p s W7 (a1 + 1) l1 false U1) := HR3.out.below HBW7.out
                  have HU4 : Hid (Us w (pU p U) W7 (pU p U1)) := HU3.out.below HBW7.out
                  have hns : ∀ c, (some (⟨W5.heap.size, 0, none⟩ : Addr) = some ⟨c, 0, none⟩) → W5.heap.size = c := by intro c h; simpa using h
                  have hU5s := HU5.out.1.size
                  go_upto_region 28 with fail
                  rw [← HW6.out]
                  clear c0 c1 c2 cf fz1 HW6
                  go_wp2_with fail
                  rw [← HW7.out]
                  refine (put_any B p s (a1 + 1) l1 false U1 6 0 (some ⟨W5.heap.size, 0, none⟩) 1 1 [k] W7 HR4.out (by have := HBW7.out.size; omega) (by omega) HRO.out rfl (fun _ c hc hu => by have := hp3 c hu; have := hns c hc; omega)).mono ?_
                  rintro e w8 ⟨rfl, U8, h1, h2⟩
                  have HR8 : Hid (RS B p s w8 (a1 + 1) (l1 ++ [(6, 0, [k])]) false U8) := h1
                  have HU8 : Hid (Us w (pU p U) w8 (pU p U8)) := HU4.out.join (fun c hc => by have := hns c hc; omega) h2
                  have HST : Hid (signP (bt s) (fv + 1) a1 l1 k = signP (bt s) fv (a1 + 1) (l1 ++ [(6, 0, [k])]) (l1.length : Int)) := by
                    show _ = _
                    rw [signP_go (by rw [HSG.out]; decide), HSG.out]
                    rfl
                  rw [HST.out] at HP1
                  clear h1 h2
                  go_wp2
                  go_roundw
                  case rel => exact ⟨_, a1 + 1, _, U8, fv, rfl, HR8, HU8, HP1, by show _ < _; omega, ⟨by omega, by omega, by simp <;> omega⟩⟩
                  case measure =>
                    have e1 := HR1.out.atOf
                    have e2 := HR8.out.atOf
                    first | (rw [e1, e2]; omega) | (simp only [e1, e2]; omega) | omega
                · have n63 : ¬ (x1 : Int) = 63 := by omega
                  have d63 : decide ((x1 : Int) = 63) = false := by simp; omega
                  have HS0 : Hid (sgn (bt s a1) = 0) := by show _ = _; rw [← HX1.out]; unfold sgn; rw [if_neg e42, if_neg e43, if_neg e63]
                  go_wp2
                  go_ret
                  exact HEND.out HS0.out _ HBW5.out
          · have hj1 : ¬ (a1 : Int) < (s.size : Int) := by omega
            go_wp2_with fail
            go_quiet (fail)
            go_wp2
            go_ret
            exact HEND.out (by rw [bt_end hin1]; rfl) _ (below_drewN (Below.refl _ _) _)
    · have hi1 : (a : Int) ≥ (s.size : Int) := by omega
      have hP : Hid (P = none) := by
        show _ = _
        rw [HPQ.out, HQ.out]
        unfold sglP
        rw [if_neg (by rw [bt_end hin]; decide), if_neg (by rw [bt_end hin]; decide)]
        rfl
      go_wp2_with fail
      go_quiet (fail)
      go_wp2
      go_ret
      exact ⟨0, a, l, true, U, rfl, (HR.out.below (below_drewN (Below.refl _ _) _)).fail, ((Us.refl _ _).below (below_drewN (Below.refl _ _) _)).trans (us_set _), .inl ⟨rfl, .inr hP⟩, ⟨by omega, by omega, by omega, fun _ h => absurd h hin⟩⟩
end Go.Proofs.Ytdbogikcmfnpdaa

/-
  The program's reader of a path: rows, alternatives; all depths.
-/
namespace Go.Proofs.Ytdbogikcmfnpdaa
open Go.RowKit

theorem own_keptP {w w' : World} {B n : Nat} {v : Value} {xs : List Value} {q : Nat → Prop} (h : w.ownsRow B 3 1 v n xs) (hk : KeptP q w w') (hn : ∀ c, v.ownBlock = some c → ¬ q c) : w'.ownsRow B 3 1 v n xs := by
  refine ⟨h.1, ?_⟩
  rcases h.2 with h2 | ⟨g, cap, cur, rfl, hg, hh, r⟩
  · exact .inl h2
  · refine .inr ⟨g, cap, cur, rfl, hg, ?_, r⟩
    rw [hk.block g (Array.getElem?_eq_some_iff.1 hh).1 (hn g rfl)]
    exact hh
theorem RI.kept {B p a : Nat} {s : ByteArray} {w w' : World} {l : List Pc} {f : Bool} {U q : Nat → Prop} (h : RI B p s w a l f U) (hk : KeptP q w w') (hn : ∀ c, pU p U c → ¬ q c) : RI B p s w' a l f U := by
  obtain ⟨v, h1, h2, h3⟩ := h
  exact ⟨v, hk.blk h1 (hn p (.inl rfl)), h2.kept hk (fun c hc => hn c (.inr hc)), h3⟩
theorem Us.frame {w w1 : World} {A C : Nat → Prop} (R : Nat → Prop) (h : Us w A w1 C) : Us w (fun c => A c ∨ R c) w1 (fun c => C c ∨ R c) :=
  ⟨h.1.mono (fun _ hc => .inl hc), fun c hc => hc.elim (fun h1 => (h.2 c h1).imp .inl id) (fun h1 => .inl (.inr h1))⟩
/-- a kid more behind the kids -/
theorem kid_more {g cap n : Nat} {w3 w6 : World} {v : Value} {U : Nat → Prop} {o : Obj} (hg : (w3.alloc o).grownBy w6 v.ownBlock) (hloc : v.ownBlock = some g ∨ g = w3.heap.size + 1) (hUl : ∀ c, U c → c < w3.heap.size) (hne : ∀ c, v.ownBlock = some c → ¬ U c) :
    KeptP (fun c => v.ownBlock = some c) w3 w6 ∧ (∀ c, (Value.slice (some ⟨g, 0, none⟩) (n + 1) cap).ownBlock = some c → ¬ U c) ∧ Us w3 (fun c => U c ∨ v.ownBlock = some c) w6 (fun c => U c ∨ (Value.slice (some ⟨g, 0, none⟩) (n + 1) cap).ownBlock = some c) := by
  have hk : KeptP (fun c => v.ownBlock = some c) w3 w6 := (KeptP.of_below (below1 w3 o) (fun _ hk _ => hk)).trans ⟨hg.os, hg.tape, hg.output, hg.size, fun k hk hn => hg.block k hk (fun e => hn e.symm)⟩
  refine ⟨hk, fun c hc hu => ?_, hk.mono (fun c hc => .inr hc), fun c hc => ?_⟩
  · have e5 : g = c := by simpa [Value.ownBlock] using hc
    subst e5
    rcases hloc with h | h
    · exact hne _ h hu
    · have := hUl _ hu; omega
  · rcases hc with hc | hc
    · exact .inl (.inl hc)
    · have e5 : g = c := by simpa [Value.ownBlock] using hc
      subst e5
      rcases hloc with h | h
      · exact .inl (.inr h)
      · right; omega

set_option maxHeartbeats 2000000 in
set_option maxRecDepth 100000 in
theorem row_any (s : ByteArray) (d : Nat) (hd : ∀ d', d = d' + 1 → AltOK s d') (hs : s.size ≤ 20) (B p a : Nat) (l : List Pc) (f : Bool) (U : Nat → Prop) (w : World) (hr : RI B p s w a l f U) (hB : B ≤ w.heap.size) (hl : l.length + 3 * (2 * s.size - a) ≤ 200) (ha : a ≤ s.size) (had : s.size ≤ a + d) :
    Calls Try.prog 61 #[.pointer (some ⟨p, 0, none⟩)] w fun e w' => APost s.size B p s w a l f U (rowP (bt s) s.size (altP (bt s) s.size d) a l) e w' := by
  have HD : Hid (∀ (B p a : Nat) (l : List Pc) (f : Bool) (U : Nat → Prop) (w : World), RI B p s w a l f U → B ≤ w.heap.size → l.length + 3 * (2 * s.size - a) ≤ 200 → a ≤ s.size → s.size ≤ a + d → Calls Try.prog 81 #[.pointer (some ⟨p, 0, none⟩)] w fun e w' => OPost s.size B p s w a l f U (oneP (bt s) s.size (altP (bt s) s.size d) a l) e w') := fun B p a l f U w h1 h2 h3 h4 h5 => repeated_any s d hd hs B p a l f U w h1 h2 h3 h4 h5
  have HC := HD.out B p a l f U w hr hB hl ha had
  obtain ⟨O, HO⟩ : ∃ O, Hid (O = oneP (bt s) s.size (altP (bt s) s.size d)) := ⟨_, rfl⟩
  obtain ⟨P, HP⟩ : ∃ P, Hid (P = rowP (bt s) s.size (altP (bt s) s.size d) a l) := ⟨_, rfl⟩
  have HPQ : Hid (P = rowK O (bt s) s.size (O a l)) := by show _ = _; rw [HP.out, HO.out]; rfl
  rw [← HO.out] at HD HC
  rw [← HP.out]
  obtain ⟨i3, hi3, hz30, hz31, hz32⟩ := info_parts Try.info3
  clear hr hd HP HO
  go_enter Try.func61, Try.ntmps61
  go_wp2_with fail
  refine HC.mono ?_
  rintro e w1 ⟨k0, a0, l0, f0, U0, rfl, HR0, HU0, HF0, HB0⟩
  obtain ⟨hb1, hb2, hb3, _⟩ := HB0.out
  have hB1 : B ≤ w1.heap.size := by have := HU0.out.1.size; omega
  have hw01 := HU0.out.1.size
  have HBA : Hid (Below w1.heap.size w1 (w1.alloc (.cells #[.int .i64 k0] 3))) := below1 _ _
  have HOW0 : Hid ((w1.alloc (.cells #[.int .i64 k0] 3)).ownsRow B 3 1 (.slice (some ⟨w1.heap.size, 0, none⟩) 1 1) 1 (rowCells [k0])) := own_one w1 B (.int .i64 k0) hB1
  have hR0l := HR0.out.lt
  clear HC
  go_wp2
  go_loopw [3] (fun v wr => ∃ (v3 : Value) (ks : List Int) (n a1 : Nat) (l1 : List Pc) (f1 : Bool) (U1 : Nat → Prop) (fu : Nat), v3 = v ∧ Hid (wr.ownsRow B 3 1 v3 n (rowCells ks)) ∧ Hid (∀ c, v3.ownBlock = some c → ¬ pU p U1 c) ∧ Hid (ks.length = n ∧ 1 ≤ n ∧ n ≤ 100) ∧ Hid (RI B p s wr a1 l1 f1 U1) ∧ Hid (Us w (pU p U) wr (fun c => pU p U1 c ∨ v3.ownBlock = some c)) ∧
    Hid ((f1 = true ∧ (f = true ∨ P = none)) ∨ (f = false ∧ f1 = false ∧ P = (rowL O (bt s) fu a1 l1 ks).map (closeP 2))) ∧ Hid (s.size < a1 + fu) ∧ Hid (a ≤ a1 ∧ a1 ≤ 2 * s.size - a ∧ l1.length ≤ l.length + 3 * (a1 - a) ∧ (1 < n → l1.length + 2 ≤ l.length + 3 * (a1 - a)) ∧ n ≤ 1 + (a1 - a))) (fun _ wr => s.size + 1 - atOf wr p)
  case atStart =>
    refine ⟨_, [k0], 1, a0, l0, f0, U0, s.size + 1, rfl, HOW0, ?_, ⟨rfl, by omega, by omega⟩, HR0.out.below HBA.out, ⟨(HU0.out.below HBA.out).1, fun c hc => ?_⟩, ?_, by show _ < _; omega, ⟨hb1, hb2, hb3, fun h => by omega, by omega⟩⟩
    · intro c hc hu
      have e5 : w1.heap.size = c := by simpa [Value.ownBlock] using hc
      have := hR0l c hu; omega
    · rcases hc with hc | hc
      · exact HU0.out.2 c hc
      · have e5 : w1.heap.size = c := by simpa [Value.ownBlock] using hc
        right; omega
    · rcases HF0.out with ⟨h1, h2⟩ | ⟨h1, h2, h3⟩
      · exact .inl ⟨h1, h2.imp id (fun h => by rw [HPQ.out, h]; rfl)⟩
      · exact .inr ⟨h1, h2, by rw [HPQ.out, h3]; rfl⟩
  case round =>
    obtain ⟨V, rfl⟩ : ∃ V, V = wr := ⟨_, rfl⟩
    obtain ⟨v3, ks, n, a1, l1, f1, U1, fu, rfl, HOW, HNE, HKL, HR1, HU1, HF1, HFU, HB1⟩ := hrel
    obtain ⟨hb1, hb2, hb3, hb4, hb5⟩ := HB1.out
    have HB4 : Hid (1 < n → l1.length + 2 ≤ l.length + 3 * (a1 - a)) := hb4
    have hfu := HFU.out
    have hn1 := HKL.out.2.1
    clear hb4
    obtain ⟨x, HX⟩ : ∃ x, Hid (x = bt s a1) := ⟨_, rfl⟩
    have hx256 : x < 256 := by rw [HX.out]; exact bt_256 _ _
    obtain ⟨c0, c1, _, _⟩ := HR1.out.cells
    have hBV : B ≤ V.heap.size := by have := HU1.out.1.size; omega
    go_wp2_with fail
    refine (next_any p s a1 x V (by omega) c0 c1 HX.out).mono ?_
    rintro e w2 ⟨rfl, HB2⟩
    have HR2 : Hid (RI B p s w2 a1 l1 f1 U1) := HR1.out.below HB2.out
    have HU2 : Hid (Us w (pU p U) w2 (fun c => pU p U1 c ∨ v3.ownBlock = some c)) := HU1.out.below HB2.out
    have HOW2 : Hid (w2.ownsRow B 3 1 v3 n (rowCells ks)) := own_below HOW.out HB2.out
    have hB2 : B ≤ w2.heap.size := Nat.le_trans hBV HB2.out.size
    clear c0 c1
    obtain ⟨r, HRL⟩ : ∃ r, Hid (r = isL (x : Int)) := ⟨_, rfl⟩
    go_wp2_with fail
    refine (isLabel_any (x : Int) r w2 HRL.out).mono ?_
    rintro e w2' ⟨rfl, rfl⟩
    rcases Bool.eq_false_or_eq_true r with hr | hr
    · subst hr
      have HL : Hid (isLab (bt s a1) = true) := by show isL _ = true; rw [← HX.out, ← HRL.out]
      have HGO : Hid ((isLab (bt s a1) || decide (bt s a1 = 40)) = true) := by show _ = _; rw [HL.out]; rfl
      have hin : a1 < s.size := bt_in (isLab_0 HL.out).1
      obtain ⟨fv, rfl⟩ : ∃ fv, fu = fv + 1 := ⟨fu - 1, by omega⟩
      have hUl := HR2.out.lt
      have HC := HD.out B p a1 l1 f1 U1 w2 HR2.out hB2 (by omega) (by omega) (by omega)
      go_wp2_with fail
      refine HC.mono ?_
      rintro e w3 ⟨k2, a2, l2, f2, U2, rfl, HR3, HU3, HF3, HB3⟩
      clear HC
      have HUS : Hid (Us w2 (pU p U1) w3 (pU p U2)) := HU3.out
      have hb6 := HB3.out.1
      have hb7 := HB3.out.2.1
      have hb8 := HB3.out.2.2.1
      have hb9 := HB3.out.2.2.2 HGO.out
      have HV2 : Hid (∀ c, v3.ownBlock = some c → c < w2.heap.size) := fun c hc => (HOW2.out.lt c hc).2
      have HOW3 : Hid (w3.ownsRow B 3 1 v3 n (rowCells ks)) := own_keptP HOW2.out HUS.out.1 HNE.out
      have HNE3 : Hid (∀ c, v3.ownBlock = some c → ¬ pU p U2 c) := fun c hc hu => (HUS.out.2 c hu).elim (HNE.out c hc) (fun h => by have := HV2.out c hc; omega)
      have HUV : Hid (Us w (pU p U) w3 (fun c => pU p U2 c ∨ v3.ownBlock = some c)) := HU2.out.trans (HUS.out.frame _)
      have hB3 : B ≤ w3.heap.size := by have := HUS.out.1.size; omega
      have hown := HOW3.out.alloc (.cells #[.int .i64 k2] 3)
      have hn100 : n ≤ 1000 := by have := HKL.out.2.2; omega
      go_wp2_with (at_builtin; refine wpList_append_lies _ rfl (.tmp 15) (.tmp 18) 29 rfl B 3 i3 (.int .i64 0) 1 8 Try.underlying29 hi3 hz30 hz31 hz32 rfl (by decide) _ n (rowCells ks) rfl hown ⟨w3.heap.size, 0, none⟩ 1 1 [.int .i64 k2] rfl rfl (cell_one_new' w3 (.int .i64 k2) 3) (by simp [Value.oneCell']) (by decide) (by unfold maxLen; omega) (by omega) (by simp; omega) _ rfl ?_)
      intro g5 cap5 w6 hown5 hgrow5 hloc5 hg5
      obtain ⟨hk1, hk2, hk3⟩ := kid_more (n := n) (cap := cap5) (U := pU p U2) hgrow5 (hloc5.imp id (fun h => by simpa using h)) HR3.out.lt HNE3.out
      have HR6 : Hid (RI B p s w6 a2 l2 f2 U2) := HR3.out.kept hk1 (fun c hc e => HNE3.out c e hc)
      have HU6 : Hid (Us w (pU p U) w6 (fun c => pU p U2 c ∨ (Value.slice (some ⟨g5, 0, none⟩) (n + 1) cap5).ownBlock = some c)) := HUV.out.trans hk3
      have HN6 : Hid (∀ c, (Value.slice (some ⟨g5, 0, none⟩) (n + 1) cap5).ownBlock = some c → ¬ pU p U2 c) := hk2
      have HO6 : Hid (w6.ownsRow B 3 1 (.slice (some ⟨g5, 0, none⟩) (n + 1) cap5) (n + 1) (rowCells (ks ++ [k2]))) := by rw [rowCells_snoc]; exact hown5
      have HF6 : Hid ((f2 = true ∧ (f = true ∨ P = none)) ∨ (f = false ∧ f2 = false ∧ P = (rowL O (bt s) fv a2 l2 (ks ++ [k2])).map (closeP 2))) := by
        rcases HF1.out with ⟨h1, h2⟩ | ⟨h1, h2, h3⟩
        · rcases HF3.out with ⟨h4, _⟩ | ⟨h4, _, _⟩
          · exact .inl ⟨h4, h2⟩
          · rw [h1] at h4; cases h4
        · rcases HF3.out with ⟨h4, h5 | h5⟩ | ⟨h4, h5, h6⟩
          · rw [h2] at h5; cases h5
          · exact .inl ⟨h4, .inr (by rw [h3, rowL_none HGO.out h5]; rfl)⟩
          · exact .inr ⟨h1, h5, by rw [h3, rowL_go HGO.out h6]⟩
      clear hown hown5 hgrow5 hloc5 hg5 hk1 hk2 hk3 hUl
      go_wp2
      go_roundw
      case rel => exact ⟨_, ks ++ [k2], n + 1, a2, l2, f2, U2, fv, rfl, HO6, HN6, ⟨by rw [List.length_append, HKL.out.1]; rfl, by omega, by omega⟩, HR6, HU6, HF6, by show _ < _; omega, ⟨by omega, by omega, by omega, fun _ => by omega, by omega⟩⟩
      case measure =>
        have e1 := HR1.out.atOf
        have e2 := HR6.out.atOf
        first | (rw [e1, e2]; omega) | (simp only [e1, e2]; omega) | omega
    · subst hr
      have HL : Hid (isLab (bt s a1) = false) := by show isL _ = false; rw [← HX.out, ← HRL.out]
      obtain ⟨c0, c1, _, _⟩ := HR2.out.cells
      go_wp2_with fail
      refine (next_any p s a1 x w2 (by omega) c0 c1 HX.out).mono ?_
      rintro e w4 ⟨rfl, HB4X⟩
      have HR4 : Hid (RI B p s w4 a1 l1 f1 U1) := HR2.out.below HB4X.out
      have HU4 : Hid (Us w (pU p U) w4 (fun c => pU p U1 c ∨ v3.ownBlock = some c)) := HU2.out.below HB4X.out
      have HOW4 : Hid (w4.ownsRow B 3 1 v3 n (rowCells ks)) := own_below HOW2.out HB4X.out
      have hB4 : B ≤ w4.heap.size := Nat.le_trans hB2 HB4X.out.size
      clear c0 c1
      by_cases h40 : x = 40
      · subst h40
        have HGO : Hid ((isLab (bt s a1) || decide (bt s a1 = 40)) = true) := by show _ = _; rw [← HX.out]; simp
        have hin : a1 < s.size := bt_in (by rw [← HX.out]; omega)
        obtain ⟨fv, rfl⟩ : ∃ fv, fu = fv + 1 := ⟨fu - 1, by omega⟩
        have hUl := HR4.out.lt
        have HC := HD.out B p a1 l1 f1 U1 w4 HR4.out hB4 (by omega) (by omega) (by omega)
        go_wp2_with fail
        refine HC.mono ?_
        rintro e w3 ⟨k2, a2, l2, f2, U2, rfl, HR3, HU3, HF3, HB3⟩
        clear HC
        have HUS : Hid (Us w4 (pU p U1) w3 (pU p U2)) := HU3.out
        have hb6 := HB3.out.1
        have hb7 := HB3.out.2.1
        have hb8 := HB3.out.2.2.1
        have hb9 := HB3.out.2.2.2 HGO.out
        have HV2 : Hid (∀ c, v3.ownBlock = some c → c < w4.heap.size) := fun c hc => (HOW4.out.lt c hc).2
        have HOW3 : Hid (w3.ownsRow B 3 1 v3 n (rowCells ks)) := own_keptP HOW4.out HUS.out.1 HNE.out
        have HNE3 : Hid (∀ c, v3.ownBlock = some c → ¬ pU p U2 c) := fun c hc hu => (HUS.out.2 c hu).elim (HNE.out c hc) (fun h => by have := HV2.out c hc; omega)
        have HUV : Hid (Us w (pU p U) w3 (fun c => pU p U2 c ∨ v3.ownBlock = some c)) := HU4.out.trans (HUS.out.frame _)
        have hB3 : B ≤ w3.heap.size := by have := HUS.out.1.size; omega
        have hown := HOW3.out.alloc (.cells #[.int .i64 k2] 3)
        have hn100 : n ≤ 1000 := by have := HKL.out.2.2; omega
        go_wp2_with (at_builtin; refine wpList_append_lies _ rfl (.tmp 15) (.tmp 18) 29 rfl B 3 i3 (.int .i64 0) 1 8 Try.underlying29 hi3 hz30 hz31 hz32 rfl (by decide) _ n (rowCells ks) rfl hown ⟨w3.heap.size, 0, none⟩ 1 1 [.int .i64 k2] rfl rfl (cell_one_new' w3 (.int .i64 k2) 3) (by simp [Value.oneCell']) (by decide) (by unfold maxLen; omega) (by omega) (by simp; omega) _ rfl ?_)
        intro g5 cap5 w6 hown5 hgrow5 hloc5 hg5
        obtain ⟨hk1, hk2, hk3⟩ := kid_more (n := n) (cap := cap5) (U := pU p U2) hgrow5 (hloc5.imp id (fun h => by simpa using h)) HR3.out.lt HNE3.out
        have HR6 : Hid (RI B p s w6 a2 l2 f2 U2) := HR3.out.kept hk1 (fun c hc e => HNE3.out c e hc)
        have HU6 : Hid (Us w (pU p U) w6 (fun c => pU p U2 c ∨ (Value.slice (some ⟨g5, 0, none⟩) (n + 1) cap5).ownBlock = some c)) := HUV.out.trans hk3
        have HN6 : Hid (∀ c, (Value.slice (some ⟨g5, 0, none⟩) (n + 1) cap5).ownBlock = some c → ¬ pU p U2 c) := hk2
        have HO6 : Hid (w6.ownsRow B 3 1 (.slice (some ⟨g5, 0, none⟩) (n + 1) cap5) (n + 1) (rowCells (ks ++ [k2]))) := by rw [rowCells_snoc]; exact hown5
        have HF6 : Hid ((f2 = true ∧ (f = true ∨ P = none)) ∨ (f = false ∧ f2 = false ∧ P = (rowL O (bt s) fv a2 l2 (ks ++ [k2])).map (closeP 2))) := by
          rcases HF1.out with ⟨h1, h2⟩ | ⟨h1, h2, h3⟩
          · rcases HF3.out with ⟨h4, _⟩ | ⟨h4, _, _⟩
            · exact .inl ⟨h4, h2⟩
            · rw [h1] at h4; cases h4
          · rcases HF3.out with ⟨h4, h5 | h5⟩ | ⟨h4, h5, h6⟩
            · rw [h2] at h5; cases h5
            · exact .inl ⟨h4, .inr (by rw [h3, rowL_none HGO.out h5]; rfl)⟩
            · exact .inr ⟨h1, h5, by rw [h3, rowL_go HGO.out h6]⟩
        clear hown hown5 hgrow5 hloc5 hg5 hk1 hk2 hk3 hUl
        go_wp2
        go_roundw
        case rel => exact ⟨_, ks ++ [k2], n + 1, a2, l2, f2, U2, fv, rfl, HO6, HN6, ⟨by rw [List.length_append, HKL.out.1]; rfl, by omega, by omega⟩, HR6, HU6, HF6, by show _ < _; omega, ⟨by omega, by omega, by omega, fun _ => by omega, by omega⟩⟩
        case measure =>
          have e1 := HR1.out.atOf
          have e2 := HR6.out.atOf
          first | (rw [e1, e2]; omega) | (simp only [e1, e2]; omega) | omega
      · have hy : ¬ (x : Int) = 40 := by omega
        have hyd : decide ((x : Int) = 40) = false := by simp; omega
        have HST : Hid ((isLab (bt s a1) || decide (bt s a1 = 40)) = false) := by show _ = _; rw [HL.out, ← HX.out]; simp [h40]
        have HEN : Hid (rowL O (bt s) fu a1 l1 ks = some (a1, l1, ks)) := rowL_end HST.out
        rw [HEN.out] at HF1
        go_wp2_with fail
        refine (addAll_any B p s a1 l1 f1 U1 2 v3 n ks _ HR4.out hB4 (by omega) HOW4.out HKL.out.1 hn1 HNE.out).mono ?_
        rintro e w5 ⟨k5, l5, U5, rfl, HCL, HR5, HU5, HL5⟩
        have h51 := HL5.out.1
        have h52 := HL5.out.2
        go_wp2
        go_ret
        refine ⟨k5, a1, l5, f1, U5, rfl, HR5, HU4.out.trans HU5.out, ?_, ?_⟩
        · rcases HF1.out with h | ⟨h1, h2, h3⟩
          · exact .inl h
          · exact .inr ⟨h1, h2, by rw [h3, ← HCL.out]; rfl⟩
        · show _ ∧ _
          refine ⟨hb1, hb2, ?_⟩
          by_cases e : n = 1
          · rw [h52 e]; exact hb3
          · have := HB4.out (by omega); omega

set_option maxHeartbeats 2000000 in
set_option maxRecDepth 100000 in
theorem alternatives_any (s : ByteArray) (d : Nat) (hd : ∀ d', d = d' + 1 → AltOK s d') (hs : s.size ≤ 20) (B p a : Nat) (l : List Pc) (f : Bool) (U : Nat → Prop) (w : World) (hr : RI B p s w a l f U) (hB : B ≤ w.heap.size) (hl : l.length + 3 * (2 * s.size - a) ≤ 200) (ha : a ≤ s.size) (had : s.size ≤ a + d) :
    Calls Try.prog 40 #[.pointer (some ⟨p, 0, none⟩)] w fun e w' => APost s.size B p s w a l f U (altP (bt s) s.size (d + 1) a l) e w' := by
  have HD : Hid (∀ (B p a : Nat) (l : List Pc) (f : Bool) (U : Nat → Prop) (w : World), RI B p s w a l f U → B ≤ w.heap.size → l.length + 3 * (2 * s.size - a) ≤ 200 → a ≤ s.size → s.size ≤ a + d → Calls Try.prog 61 #[.pointer (some ⟨p, 0, none⟩)] w fun e w' => APost s.size B p s w a l f U (rowP (bt s) s.size (altP (bt s) s.size d) a l) e w') := fun B p a l f U w h1 h2 h3 h4 h5 => row_any s d hd hs B p a l f U w h1 h2 h3 h4 h5
  have HC := HD.out B p a l f U w hr hB hl ha had
  obtain ⟨O, HO⟩ : ∃ O, Hid (O = rowP (bt s) s.size (altP (bt s) s.size d)) := ⟨_, rfl⟩
  obtain ⟨P, HP⟩ : ∃ P, Hid (P = altP (bt s) s.size (d + 1) a l) := ⟨_, rfl⟩
  have HPQ : Hid (P = altK O (bt s) s.size (O a l)) := by show _ = _; rw [HP.out, HO.out]; rfl
  rw [← HO.out] at HD HC
  rw [← HP.out]
  obtain ⟨i3, hi3, hz30, hz31, hz32⟩ := info_parts Try.info3
  clear hr hd HP HO
  go_enter Try.func40, Try.ntmps40
  go_wp2_with fail
  refine HC.mono ?_
  rintro e w1 ⟨k0, a0, l0, f0, U0, rfl, HR0, HU0, HF0, HB0⟩
  obtain ⟨hb1, hb2, hb3⟩ := HB0.out
  have hB1 : B ≤ w1.heap.size := by have := HU0.out.1.size; omega
  have hw01 := HU0.out.1.size
  have HBA : Hid (Below w1.heap.size w1 (w1.alloc (.cells #[.int .i64 k0] 3))) := below1 _ _
  have HOW0 : Hid ((w1.alloc (.cells #[.int .i64 k0] 3)).ownsRow B 3 1 (.slice (some ⟨w1.heap.size, 0, none⟩) 1 1) 1 (rowCells [k0])) := own_one w1 B (.int .i64 k0) hB1
  have hR0l := HR0.out.lt
  clear HC
  go_wp2
  go_loopw [3] (fun v wr => ∃ (v3 : Value) (ks : List Int) (n a1 : Nat) (l1 : List Pc) (f1 : Bool) (U1 : Nat → Prop) (fu : Nat), v3 = v ∧ Hid (wr.ownsRow B 3 1 v3 n (rowCells ks)) ∧ Hid (∀ c, v3.ownBlock = some c → ¬ pU p U1 c) ∧ Hid (ks.length = n ∧ 1 ≤ n ∧ n ≤ 100) ∧ Hid (RI B p s wr a1 l1 f1 U1) ∧ Hid (Us w (pU p U) wr (fun c => pU p U1 c ∨ v3.ownBlock = some c)) ∧
    Hid ((f1 = true ∧ (f = true ∨ P = none)) ∨ (f = false ∧ f1 = false ∧ P = (altL O (bt s) fu a1 l1 ks).map (closeP 3))) ∧ Hid (s.size < a1 + fu) ∧ Hid (a ≤ a1 ∧ a1 ≤ 2 * s.size - a ∧ l1.length ≤ l.length + 3 * (a1 - a) ∧ (1 < n → l1.length + 3 ≤ l.length + 3 * (a1 - a)) ∧ n ≤ 1 + (a1 - a))) (fun _ wr => s.size + 1 - atOf wr p)
  case atStart =>
    refine ⟨_, [k0], 1, a0, l0, f0, U0, s.size + 1, rfl, HOW0, ?_, ⟨rfl, by omega, by omega⟩, HR0.out.below HBA.out, ⟨(HU0.out.below HBA.out).1, fun c hc => ?_⟩, ?_, by show _ < _; omega, ⟨hb1, hb2, hb3, fun h => by omega, by omega⟩⟩
    · intro c hc hu
      have e5 : w1.heap.size = c := by simpa [Value.ownBlock] using hc
      have := hR0l c hu; omega
    · rcases hc with hc | hc
      · exact HU0.out.2 c hc
      · have e5 : w1.heap.size = c := by simpa [Value.ownBlock] using hc
        right; omega
    · rcases HF0.out with ⟨h1, h2⟩ | ⟨h1, h2, h3⟩
      · exact .inl ⟨h1, h2.imp id (fun h => by rw [HPQ.out, h]; rfl)⟩
      · exact .inr ⟨h1, h2, by rw [HPQ.out, h3]; rfl⟩
  case round =>
    obtain ⟨V, rfl⟩ : ∃ V, V = wr := ⟨_, rfl⟩
    obtain ⟨v3, ks, n, a1, l1, f1, U1, fu, rfl, HOW, HNE, HKL, HR1, HU1, HF1, HFU, HB1⟩ := hrel
    obtain ⟨hb1, hb2, hb3, hb4, hb5⟩ := HB1.out
    have HB4 : Hid (1 < n → l1.length + 3 ≤ l.length + 3 * (a1 - a)) := hb4
    have hfu := HFU.out
    have hn1 := HKL.out.2.1
    clear hb4
    obtain ⟨x, HX⟩ : ∃ x, Hid (x = bt s a1) := ⟨_, rfl⟩
    have hx256 : x < 256 := by rw [HX.out]; exact bt_256 _ _
    obtain ⟨c0, c1, _, _⟩ := HR1.out.cells
    have hBV : B ≤ V.heap.size := by have := HU1.out.1.size; omega
    go_wp2_with fail
    refine (next_any p s a1 x V (by omega) c0 c1 HX.out).mono ?_
    rintro e w2 ⟨rfl, HB2⟩
    have HR2 : Hid (RI B p s w2 a1 l1 f1 U1) := HR1.out.below HB2.out
    have HU2 : Hid (Us w (pU p U) w2 (fun c => pU p U1 c ∨ v3.ownBlock = some c)) := HU1.out.below HB2.out
    have HOW2 : Hid (w2.ownsRow B 3 1 v3 n (rowCells ks)) := own_below HOW.out HB2.out
    have hB2 : B ≤ w2.heap.size := Nat.le_trans hBV HB2.out.size
    clear c0 c1
    by_cases h124 : x = 124
    · subst h124
      have HGO : Hid (bt s a1 = 124) := HX.out.symm
      have hin : a1 < s.size := bt_in (by rw [← HX.out]; omega)
      obtain ⟨fv, rfl⟩ : ∃ fv, fu = fv + 1 := ⟨fu - 1, by omega⟩
      have hUl := HR2.out.lt
      obtain ⟨c0, c1, _, cf⟩ := HR2.out.cells
      have fz1 := cf 1
      have HRS : Hid (RI B p s (w2.setCell ⟨p, 1, none⟩ (.int .i64 ((a1 : Int) + 1))) (a1 + 1) l1 f1 U1) := HR2.out.step
      have HC := HD.out B p (a1 + 1) l1 f1 U1 _ HRS.out (by simpa using hB2) (by omega) (by omega) (by omega)
      go_wp2_with fail
      refine HC.mono ?_
      rintro e w3 ⟨k2, a2, l2, f2, U2, rfl, HR3, HU3, HF3, HB3⟩
      clear HC
      have HUS : Hid (Us w2 (pU p U1) w3 (pU p U2)) := (us_set _).trans HU3.out
      clear c0 c1 cf fz1
      have hb6 := HB3.out.1
      have hb7 := HB3.out.2.1
      have hb8 := HB3.out.2.2
      have HV2 : Hid (∀ c, v3.ownBlock = some c → c < w2.heap.size) := fun c hc => (HOW2.out.lt c hc).2
      have HOW3 : Hid (w3.ownsRow B 3 1 v3 n (rowCells ks)) := own_keptP HOW2.out HUS.out.1 HNE.out
      have HNE3 : Hid (∀ c, v3.ownBlock = some c → ¬ pU p U2 c) := fun c hc hu => (HUS.out.2 c hu).elim (HNE.out c hc) (fun h => by have := HV2.out c hc; omega)
      have HUV : Hid (Us w (pU p U) w3 (fun c => pU p U2 c ∨ v3.ownBlock = some c)) := HU2.out.trans (HUS.out.frame _)
      have hB3 : B ≤ w3.heap.size := by have := HUS.out.1.size; omega
      have hown := HOW3.out.alloc (.cells #[.int .i64 k2] 3)
      have hn100 : n ≤ 1000 := by have := HKL.out.2.2; omega
      go_wp2_with (at_builtin; refine wpList_append_lies _ rfl (.tmp 17) (.tmp 20) 29 rfl B 3 i3 (.int .i64 0) 1 8 Try.underlying29 hi3 hz30 hz31 hz32 rfl (by decide) _ n (rowCells ks) rfl hown ⟨w3.heap.size, 0, none⟩ 1 1 [.int .i64 k2] rfl rfl (cell_one_new' w3 (.int .i64 k2) 3) (by simp [Value.oneCell']) (by decide) (by unfold maxLen; omega) (by omega) (by simp; omega) _ rfl ?_)
      intro g5 cap5 w6 hown5 hgrow5 hloc5 hg5
      obtain ⟨hk1, hk2, hk3⟩ := kid_more (n := n) (cap := cap5) (U := pU p U2) hgrow5 (hloc5.imp id (fun h => by simpa using h)) HR3.out.lt HNE3.out
      have HR6 : Hid (RI B p s w6 a2 l2 f2 U2) := HR3.out.kept hk1 (fun c hc e => HNE3.out c e hc)
      have HU6 : Hid (Us w (pU p U) w6 (fun c => pU p U2 c ∨ (Value.slice (some ⟨g5, 0, none⟩) (n + 1) cap5).ownBlock = some c)) := HUV.out.trans hk3
      have HN6 : Hid (∀ c, (Value.slice (some ⟨g5, 0, none⟩) (n + 1) cap5).ownBlock = some c → ¬ pU p U2 c) := hk2
      have HO6 : Hid (w6.ownsRow B 3 1 (.slice (some ⟨g5, 0, none⟩) (n + 1) cap5) (n + 1) (rowCells (ks ++ [k2]))) := by rw [rowCells_snoc]; exact hown5
      have HF6 : Hid ((f2 = true ∧ (f = true ∨ P = none)) ∨ (f = false ∧ f2 = false ∧ P = (altL O (bt s) fv a2 l2 (ks ++ [k2])).map (closeP 3))) := by
        rcases HF1.out with ⟨h1, h2⟩ | ⟨h1, h2, h3⟩
        · rcases HF3.out with ⟨h4, _⟩ | ⟨h4, _, _⟩
          · exact .inl ⟨h4, h2⟩
          · rw [h1] at h4; cases h4
        · rcases HF3.out with ⟨h4, h5 | h5⟩ | ⟨h4, h5, h6⟩
          · rw [h2] at h5; cases h5
          · exact .inl ⟨h4, .inr (by rw [h3, altL_none HGO.out h5]; rfl)⟩
          · exact .inr ⟨h1, h5, by rw [h3, altL_go HGO.out h6]⟩
      clear hown hown5 hgrow5 hloc5 hg5 hk1 hk2 hk3 hUl
      go_wp2
      go_roundw
      case rel => exact ⟨_, ks ++ [k2], n + 1, a2, l2, f2, U2, fv, rfl, HO6, HN6, ⟨by rw [List.length_append, HKL.out.1]; rfl, by omega, by omega⟩, HR6, HU6, HF6, by show _ < _; omega, ⟨by omega, by omega, by omega, fun _ => by omega, by omega⟩⟩
      case measure =>
        have e1 := HR1.out.atOf
        have e2 := HR6.out.atOf
        first | (rw [e1, e2]; omega) | (simp only [e1, e2]; omega) | omega
    · have hy : ¬ (x : Int) = 124 := by omega
      have hyd : decide ((x : Int) = 124) = false := by simp; omega
      have HST : Hid (bt s a1 ≠ 124) := by show _ ≠ _; rw [← HX.out]; exact h124
      have HEN : Hid (altL O (bt s) fu a1 l1 ks = some (a1, l1, ks)) := altL_end HST.out
      rw [HEN.out] at HF1
      go_wp2_with fail
      refine (addAll_any B p s a1 l1 f1 U1 3 v3 n ks _ HR2.out hB2 (by omega) HOW2.out HKL.out.1 hn1 HNE.out).mono ?_
      rintro e w5 ⟨k5, l5, U5, rfl, HCL, HR5, HU5, HL5⟩
      have h51 := HL5.out.1
      have h52 := HL5.out.2
      go_wp2
      go_ret
      refine ⟨k5, a1, l5, f1, U5, rfl, HR5, HU2.out.trans HU5.out, ?_, ?_⟩
      · rcases HF1.out with h | ⟨h1, h2, h3⟩
        · exact .inl h
        · exact .inr ⟨h1, h2, by rw [h3, ← HCL.out]; rfl⟩
      · show _ ∧ _
        refine ⟨hb1, hb2, ?_⟩
        by_cases e : n = 1
        · rw [h52 e]; exact hb3
        · have := HB4.out (by omega); omega

/-- alternatives, at whatever depth -/
theorem altOK (s : ByteArray) (hs : s.size ≤ 20) (d : Nat) : AltOK s d := by
  induction d with
  | zero => exact fun B p a l f U w h1 h2 h3 h4 h5 => alternatives_any s 0 (fun d' h => absurd h (by omega)) hs B p a l f U w h1 h2 h3 h4 h5
  | succ d ih =>
    refine fun B p a l f U w h1 h2 h3 h4 h5 => alternatives_any s (d + 1) (fun d' h => ?_) hs B p a l f U w h1 h2 h3 h4 h5
    have e : d = d' := by omega
    subst e
    exact ih
end Go.Proofs.Ytdbogikcmfnpdaa

/-
  The model's reader of a path: rows, alternatives; all depths.
-/
namespace Go.Proofs.Ytdbogikcmfnpdaa
open Go.RowKit

theorem RS.kept {B p a : Nat} {s : ByteArray} {w w' : World} {l : List Pc} {f : Bool} {U q : Nat → Prop} (h : RS B p s w a l f U) (hk : KeptP q w w') (hn : ∀ c, pU p U c → ¬ q c) : RS B p s w' a l f U := by
  obtain ⟨v, h1, h2, h3⟩ := h
  exact ⟨v, hk.blk h1 (hn p (.inl rfl)), h2.kept hk (fun c hc => hn c (.inr hc)), h3⟩
/-- it failed, and rightly -/
def BadP (s : ByteArray) (f : Bool) (P : Option St) : Prop := f = true ∨ P = none ∨ ∃ x, P = some x ∧ ¬ okStop s x.1
theorem closeP_at (op : Int) (x : Nat × List Pc × List Int) : (closeP op x).1 = x.1 := by unfold closeP; split <;> rfl
theorem lab_not {s : ByteArray} {a : Nat} (h : (isLab (bt s a) || decide (bt s a = 40)) = false) {N : Nat} {A : Nat → List Pc → Option St} {l : List Pc} : oneP (bt s) N A a l = none := by
  simp only [Bool.or_eq_false_iff, decide_eq_false_iff_not] at h
  unfold oneP sglP
  rw [if_neg (by rw [h.1]; simp), if_neg h.2]
  rfl

set_option maxHeartbeats 4000000 in
set_option maxRecDepth 100000 in
theorem rowS_any (s : ByteArray) (d : Nat) (hd : ∀ d', d = d' + 1 → AltSOK s d') (hs : s.size ≤ 20) (B p a : Nat) (l : List Pc) (f : Bool) (U : Nat → Prop) (w : World) (hr : RS B p s w a l f U) (hB : B ≤ w.heap.size) (hl : l.length + 3 * (2 * s.size - a) ≤ 200) (ha : a ≤ s.size) (had : s.size ≤ a + d) :
    Calls Try.prog 79 #[.pointer (some ⟨p, 0, none⟩)] w fun e w' => WPost s.size B p s w a l f U (rowP (bt s) s.size (altP (bt s) s.size d) a l) e w' := by
  have HD : Hid (∀ (B p a : Nat) (l : List Pc) (f : Bool) (U : Nat → Prop) (w : World), RS B p s w a l f U → B ≤ w.heap.size → l.length + 3 * (2 * s.size - a) ≤ 200 → a ≤ s.size → s.size ≤ a + d → Calls Try.prog 91 #[.pointer (some ⟨p, 0, none⟩)] w fun e w' => NPost s.size B p s w a l f U (oneP (bt s) s.size (altP (bt s) s.size d) a l) e w') := fun B p a l f U w h1 h2 h3 h4 h5 => one_any s d hd hs B p a l f U w h1 h2 h3 h4 h5
  have HC := HD.out B p a l f U w hr hB hl ha had
  obtain ⟨O, HO⟩ : ∃ O, Hid (O = oneP (bt s) s.size (altP (bt s) s.size d)) := ⟨_, rfl⟩
  obtain ⟨P, HP⟩ : ∃ P, Hid (P = rowP (bt s) s.size (altP (bt s) s.size d) a l) := ⟨_, rfl⟩
  have HPQ : Hid (P = rowK O (bt s) s.size (O a l)) := by show _ = _; rw [HP.out, HO.out]; rfl
  have HLN : Hid (∀ a1 l1, (isLab (bt s a1) || decide (bt s a1 = 40)) = false → O a1 l1 = none) := fun a1 l1 h => by rw [HO.out]; exact lab_not h
  rw [← HO.out] at HD HC
  rw [← HP.out]
  obtain ⟨i3, hi3, hz30, hz31, hz32⟩ := info_parts Try.info3
  clear hr hd HP HO
  go_enter Try.func79, Try.ntmps79
  go_wp2_with fail
  refine HC.mono ?_
  rintro e w1 ⟨k0, a0, l0, f0, U0, rfl, HR0, HU0, HF0, HB0⟩
  obtain ⟨hb1, hb2, hb3, _⟩ := HB0.out
  have hB1 : B ≤ w1.heap.size := by have := HU0.out.1.size; omega
  have hw01 := HU0.out.1.size
  have HBA : Hid (Below w1.heap.size w1 (w1.alloc (.cells #[.int .i64 k0] 3))) := below1 _ _
  have HOW0 : Hid ((w1.alloc (.cells #[.int .i64 k0] 3)).ownsRow B 3 1 (.slice (some ⟨w1.heap.size, 0, none⟩) 1 1) 1 (rowCells [k0])) := own_one w1 B (.int .i64 k0) hB1
  have hR0l := HR0.out.lt
  clear HC
  go_wp2_with fail
  go_loopw [3] (fun v wr => ∃ (v3 : Value) (ks : List Int) (n a1 : Nat) (l1 : List Pc) (f1 : Bool) (U1 : Nat → Prop) (fu : Nat), v3 = v ∧ Hid (wr.ownsRow B 3 1 v3 n (rowCells ks)) ∧ Hid (∀ c, v3.ownBlock = some c → ¬ pU p U1 c) ∧ Hid (ks.length = n ∧ 1 ≤ n ∧ n ≤ 100) ∧ Hid (RS B p s wr a1 l1 f1 U1) ∧ Hid (Us w (pU p U) wr (fun c => pU p U1 c ∨ v3.ownBlock = some c)) ∧
    Hid ((f1 = true ∧ BadP s f P) ∨ (f = false ∧ f1 = false ∧ P = (rowL O (bt s) fu a1 l1 ks).map (closeP 2))) ∧ Hid (s.size < a1 + fu) ∧ Hid (a ≤ a1 ∧ a1 ≤ 2 * s.size - a ∧ l1.length ≤ l.length + 3 * (a1 - a) ∧ (1 < n → l1.length + 2 ≤ l.length + 3 * (a1 - a)) ∧ n ≤ 1 + (a1 - a))) (fun _ wr => s.size + 1 - atOf wr p)
  case atStart =>
    refine ⟨_, [k0], 1, a0, l0, f0, U0, s.size + 1, rfl, HOW0, ?_, ⟨rfl, by omega, by omega⟩, HR0.out.below HBA.out, ⟨(HU0.out.below HBA.out).1, fun c hc => ?_⟩, ?_, by show _ < _; omega, ⟨hb1, hb2, hb3, fun h => by omega, by omega⟩⟩
    · intro c hc hu
      have e5 : w1.heap.size = c := by simpa [Value.ownBlock] using hc
      have := hR0l c hu; omega
    · rcases hc with hc | hc
      · exact HU0.out.2 c hc
      · have e5 : w1.heap.size = c := by simpa [Value.ownBlock] using hc
        right; omega
    · rcases HF0.out with ⟨h1, h2 | h2⟩ | ⟨h1, h2, h3⟩
      · exact .inl ⟨h1, .inl h2⟩
      · exact .inl ⟨h1, .inr (.inl (by rw [HPQ.out, h2]; rfl))⟩
      · exact .inr ⟨h1, h2, by rw [HPQ.out, h3]; rfl⟩
  case round =>
    obtain ⟨V, rfl⟩ : ∃ V, V = wr := ⟨_, rfl⟩
    obtain ⟨v3, ks, n, a1, l1, f1, U1, fu, rfl, HOW, HNE, HKL, HR1, HU1, HF1, HFU, HB1⟩ := hrel
    obtain ⟨hb1, hb2, hb3, hb4, hb5⟩ := HB1.out
    have HB4 : Hid (1 < n → l1.length + 2 ≤ l.length + 3 * (a1 - a)) := hb4
    have hfu := HFU.out
    have hn1 := HKL.out.2.1
    clear hb4
    obtain ⟨c0, c1, c2, _⟩ := HR1.out.cells
    have hBV : B ≤ V.heap.size := by have := HU1.out.1.size; omega
    rcases Bool.eq_false_or_eq_true f1 with hf | hf
    · subst hf
      go_wp2_with fail
      go_quiet (fail)
      obtain ⟨W2, HW2⟩ : ∃ W2, Hid (W2 = V.drewN nq) := ⟨_, rfl⟩
      have HB2 : Hid (Below V.heap.size V W2) := by rw [HW2.out]; exact below_drewN (Below.refl _ _) _
      rw [← HW2.out]
      have HR2 : Hid (RS B p s W2 a1 l1 true U1) := HR1.out.below HB2.out
      have HU2 : Hid (Us w (pU p U) W2 (fun c => pU p U1 c ∨ v3.ownBlock = some c)) := HU1.out.below HB2.out
      have HOW2 : Hid (W2.ownsRow B 3 1 v3 n (rowCells ks)) := own_below HOW.out HB2.out
      have hB2 : B ≤ W2.heap.size := Nat.le_trans hBV HB2.out.size
      clear c0 c1 c2 HW2
      have HFI : Hid ((true = true ∧ (f = true ∨ P = none ∨ ∃ x, P = some x ∧ ¬ okStop s x.1)) ∨ (f = false ∧ true = false ∧ P = some (closeP 2 (a1, l1, ks)) ∧ okStop s a1)) := by
        rcases HF1.out with ⟨_, h⟩ | ⟨_, h, _⟩
        · exact .inl ⟨rfl, h⟩
        · cases h
      obtain ⟨ra, rc, rfl, HK0⟩ := rowOwn_of HOW2.out HKL.out.1
      have HK : Hid (RowOwn B W2.heap.size W2 ra ks) := HK0
      by_cases e1 : n = 1
      · subst e1
        obtain ⟨b, o, rfl, hc⟩ := HK.out.toIn.num (i := 0) (by rw [HKL.out.1]; omega)
        obtain ⟨k, HKK⟩ : ∃ k, Hid (k = ks.getD 0 0) := ⟨_, rfl⟩
        rw [← HKK.out, Nat.add_zero] at hc
        have HCL : Hid (closeP 2 (a1, l1, ks) = (a1, l1, k)) := by show _ = _; unfold closeP; rw [if_pos HKL.out.1, ← HKK.out]
        rw [HCL.out] at HFI
        go_wp2
        go_ret
        exact ⟨k, a1, l1, true, U1, rfl, HR2, HU2.out.trans ⟨KeptP.refl _ _, fun c hc => .inl (.inl hc)⟩, (by show _ ∨ _; first | exact HFI | (have h0 := HFI.out; simpa using h0)), ⟨hb1, hb2, hb3⟩⟩
      · have hne1 : ¬ (n : Int) = 1 := by omega
        have hdec : decide ((n : Int) = 1) = false := by simp; omega
        have hn1x : 1 < n := by omega
        go_wp2_with fail
        refine (put_any B p s a1 l1 true U1 2 0 ra n rc ks W2 HR2.out hB2 (by omega) HK.out HKL.out.1 (fun h c hc hu => HNE.out c (by rw [hc]; rfl) hu)).mono ?_
        rintro e w5 ⟨rfl, U5, h1, h2⟩
        have HR5 : Hid (RS B p s w5 a1 (l1 ++ [(2, 0, ks)]) true U5) := h1
        have HU5 : Hid (Us w (pU p U) w5 (pU p U5)) := HU2.out.trans (h2.weak (fun c hc => hc.elim (fun h => .inl (.inl h)) (fun h => .inl (.inr (by rw [h]; rfl)))))
        have HCL : Hid (closeP 2 (a1, l1, ks) = (a1, l1 ++ [(2, 0, ks)], (l1.length : Int))) := by show _ = _; unfold closeP; rw [if_neg (by rw [HKL.out.1]; exact e1)]
        rw [HCL.out] at HFI
        clear h1 h2
        go_wp2
        go_ret
        have hq := HB4.out hn1x
        exact ⟨_, a1, _, true, U5, rfl, HR5, HU5, (by show _ ∨ _; first | exact HFI | (have h0 := HFI.out; simpa using h0)), ⟨hb1, hb2, by simp <;> omega⟩⟩
    · subst hf
      by_cases hin : a1 < s.size
      · have hj1 : (a1 : Int) < (s.size : Int) := by omega
        have hj0 : (0 : Int) ≤ (a1 : Int) := by omega
        obtain ⟨x, HX⟩ : ∃ x, Hid (x = bt s a1) := ⟨_, rfl⟩
        have hsx : s[a1].toNat = x := by rw [HX.out, bt_lt hin]
        by_cases n124 : x = 124
        · subst n124
          go_wp2_with fail
          go_quiet (fail)
          obtain ⟨W2, HW2⟩ : ∃ W2, Hid (W2 = V.drewN nq) := ⟨_, rfl⟩
          have HB2 : Hid (Below V.heap.size V W2) := by rw [HW2.out]; exact below_drewN (Below.refl _ _) _
          rw [← HW2.out]
          have HR2 : Hid (RS B p s W2 a1 l1 false U1) := HR1.out.below HB2.out
          have HU2 : Hid (Us w (pU p U) W2 (fun c => pU p U1 c ∨ v3.ownBlock = some c)) := HU1.out.below HB2.out
          have HOW2 : Hid (W2.ownsRow B 3 1 v3 n (rowCells ks)) := own_below HOW.out HB2.out
          have hB2 : B ≤ W2.heap.size := Nat.le_trans hBV HB2.out.size
          clear c0 c1 c2 HW2
          have HFI : Hid ((false = true ∧ (f = true ∨ P = none ∨ ∃ x, P = some x ∧ ¬ okStop s x.1)) ∨ (f = false ∧ false = false ∧ P = some (closeP 2 (a1, l1, ks)) ∧ okStop s a1)) := by
            rcases HF1.out with ⟨h, _⟩ | ⟨h1, _, h3⟩
            · cases h
            · exact .inr ⟨h1, rfl, by rw [h3, rowL_end (by rw [← HX.out]; decide)]; rfl, .inr (.inr HX.out.symm)⟩
          obtain ⟨ra, rc, rfl, HK0⟩ := rowOwn_of HOW2.out HKL.out.1
          have HK : Hid (RowOwn B W2.heap.size W2 ra ks) := HK0
          by_cases e1 : n = 1
          · subst e1
            obtain ⟨b, o, rfl, hc⟩ := HK.out.toIn.num (i := 0) (by rw [HKL.out.1]; omega)
            obtain ⟨k, HKK⟩ : ∃ k, Hid (k = ks.getD 0 0) := ⟨_, rfl⟩
            rw [← HKK.out, Nat.add_zero] at hc
            have HCL : Hid (closeP 2 (a1, l1, ks) = (a1, l1, k)) := by show _ = _; unfold closeP; rw [if_pos HKL.out.1, ← HKK.out]
            rw [HCL.out] at HFI
            go_wp2
            go_ret
            exact ⟨k, a1, l1, false, U1, rfl, HR2, HU2.out.trans ⟨KeptP.refl _ _, fun c hc => .inl (.inl hc)⟩, (by show _ ∨ _; first | exact HFI | (have h0 := HFI.out; simpa using h0)), ⟨hb1, hb2, hb3⟩⟩
          · have hne1 : ¬ (n : Int) = 1 := by omega
            have hdec : decide ((n : Int) = 1) = false := by simp; omega
            have hn1x : 1 < n := by omega
            go_wp2_with fail
            refine (put_any B p s a1 l1 false U1 2 0 ra n rc ks W2 HR2.out hB2 (by omega) HK.out HKL.out.1 (fun h c hc hu => HNE.out c (by rw [hc]; rfl) hu)).mono ?_
            rintro e w5 ⟨rfl, U5, h1, h2⟩
            have HR5 : Hid (RS B p s w5 a1 (l1 ++ [(2, 0, ks)]) false U5) := h1
            have HU5 : Hid (Us w (pU p U) w5 (pU p U5)) := HU2.out.trans (h2.weak (fun c hc => hc.elim (fun h => .inl (.inl h)) (fun h => .inl (.inr (by rw [h]; rfl)))))
            have HCL : Hid (closeP 2 (a1, l1, ks) = (a1, l1 ++ [(2, 0, ks)], (l1.length : Int))) := by show _ = _; unfold closeP; rw [if_neg (by rw [HKL.out.1]; exact e1)]
            rw [HCL.out] at HFI
            clear h1 h2
            go_wp2
            go_ret
            have hq := HB4.out hn1x
            exact ⟨_, a1, _, false, U5, rfl, HR5, HU5, (by show _ ∨ _; first | exact HFI | (have h0 := HFI.out; simpa using h0)), ⟨hb1, hb2, by simp <;> omega⟩⟩
        · have m124 : ¬ (x : Int) = 124 := by omega
          have d124 : decide ((x : Int) = 124) = false := by simp; omega
          have b124 : ((x : Int) != 124) = true := by rw [bne_iff_ne]; exact m124
          by_cases n41 : x = 41
          · subst n41
            go_wp2_with fail
            go_quiet (fail)
            obtain ⟨W2, HW2⟩ : ∃ W2, Hid (W2 = V.drewN nq) := ⟨_, rfl⟩
            have HB2 : Hid (Below V.heap.size V W2) := by rw [HW2.out]; exact below_drewN (Below.refl _ _) _
            rw [← HW2.out]
            have HR2 : Hid (RS B p s W2 a1 l1 false U1) := HR1.out.below HB2.out
            have HU2 : Hid (Us w (pU p U) W2 (fun c => pU p U1 c ∨ v3.ownBlock = some c)) := HU1.out.below HB2.out
            have HOW2 : Hid (W2.ownsRow B 3 1 v3 n (rowCells ks)) := own_below HOW.out HB2.out
            have hB2 : B ≤ W2.heap.size := Nat.le_trans hBV HB2.out.size
            clear c0 c1 c2 HW2
            have HFI : Hid ((false = true ∧ (f = true ∨ P = none ∨ ∃ x, P = some x ∧ ¬ okStop s x.1)) ∨ (f = false ∧ false = false ∧ P = some (closeP 2 (a1, l1, ks)) ∧ okStop s a1)) := by
              rcases HF1.out with ⟨h, _⟩ | ⟨h1, _, h3⟩
              · cases h
              · exact .inr ⟨h1, rfl, by rw [h3, rowL_end (by rw [← HX.out]; decide)]; rfl, .inr (.inl HX.out.symm)⟩
            obtain ⟨ra, rc, rfl, HK0⟩ := rowOwn_of HOW2.out HKL.out.1
            have HK : Hid (RowOwn B W2.heap.size W2 ra ks) := HK0
            by_cases e1 : n = 1
            · subst e1
              obtain ⟨b, o, rfl, hc⟩ := HK.out.toIn.num (i := 0) (by rw [HKL.out.1]; omega)
              obtain ⟨k, HKK⟩ : ∃ k, Hid (k = ks.getD 0 0) := ⟨_, rfl⟩
              rw [← HKK.out, Nat.add_zero] at hc
              have HCL : Hid (closeP 2 (a1, l1, ks) = (a1, l1, k)) := by show _ = _; unfold closeP; rw [if_pos HKL.out.1, ← HKK.out]
              rw [HCL.out] at HFI
              go_wp2
              go_ret
              exact ⟨k, a1, l1, false, U1, rfl, HR2, HU2.out.trans ⟨KeptP.refl _ _, fun c hc => .inl (.inl hc)⟩, (by show _ ∨ _; first | exact HFI | (have h0 := HFI.out; simpa using h0)), ⟨hb1, hb2, hb3⟩⟩
            · have hne1 : ¬ (n : Int) = 1 := by omega
              have hdec : decide ((n : Int) = 1) = false := by simp; omega
              have hn1x : 1 < n := by omega
              go_wp2_with fail
              refine (put_any B p s a1 l1 false U1 2 0 ra n rc ks W2 HR2.out hB2 (by omega) HK.out HKL.out.1 (fun h c hc hu => HNE.out c (by rw [hc]; rfl) hu)).mono ?_
              rintro e w5 ⟨rfl, U5, h1, h2⟩
              have HR5 : Hid (RS B p s w5 a1 (l1 ++ [(2, 0, ks)]) false U5) := h1
              have HU5 : Hid (Us w (pU p U) w5 (pU p U5)) := HU2.out.trans (h2.weak (fun c hc => hc.elim (fun h => .inl (.inl h)) (fun h => .inl (.inr (by rw [h]; rfl)))))
              have HCL : Hid (closeP 2 (a1, l1, ks) = (a1, l1 ++ [(2, 0, ks)], (l1.length : Int))) := by show _ = _; unfold closeP; rw [if_neg (by rw [HKL.out.1]; exact e1)]
              rw [HCL.out] at HFI
              clear h1 h2
              go_wp2
              go_ret
              have hq := HB4.out hn1x
              exact ⟨_, a1, _, false, U5, rfl, HR5, HU5, (by show _ ∨ _; first | exact HFI | (have h0 := HFI.out; simpa using h0)), ⟨hb1, hb2, by simp <;> omega⟩⟩
          · have m41 : ¬ (x : Int) = 41 := by omega
            have d41 : decide ((x : Int) = 41) = false := by simp; omega
            have b41 : ((x : Int) != 41) = true := by rw [bne_iff_ne]; exact m41
            go_wp2_with fail
            go_quiet (fail)
            obtain ⟨W2, HW2⟩ : ∃ W2, Hid (W2 = V.drewN nq) := ⟨_, rfl⟩
            have HB2 : Hid (Below V.heap.size V W2) := by rw [HW2.out]; exact below_drewN (Below.refl _ _) _
            rw [← HW2.out]
            have HR2 : Hid (RS B p s W2 a1 l1 false U1) := HR1.out.below HB2.out
            have HU2 : Hid (Us w (pU p U) W2 (fun c => pU p U1 c ∨ v3.ownBlock = some c)) := HU1.out.below HB2.out
            have HOW2 : Hid (W2.ownsRow B 3 1 v3 n (rowCells ks)) := own_below HOW.out HB2.out
            have hB2 : B ≤ W2.heap.size := Nat.le_trans hBV HB2.out.size
            clear c0 c1 c2 HW2
            obtain ⟨fv, rfl⟩ : ∃ fv, fu = fv + 1 := ⟨fu - 1, by omega⟩
            have HC := HD.out B p a1 l1 false U1 W2 HR2.out hB2 (by omega) (by omega) (by omega)
            go_wp2_with fail
            refine HC.mono ?_
            rintro e w3 ⟨k2, a2, l2, f2, U2, rfl, HR3, HU3, HF3, HB3⟩
            clear HC
            have HUS : Hid (Us W2 (pU p U1) w3 (pU p U2)) := HU3.out
            have hb6 := HB3.out.1
            have hb7 := HB3.out.2.1
            have hb8 := HB3.out.2.2.1
            have hb9 := HB3.out.2.2.2 rfl hin
            have HV2 : Hid (∀ c, v3.ownBlock = some c → c < W2.heap.size) := fun c hc => (HOW2.out.lt c hc).2
            have HOW3 : Hid (w3.ownsRow B 3 1 v3 n (rowCells ks)) := own_keptP HOW2.out HUS.out.1 HNE.out
            have HNE3 : Hid (∀ c, v3.ownBlock = some c → ¬ pU p U2 c) := fun c hc hu => (HUS.out.2 c hu).elim (HNE.out c hc) (fun h => by have := HV2.out c hc; omega)
            have HUV : Hid (Us w (pU p U) w3 (fun c => pU p U2 c ∨ v3.ownBlock = some c)) := HU2.out.trans (HUS.out.frame _)
            have hB3 : B ≤ w3.heap.size := by have := HUS.out.1.size; omega
            have hown := HOW3.out.alloc (.cells #[.int .i64 k2] 3)
            have hn100 : n ≤ 1000 := by have := HKL.out.2.2; omega
            go_wp2_with (at_builtin; refine wpList_append_lies _ rfl (.tmp 48) (.tmp 51) 29 rfl B 3 i3 (.int .i64 0) 1 8 Try.underlying29 hi3 hz30 hz31 hz32 rfl (by decide) _ n (rowCells ks) rfl hown ⟨w3.heap.size, 0, none⟩ 1 1 [.int .i64 k2] rfl rfl (cell_one_new' w3 (.int .i64 k2) 3) (by simp [Value.oneCell']) (by decide) (by unfold maxLen; omega) (by omega) (by simp; omega) _ rfl ?_)
            intro g5 cap5 w6 hown5 hgrow5 hloc5 hg5
            obtain ⟨hk1, hk2, hk3⟩ := kid_more (n := n) (cap := cap5) (U := pU p U2) hgrow5 (hloc5.imp id (fun h => by simpa using h)) HR3.out.lt HNE3.out
            have HR6 : Hid (RS B p s w6 a2 l2 f2 U2) := HR3.out.kept hk1 (fun c hc e => HNE3.out c e hc)
            have HU6 : Hid (Us w (pU p U) w6 (fun c => pU p U2 c ∨ (Value.slice (some ⟨g5, 0, none⟩) (n + 1) cap5).ownBlock = some c)) := HUV.out.trans hk3
            have HN6 : Hid (∀ c, (Value.slice (some ⟨g5, 0, none⟩) (n + 1) cap5).ownBlock = some c → ¬ pU p U2 c) := hk2
            have HO6 : Hid (w6.ownsRow B 3 1 (.slice (some ⟨g5, 0, none⟩) (n + 1) cap5) (n + 1) (rowCells (ks ++ [k2]))) := by rw [rowCells_snoc]; exact hown5
            have HF6 : Hid ((f2 = true ∧ BadP s f P) ∨ (f = false ∧ f2 = false ∧ P = (rowL O (bt s) fv a2 l2 (ks ++ [k2])).map (closeP 2))) := by
              rcases HF1.out with ⟨h, _⟩ | ⟨h1, _, h3⟩
              · cases h
              · rcases Bool.eq_false_or_eq_true (isLab (bt s a1) || decide (bt s a1 = 40)) with hg | hg
                · rcases HF3.out with ⟨h4, h5 | h5⟩ | ⟨h4, h5, h6⟩
                  · cases h5
                  · exact .inl ⟨h4, .inr (.inl (by rw [h3, rowL_none hg h5]; rfl))⟩
                  · exact .inr ⟨h1, h5, by rw [h3, rowL_go hg h6]⟩
                · have hn := HLN.out a1 l1 hg
                  rcases HF3.out with ⟨h4, _⟩ | ⟨_, _, h6⟩
                  · refine .inl ⟨h4, .inr (.inr ⟨closeP 2 (a1, l1, ks), by rw [h3, rowL_end hg]; rfl, ?_⟩)⟩
                    rw [closeP_at]
                    rintro (h | h | h)
                    · have h' : s.size ≤ a1 := h
                      omega
                    · exact n41 (by rw [HX.out]; exact h)
                    · exact n124 (by rw [HX.out]; exact h)
                  · rw [hn] at h6; cases h6
            clear hown hown5 hgrow5 hloc5 hg5 hk1 hk2 hk3
            go_wp2
            go_roundw
            case rel => exact ⟨_, ks ++ [k2], n + 1, a2, l2, f2, U2, fv, rfl, HO6, HN6, ⟨by rw [List.length_append, HKL.out.1]; rfl, by omega, by omega⟩, HR6, HU6, HF6, by show _ < _; omega, ⟨by omega, by omega, by omega, fun _ => by omega, by omega⟩⟩
            case measure =>
              have e1 := HR1.out.atOf
              have e2 := HR6.out.atOf
              first | (rw [e1, e2]; omega) | (simp only [e1, e2]; omega) | omega
      · have hj1 : ¬ (a1 : Int) < (s.size : Int) := by omega
        go_wp2_with fail
        go_quiet (fail)
        obtain ⟨W2, HW2⟩ : ∃ W2, Hid (W2 = V.drewN nq) := ⟨_, rfl⟩
        have HB2 : Hid (Below V.heap.size V W2) := by rw [HW2.out]; exact below_drewN (Below.refl _ _) _
        rw [← HW2.out]
        have HR2 : Hid (RS B p s W2 a1 l1 false U1) := HR1.out.below HB2.out
        have HU2 : Hid (Us w (pU p U) W2 (fun c => pU p U1 c ∨ v3.ownBlock = some c)) := HU1.out.below HB2.out
        have HOW2 : Hid (W2.ownsRow B 3 1 v3 n (rowCells ks)) := own_below HOW.out HB2.out
        have hB2 : B ≤ W2.heap.size := Nat.le_trans hBV HB2.out.size
        clear c0 c1 c2 HW2
        have HFI : Hid ((false = true ∧ (f = true ∨ P = none ∨ ∃ x, P = some x ∧ ¬ okStop s x.1)) ∨ (f = false ∧ false = false ∧ P = some (closeP 2 (a1, l1, ks)) ∧ okStop s a1)) := by
          rcases HF1.out with ⟨h, _⟩ | ⟨h1, _, h3⟩
          · cases h
          · exact .inr ⟨h1, rfl, by rw [h3, rowL_end (by rw [bt_end hin]; decide)]; rfl, .inl (Nat.le_of_not_lt hin)⟩
        obtain ⟨ra, rc, rfl, HK0⟩ := rowOwn_of HOW2.out HKL.out.1
        have HK : Hid (RowOwn B W2.heap.size W2 ra ks) := HK0
        by_cases e1 : n = 1
        · subst e1
          obtain ⟨b, o, rfl, hc⟩ := HK.out.toIn.num (i := 0) (by rw [HKL.out.1]; omega)
          obtain ⟨k, HKK⟩ : ∃ k, Hid (k = ks.getD 0 0) := ⟨_, rfl⟩
          rw [← HKK.out, Nat.add_zero] at hc
          have HCL : Hid (closeP 2 (a1, l1, ks) = (a1, l1, k)) := by show _ = _; unfold closeP; rw [if_pos HKL.out.1, ← HKK.out]
          rw [HCL.out] at HFI
          go_wp2
          go_ret
          exact ⟨k, a1, l1, false, U1, rfl, HR2, HU2.out.trans ⟨KeptP.refl _ _, fun c hc => .inl (.inl hc)⟩, (by show _ ∨ _; first | exact HFI | (have h0 := HFI.out; simpa using h0)), ⟨hb1, hb2, hb3⟩⟩
        · have hne1 : ¬ (n : Int) = 1 := by omega
          have hdec : decide ((n : Int) = 1) = false := by simp; omega
          have hn1x : 1 < n := by omega
          go_wp2_with fail
          refine (put_any B p s a1 l1 false U1 2 0 ra n rc ks W2 HR2.out hB2 (by omega) HK.out HKL.out.1 (fun h c hc hu => HNE.out c (by rw [hc]; rfl) hu)).mono ?_
          rintro e w5 ⟨rfl, U5, h1, h2⟩
          have HR5 : Hid (RS B p s w5 a1 (l1 ++ [(2, 0, ks)]) false U5) := h1
          have HU5 : Hid (Us w (pU p U) w5 (pU p U5)) := HU2.out.trans (h2.weak (fun c hc => hc.elim (fun h => .inl (.inl h)) (fun h => .inl (.inr (by rw [h]; rfl)))))
          have HCL : Hid (closeP 2 (a1, l1, ks) = (a1, l1 ++ [(2, 0, ks)], (l1.length : Int))) := by show _ = _; unfold closeP; rw [if_neg (by rw [HKL.out.1]; exact e1)]
          rw [HCL.out] at HFI
          clear h1 h2
          go_wp2
          go_ret
          have hq := HB4.out hn1x
          exact ⟨_, a1, _, false, U5, rfl, HR5, HU5, (by show _ ∨ _; first | exact HFI | (have h0 := HFI.out; simpa using h0)), ⟨hb1, hb2, by simp <;> omega⟩⟩

end Go.Proofs.Ytdbogikcmfnpdaa

/-
  The model's reader of a path: rows, alternatives; all depths.
-/
namespace Go.Proofs.Ytdbogikcmfnpdaa
open Go.RowKit

set_option maxHeartbeats 4000000 in
set_option maxRecDepth 100000 in
theorem altsS_any (s : ByteArray) (d : Nat) (hd : ∀ d', d = d' + 1 → AltSOK s d') (hs : s.size ≤ 20) (B p a : Nat) (l : List Pc) (f : Bool) (U : Nat → Prop) (w : World) (hr : RS B p s w a l f U) (hB : B ≤ w.heap.size) (hl : l.length + 3 * (2 * s.size - a) ≤ 200) (ha : a ≤ s.size) (had : s.size ≤ a + d) :
    Calls Try.prog 60 #[.pointer (some ⟨p, 0, none⟩)] w fun e w' => WPost s.size B p s w a l f U (altP (bt s) s.size (d + 1) a l) e w' := by
  have HD : Hid (∀ (B p a : Nat) (l : List Pc) (f : Bool) (U : Nat → Prop) (w : World), RS B p s w a l f U → B ≤ w.heap.size → l.length + 3 * (2 * s.size - a) ≤ 200 → a ≤ s.size → s.size ≤ a + d → Calls Try.prog 79 #[.pointer (some ⟨p, 0, none⟩)] w fun e w' => WPost s.size B p s w a l f U (rowP (bt s) s.size (altP (bt s) s.size d) a l) e w') := fun B p a l f U w h1 h2 h3 h4 h5 => rowS_any s d hd hs B p a l f U w h1 h2 h3 h4 h5
  have HC := HD.out B p a l f U w hr hB hl ha had
  obtain ⟨O, HO⟩ : ∃ O, Hid (O = rowP (bt s) s.size (altP (bt s) s.size d)) := ⟨_, rfl⟩
  obtain ⟨P, HP⟩ : ∃ P, Hid (P = altP (bt s) s.size (d + 1) a l) := ⟨_, rfl⟩
  have HPQ : Hid (P = altK O (bt s) s.size (O a l)) := by show _ = _; rw [HP.out, HO.out]; rfl

  rw [← HO.out] at HD HC
  rw [← HP.out]
  obtain ⟨i3, hi3, hz30, hz31, hz32⟩ := info_parts Try.info3
  clear hr hd HP HO
  go_enter Try.func60, Try.ntmps60
  go_wp2_with fail
  refine HC.mono ?_
  rintro e w1 ⟨k0, a0, l0, f0, U0, rfl, HR0, HU0, HF0, HB0⟩
  obtain ⟨hb1, hb2, hb3⟩ := HB0.out
  have hB1 : B ≤ w1.heap.size := by have := HU0.out.1.size; omega
  have hw01 := HU0.out.1.size
  have HBA : Hid (Below w1.heap.size w1 (w1.alloc (.cells #[.int .i64 k0] 3))) := below1 _ _
  have HOW0 : Hid ((w1.alloc (.cells #[.int .i64 k0] 3)).ownsRow B 3 1 (.slice (some ⟨w1.heap.size, 0, none⟩) 1 1) 1 (rowCells [k0])) := own_one w1 B (.int .i64 k0) hB1
  have hR0l := HR0.out.lt
  clear HC
  go_wp2_with fail
  go_loopw [3] (fun v wr => ∃ (v3 : Value) (ks : List Int) (n a1 : Nat) (l1 : List Pc) (f1 : Bool) (U1 : Nat → Prop) (fu : Nat), v3 = v ∧ Hid (wr.ownsRow B 3 1 v3 n (rowCells ks)) ∧ Hid (∀ c, v3.ownBlock = some c → ¬ pU p U1 c) ∧ Hid (ks.length = n ∧ 1 ≤ n ∧ n ≤ 100) ∧ Hid (RS B p s wr a1 l1 f1 U1) ∧ Hid (Us w (pU p U) wr (fun c => pU p U1 c ∨ v3.ownBlock = some c)) ∧
    Hid ((f1 = true ∧ BadP s f P) ∨ (f = false ∧ f1 = false ∧ P = (altL O (bt s) fu a1 l1 ks).map (closeP 3) ∧ okStop s a1)) ∧ Hid (s.size < a1 + fu) ∧ Hid (a ≤ a1 ∧ a1 ≤ 2 * s.size - a ∧ l1.length ≤ l.length + 3 * (a1 - a) ∧ (1 < n → l1.length + 3 ≤ l.length + 3 * (a1 - a)) ∧ n ≤ 1 + (a1 - a))) (fun _ wr => s.size + 1 - atOf wr p)
  case atStart =>
    refine ⟨_, [k0], 1, a0, l0, f0, U0, s.size + 1, rfl, HOW0, ?_, ⟨rfl, by omega, by omega⟩, HR0.out.below HBA.out, ⟨(HU0.out.below HBA.out).1, fun c hc => ?_⟩, ?_, by show _ < _; omega, ⟨hb1, hb2, hb3, fun h => by omega, by omega⟩⟩
    · intro c hc hu
      have e5 : w1.heap.size = c := by simpa [Value.ownBlock] using hc
      have := hR0l c hu; omega
    · rcases hc with hc | hc
      · exact HU0.out.2 c hc
      · have e5 : w1.heap.size = c := by simpa [Value.ownBlock] using hc
        right; omega
    · rcases HF0.out with ⟨h1, h2 | h2 | ⟨x, h2, h3⟩⟩ | ⟨h1, h2, h3, h4⟩
      · exact .inl ⟨h1, .inl h2⟩
      · exact .inl ⟨h1, .inr (.inl (by rw [HPQ.out, h2]; rfl))⟩
      · refine .inl ⟨h1, .inr (.inr ⟨closeP 3 (x.1, x.2.1, [x.2.2]), ?_, by rw [closeP_at]; exact h3⟩)⟩
        rw [HPQ.out, h2]
        show (altL O (bt s) (s.size + 1) x.1 x.2.1 [x.2.2]).map (closeP 3) = _
        rw [altL_end (fun e => h3 (.inr (.inr e)))]
        rfl
      · exact .inr ⟨h1, h2, by rw [HPQ.out, h3]; rfl, h4⟩
  case round =>
    obtain ⟨V, rfl⟩ : ∃ V, V = wr := ⟨_, rfl⟩
    obtain ⟨v3, ks, n, a1, l1, f1, U1, fu, rfl, HOW, HNE, HKL, HR1, HU1, HF1, HFU, HB1⟩ := hrel
    obtain ⟨hb1, hb2, hb3, hb4, hb5⟩ := HB1.out
    have HB4 : Hid (1 < n → l1.length + 3 ≤ l.length + 3 * (a1 - a)) := hb4
    have hfu := HFU.out
    have hn1 := HKL.out.2.1
    clear hb4
    obtain ⟨c0, c1, c2, _⟩ := HR1.out.cells
    have hBV : B ≤ V.heap.size := by have := HU1.out.1.size; omega
    rcases Bool.eq_false_or_eq_true f1 with hf | hf
    · subst hf
      go_wp2_with fail
      go_quiet (fail)
      obtain ⟨W2, HW2⟩ : ∃ W2, Hid (W2 = V.drewN nq) := ⟨_, rfl⟩
      have HB2 : Hid (Below V.heap.size V W2) := by rw [HW2.out]; exact below_drewN (Below.refl _ _) _
      rw [← HW2.out]
      have HR2 : Hid (RS B p s W2 a1 l1 true U1) := HR1.out.below HB2.out
      have HU2 : Hid (Us w (pU p U) W2 (fun c => pU p U1 c ∨ v3.ownBlock = some c)) := HU1.out.below HB2.out
      have HOW2 : Hid (W2.ownsRow B 3 1 v3 n (rowCells ks)) := own_below HOW.out HB2.out
      have hB2 : B ≤ W2.heap.size := Nat.le_trans hBV HB2.out.size
      clear c0 c1 c2 HW2
      have HFI : Hid ((true = true ∧ (f = true ∨ P = none ∨ ∃ x, P = some x ∧ ¬ okStop s x.1)) ∨ (f = false ∧ true = false ∧ P = some (closeP 3 (a1, l1, ks)) ∧ okStop s a1)) := by
        rcases HF1.out with ⟨_, h⟩ | ⟨_, h, _⟩
        · exact .inl ⟨rfl, h⟩
        · cases h
      obtain ⟨ra, rc, rfl, HK0⟩ := rowOwn_of HOW2.out HKL.out.1
      have HK : Hid (RowOwn B W2.heap.size W2 ra ks) := HK0
      by_cases e1 : n = 1
      · subst e1
        obtain ⟨b, o, rfl, hc⟩ := HK.out.toIn.num (i := 0) (by rw [HKL.out.1]; omega)
        obtain ⟨k, HKK⟩ : ∃ k, Hid (k = ks.getD 0 0) := ⟨_, rfl⟩
        rw [← HKK.out, Nat.add_zero] at hc
        have HCL : Hid (closeP 3 (a1, l1, ks) = (a1, l1, k)) := by show _ = _; unfold closeP; rw [if_pos HKL.out.1, ← HKK.out]
        rw [HCL.out] at HFI
        go_wp2
        go_ret
        exact ⟨k, a1, l1, true, U1, rfl, HR2, HU2.out.trans ⟨KeptP.refl _ _, fun c hc => .inl (.inl hc)⟩, (by show _ ∨ _; first | exact HFI | (have h0 := HFI.out; simpa using h0)), ⟨hb1, hb2, hb3⟩⟩
      · have hne1 : ¬ (n : Int) = 1 := by omega
        have hdec : decide ((n : Int) = 1) = false := by simp; omega
        have hn1x : 1 < n := by omega
        go_wp2_with fail
        refine (put_any B p s a1 l1 true U1 3 0 ra n rc ks W2 HR2.out hB2 (by omega) HK.out HKL.out.1 (fun h c hc hu => HNE.out c (by rw [hc]; rfl) hu)).mono ?_
        rintro e w5 ⟨rfl, U5, h1, h2⟩
        have HR5 : Hid (RS B p s w5 a1 (l1 ++ [(3, 0, ks)]) true U5) := h1
        have HU5 : Hid (Us w (pU p U) w5 (pU p U5)) := HU2.out.trans (h2.weak (fun c hc => hc.elim (fun h => .inl (.inl h)) (fun h => .inl (.inr (by rw [h]; rfl)))))
        have HCL : Hid (closeP 3 (a1, l1, ks) = (a1, l1 ++ [(3, 0, ks)], (l1.length : Int))) := by show _ = _; unfold closeP; rw [if_neg (by rw [HKL.out.1]; exact e1)]
        rw [HCL.out] at HFI
        clear h1 h2
        go_wp2
        go_ret
        have hq := HB4.out hn1x
        exact ⟨_, a1, _, true, U5, rfl, HR5, HU5, (by show _ ∨ _; first | exact HFI | (have h0 := HFI.out; simpa using h0)), ⟨hb1, hb2, by simp <;> omega⟩⟩
    · subst hf
      by_cases hin : a1 < s.size
      · have hj1 : (a1 : Int) < (s.size : Int) := by omega
        have hj0 : (0 : Int) ≤ (a1 : Int) := by omega
        obtain ⟨x, HX⟩ : ∃ x, Hid (x = bt s a1) := ⟨_, rfl⟩
        have hsx : s[a1].toNat = x := by rw [HX.out, bt_lt hin]
        by_cases n124 : x = 124
        · subst n124
          have HGO : Hid (bt s a1 = 124) := HX.out.symm
          go_wp2_with fail
          go_quiet (fail)
          obtain ⟨W2, HW2⟩ : ∃ W2, Hid (W2 = V.drewN nq) := ⟨_, rfl⟩
          have HB2 : Hid (Below V.heap.size V W2) := by rw [HW2.out]; exact below_drewN (Below.refl _ _) _
          rw [← HW2.out]
          have HR2 : Hid (RS B p s W2 a1 l1 false U1) := HR1.out.below HB2.out
          have HU2 : Hid (Us w (pU p U) W2 (fun c => pU p U1 c ∨ v3.ownBlock = some c)) := HU1.out.below HB2.out
          have HOW2 : Hid (W2.ownsRow B 3 1 v3 n (rowCells ks)) := own_below HOW.out HB2.out
          have hB2 : B ≤ W2.heap.size := Nat.le_trans hBV HB2.out.size
          clear c0 c1 c2 HW2
          obtain ⟨fv, rfl⟩ : ∃ fv, fu = fv + 1 := ⟨fu - 1, by omega⟩
          obtain ⟨c0, c1, c2, cf⟩ := HR2.out.cells
          have fz1 := cf 1
          have HRS : Hid (RS B p s (W2.setCell ⟨p, 1, none⟩ (.int .i64 ((a1 : Int) + 1))) (a1 + 1) l1 false U1) := HR2.out.step
          have HC := HD.out B p (a1 + 1) l1 false U1 _ HRS.out (by simpa using hB2) (by omega) (by omega) (by omega)
          go_wp2_with fail
          refine HC.mono ?_
          rintro e w3 ⟨k2, a2, l2, f2, U2, rfl, HR3, HU3, HF3, HB3⟩
          clear HC
          have HUS : Hid (Us W2 (pU p U1) w3 (pU p U2)) := (us_set _).trans HU3.out
          clear c0 c1 c2 cf fz1
          have hb6 := HB3.out.1
          have hb7 := HB3.out.2.1
          have hb8 := HB3.out.2.2
          have HV2 : Hid (∀ c, v3.ownBlock = some c → c < W2.heap.size) := fun c hc => (HOW2.out.lt c hc).2
          have HOW3 : Hid (w3.ownsRow B 3 1 v3 n (rowCells ks)) := own_keptP HOW2.out HUS.out.1 HNE.out
          have HNE3 : Hid (∀ c, v3.ownBlock = some c → ¬ pU p U2 c) := fun c hc hu => (HUS.out.2 c hu).elim (HNE.out c hc) (fun h => by have := HV2.out c hc; omega)
          have HUV : Hid (Us w (pU p U) w3 (fun c => pU p U2 c ∨ v3.ownBlock = some c)) := HU2.out.trans (HUS.out.frame _)
          have hB3 : B ≤ w3.heap.size := by have := HUS.out.1.size; omega
          have hown := HOW3.out.alloc (.cells #[.int .i64 k2] 3)
          have hn100 : n ≤ 1000 := by have := HKL.out.2.2; omega
          go_wp2_with (at_builtin; refine wpList_append_lies _ rfl (.tmp 44) (.tmp 47) 29 rfl B 3 i3 (.int .i64 0) 1 8 Try.underlying29 hi3 hz30 hz31 hz32 rfl (by decide) _ n (rowCells ks) rfl hown ⟨w3.heap.size, 0, none⟩ 1 1 [.int .i64 k2] rfl rfl (cell_one_new' w3 (.int .i64 k2) 3) (by simp [Value.oneCell']) (by decide) (by unfold maxLen; omega) (by omega) (by simp; omega) _ rfl ?_)
          intro g5 cap5 w6 hown5 hgrow5 hloc5 hg5
          obtain ⟨hk1, hk2, hk3⟩ := kid_more (n := n) (cap := cap5) (U := pU p U2) hgrow5 (hloc5.imp id (fun h => by simpa using h)) HR3.out.lt HNE3.out
          have HR6 : Hid (RS B p s w6 a2 l2 f2 U2) := HR3.out.kept hk1 (fun c hc e => HNE3.out c e hc)
          have HU6 : Hid (Us w (pU p U) w6 (fun c => pU p U2 c ∨ (Value.slice (some ⟨g5, 0, none⟩) (n + 1) cap5).ownBlock = some c)) := HUV.out.trans hk3
          have HN6 : Hid (∀ c, (Value.slice (some ⟨g5, 0, none⟩) (n + 1) cap5).ownBlock = some c → ¬ pU p U2 c) := hk2
          have HO6 : Hid (w6.ownsRow B 3 1 (.slice (some ⟨g5, 0, none⟩) (n + 1) cap5) (n + 1) (rowCells (ks ++ [k2]))) := by rw [rowCells_snoc]; exact hown5
          have HF6 : Hid ((f2 = true ∧ BadP s f P) ∨ (f = false ∧ f2 = false ∧ P = (altL O (bt s) fv a2 l2 (ks ++ [k2])).map (closeP 3) ∧ okStop s a2)) := by
            rcases HF1.out with ⟨h, _⟩ | ⟨h1, _, h3, _⟩
            · cases h
            · rcases HF3.out with ⟨h4, h5 | h5 | ⟨x, h5, h6⟩⟩ | ⟨h4, h5, h6, h7⟩
              · cases h5
              · exact .inl ⟨h4, .inr (.inl (by rw [h3, altL_none HGO.out h5]; rfl))⟩
              · refine .inl ⟨h4, .inr (.inr ⟨closeP 3 (x.1, x.2.1, ks ++ [x.2.2]), ?_, by rw [closeP_at]; exact h6⟩)⟩
                rw [h3, altL_go HGO.out h5, altL_end (fun e => h6 (.inr (.inr e)))]
                rfl
              · exact .inr ⟨h1, h5, by rw [h3, altL_go HGO.out h6], h7⟩
          clear hown hown5 hgrow5 hloc5 hg5 hk1 hk2 hk3
          go_wp2
          go_roundw
          case rel => exact ⟨_, ks ++ [k2], n + 1, a2, l2, f2, U2, fv, rfl, HO6, HN6, ⟨by rw [List.length_append, HKL.out.1]; rfl, by omega, by omega⟩, HR6, HU6, HF6, by show _ < _; omega, ⟨by omega, by omega, by omega, fun _ => by omega, by omega⟩⟩
          case measure =>
            have e1 := HR1.out.atOf
            have e2 := HR6.out.atOf
            first | (rw [e1, e2]; omega) | (simp only [e1, e2]; omega) | omega
        · have m124 : ¬ (x : Int) = 124 := by omega
          have d124 : decide ((x : Int) = 124) = false := by simp; omega
          go_wp2_with fail
          go_quiet (fail)
          obtain ⟨W2, HW2⟩ : ∃ W2, Hid (W2 = V.drewN nq) := ⟨_, rfl⟩
          have HB2 : Hid (Below V.heap.size V W2) := by rw [HW2.out]; exact below_drewN (Below.refl _ _) _
          rw [← HW2.out]
          have HR2 : Hid (RS B p s W2 a1 l1 false U1) := HR1.out.below HB2.out
          have HU2 : Hid (Us w (pU p U) W2 (fun c => pU p U1 c ∨ v3.ownBlock = some c)) := HU1.out.below HB2.out
          have HOW2 : Hid (W2.ownsRow B 3 1 v3 n (rowCells ks)) := own_below HOW.out HB2.out
          have hB2 : B ≤ W2.heap.size := Nat.le_trans hBV HB2.out.size
          clear c0 c1 c2 HW2
          have HFI : Hid ((false = true ∧ (f = true ∨ P = none ∨ ∃ x, P = some x ∧ ¬ okStop s x.1)) ∨ (f = false ∧ false = false ∧ P = some (closeP 3 (a1, l1, ks)) ∧ okStop s a1)) := by
            rcases HF1.out with ⟨h, _⟩ | ⟨h1, _, h3, h5⟩
            · cases h
            · exact .inr ⟨h1, rfl, by rw [h3, altL_end (by rw [← HX.out]; exact n124)]; rfl, h5⟩
          obtain ⟨ra, rc, rfl, HK0⟩ := rowOwn_of HOW2.out HKL.out.1
          have HK : Hid (RowOwn B W2.heap.size W2 ra ks) := HK0
          by_cases e1 : n = 1
          · subst e1
            obtain ⟨b, o, rfl, hc⟩ := HK.out.toIn.num (i := 0) (by rw [HKL.out.1]; omega)
            obtain ⟨k, HKK⟩ : ∃ k, Hid (k = ks.getD 0 0) := ⟨_, rfl⟩
            rw [← HKK.out, Nat.add_zero] at hc
            have HCL : Hid (closeP 3 (a1, l1, ks) = (a1, l1, k)) := by show _ = _; unfold closeP; rw [if_pos HKL.out.1, ← HKK.out]
            rw [HCL.out] at HFI
            go_wp2
            go_ret
            exact ⟨k, a1, l1, false, U1, rfl, HR2, HU2.out.trans ⟨KeptP.refl _ _, fun c hc => .inl (.inl hc)⟩, (by show _ ∨ _; first | exact HFI | (have h0 := HFI.out; simpa using h0)), ⟨hb1, hb2, hb3⟩⟩
          · have hne1 : ¬ (n : Int) = 1 := by omega
            have hdec : decide ((n : Int) = 1) = false := by simp; omega
            have hn1x : 1 < n := by omega
            go_wp2_with fail
            refine (put_any B p s a1 l1 false U1 3 0 ra n rc ks W2 HR2.out hB2 (by omega) HK.out HKL.out.1 (fun h c hc hu => HNE.out c (by rw [hc]; rfl) hu)).mono ?_
            rintro e w5 ⟨rfl, U5, h1, h2⟩
            have HR5 : Hid (RS B p s w5 a1 (l1 ++ [(3, 0, ks)]) false U5) := h1
            have HU5 : Hid (Us w (pU p U) w5 (pU p U5)) := HU2.out.trans (h2.weak (fun c hc => hc.elim (fun h => .inl (.inl h)) (fun h => .inl (.inr (by rw [h]; rfl)))))
            have HCL : Hid (closeP 3 (a1, l1, ks) = (a1, l1 ++ [(3, 0, ks)], (l1.length : Int))) := by show _ = _; unfold closeP; rw [if_neg (by rw [HKL.out.1]; exact e1)]
            rw [HCL.out] at HFI
            clear h1 h2
            go_wp2
            go_ret
            have hq := HB4.out hn1x
            exact ⟨_, a1, _, false, U5, rfl, HR5, HU5, (by show _ ∨ _; first | exact HFI | (have h0 := HFI.out; simpa using h0)), ⟨hb1, hb2, by simp <;> omega⟩⟩
      · have hj1 : ¬ (a1 : Int) < (s.size : Int) := by omega
        go_wp2_with fail
        go_quiet (fail)
        obtain ⟨W2, HW2⟩ : ∃ W2, Hid (W2 = V.drewN nq) := ⟨_, rfl⟩
        have HB2 : Hid (Below V.heap.size V W2) := by rw [HW2.out]; exact below_drewN (Below.refl _ _) _
        rw [← HW2.out]
        have HR2 : Hid (RS B p s W2 a1 l1 false U1) := HR1.out.below HB2.out
        have HU2 : Hid (Us w (pU p U) W2 (fun c => pU p U1 c ∨ v3.ownBlock = some c)) := HU1.out.below HB2.out
        have HOW2 : Hid (W2.ownsRow B 3 1 v3 n (rowCells ks)) := own_below HOW.out HB2.out
        have hB2 : B ≤ W2.heap.size := Nat.le_trans hBV HB2.out.size
        clear c0 c1 c2 HW2
        have HFI : Hid ((false = true ∧ (f = true ∨ P = none ∨ ∃ x, P = some x ∧ ¬ okStop s x.1)) ∨ (f = false ∧ false = false ∧ P = some (closeP 3 (a1, l1, ks)) ∧ okStop s a1)) := by
          rcases HF1.out with ⟨h, _⟩ | ⟨h1, _, h3, h5⟩
          · cases h
          · exact .inr ⟨h1, rfl, by rw [h3, altL_end (by rw [bt_end hin]; decide)]; rfl, h5⟩
        obtain ⟨ra, rc, rfl, HK0⟩ := rowOwn_of HOW2.out HKL.out.1
        have HK : Hid (RowOwn B W2.heap.size W2 ra ks) := HK0
        by_cases e1 : n = 1
        · subst e1
          obtain ⟨b, o, rfl, hc⟩ := HK.out.toIn.num (i := 0) (by rw [HKL.out.1]; omega)
          obtain ⟨k, HKK⟩ : ∃ k, Hid (k = ks.getD 0 0) := ⟨_, rfl⟩
          rw [← HKK.out, Nat.add_zero] at hc
          have HCL : Hid (closeP 3 (a1, l1, ks) = (a1, l1, k)) := by show _ = _; unfold closeP; rw [if_pos HKL.out.1, ← HKK.out]
          rw [HCL.out] at HFI
          go_wp2
          go_ret
          exact ⟨k, a1, l1, false, U1, rfl, HR2, HU2.out.trans ⟨KeptP.refl _ _, fun c hc => .inl (.inl hc)⟩, (by show _ ∨ _; first | exact HFI | (have h0 := HFI.out; simpa using h0)), ⟨hb1, hb2, hb3⟩⟩
        · have hne1 : ¬ (n : Int) = 1 := by omega
          have hdec : decide ((n : Int) = 1) = false := by simp; omega
          have hn1x : 1 < n := by omega
          go_wp2_with fail
          refine (put_any B p s a1 l1 false U1 3 0 ra n rc ks W2 HR2.out hB2 (by omega) HK.out HKL.out.1 (fun h c hc hu => HNE.out c (by rw [hc]; rfl) hu)).mono ?_
          rintro e w5 ⟨rfl, U5, h1, h2⟩
          have HR5 : Hid (RS B p s w5 a1 (l1 ++ [(3, 0, ks)]) false U5) := h1
          have HU5 : Hid (Us w (pU p U) w5 (pU p U5)) := HU2.out.trans (h2.weak (fun c hc => hc.elim (fun h => .inl (.inl h)) (fun h => .inl (.inr (by rw [h]; rfl)))))
          have HCL : Hid (closeP 3 (a1, l1, ks) = (a1, l1 ++ [(3, 0, ks)], (l1.length : Int))) := by show _ = _; unfold closeP; rw [if_neg (by rw [HKL.out.1]; exact e1)]
          rw [HCL.out] at HFI
          clear h1 h2
          go_wp2
          go_ret
          have hq := HB4.out hn1x
          exact ⟨_, a1, _, false, U5, rfl, HR5, HU5, (by show _ ∨ _; first | exact HFI | (have h0 := HFI.out; simpa using h0)), ⟨hb1, hb2, by simp <;> omega⟩⟩

/-- alternatives, at whatever depth -/
theorem altSOK (s : ByteArray) (hs : s.size ≤ 20) (d : Nat) : AltSOK s d := by
  induction d with
  | zero => exact fun B p a l f U w h1 h2 h3 h4 h5 => altsS_any s 0 (fun d' h => absurd h (by omega)) hs B p a l f U w h1 h2 h3 h4 h5
  | succ d ih =>
    refine fun B p a l f U w h1 h2 h3 h4 h5 => altsS_any s (d + 1) (fun d' h => ?_) hs B p a l f U w h1 h2 h3 h4 h5
    have e : d = d' := by omega
    subst e
    exact ih
end Go.Proofs.Ytdbogikcmfnpdaa

/-
  A path read off a text: how long its pieces' kids are.
-/
namespace Go.Proofs.Ytdbogikcmfnpdaa
open Go.RowKit

/-- no piece has more than a hundred kids -/
def KB (l : List Pc) : Prop := ∀ x ∈ l, x.2.2.length ≤ 100
theorem KB.nil : KB [] := fun x hx => by simp at hx
theorem KB.snoc {l : List Pc} {x : Pc} (h : KB l) (hx : x.2.2.length ≤ 100) : KB (l ++ [x]) := by
  intro y hy
  rcases List.mem_append.1 hy with h1 | h1
  · exact h y h1
  · rw [List.mem_singleton.1 h1]; exact hx
theorem KB.pat {l : List Pc} (h : KB l) {i : Nat} (hi : i < l.length) : (pat l i).2.2.length ≤ 100 := by
  rw [pat_get hi]
  exact h _ (List.getElem_mem hi)
theorem KB.kids {l : List Pc} (h : KB l) : ∀ k, k ≤ l.length → kidsLen l k ≤ k * 100
  | 0, _ => by simp [kidsLen]
  | k + 1, hk => by
    have := KB.kids h k (by omega)
    have := h.pat (i := k) (by omega)
    rw [kidsLen, Nat.add_mul]; omega
theorem signP_kb (c : Nat → Nat) : ∀ (f a : Nat) (l : List Pc) (k : Int), KB l → KB (signP c f a l k).2.1
  | 0, _, _, _, h => h
  | f + 1, a, l, k, h => by
    unfold signP
    split
    · exact h
    · exact signP_kb c f _ _ _ (h.snoc (by simp))
def KA (A : Nat → List Pc → Option St) : Prop := ∀ a l x, KB l → A a l = some x → KB x.2.1
theorem sglP_kb {c : Nat → Nat} {A : Nat → List Pc → Option St} (hA : KA A) : KA (sglP c A) := by
  intro a l x h hx
  unfold sglP at hx
  split at hx
  · simp only [Option.some.injEq] at hx
    subst hx
    exact h.snoc (by simp)
  · split at hx
    · cases e : A (a + 1) l with
      | none => rw [e] at hx; cases hx
      | some y =>
        rw [e] at hx
        have hx2 : (if c y.1 = 41 then some (y.1 + 1, y.2.1, y.2.2) else none) = some x := hx
        clear hx
        have hx := hx2
        split at hx
        · simp only [Option.some.injEq] at hx
          subst hx
          have := hA _ _ _ h e
          exact this
        · cases hx
    · cases hx
theorem oneP_kb {c : Nat → Nat} {N : Nat} {A : Nat → List Pc → Option St} (hA : KA A) : KA (oneP c N A) := by
  intro a l x h hx
  unfold oneP at hx
  cases e : sglP c A a l with
  | none => rw [e] at hx; cases hx
  | some y =>
    rw [e] at hx
    simp only [Option.map_some, Option.some.injEq] at hx
    subst hx
    exact signP_kb c _ _ _ _ (sglP_kb hA _ _ _ h e)
theorem closeP_kb {op : Int} {x : Nat × List Pc × List Int} (h : KB x.2.1) (h2 : x.2.2.length ≤ 100) : KB (closeP op x).2.1 := by
  unfold closeP
  split
  · exact h
  · exact h.snoc h2
theorem rowL_kb {O : Nat → List Pc → Option St} {c : Nat → Nat} (hO : KA O) : ∀ (f a : Nat) (l : List Pc) (ks : List Int) (x : Nat × List Pc × List Int), KB l → rowL O c f a l ks = some x → KB x.2.1 ∧ x.2.2.length ≤ ks.length + f
  | 0, a, l, ks, x, h, hx => by
    unfold rowL at hx
    simp only [Option.some.injEq] at hx
    subst hx
    exact ⟨h, by simp⟩
  | f + 1, a, l, ks, x, h, hx => by
    unfold rowL at hx
    split at hx
    · cases e : O a l with
      | none => rw [e] at hx; cases hx
      | some y =>
        rw [e] at hx
        obtain ⟨h1, h2⟩ := rowL_kb hO f _ _ _ x (hO _ _ _ h e) hx
        exact ⟨h1, by rw [List.length_append] at h2; simp at h2; omega⟩
    · simp only [Option.some.injEq] at hx
      subst hx
      exact ⟨h, by simp⟩
theorem altL_kb {O : Nat → List Pc → Option St} {c : Nat → Nat} (hO : KA O) : ∀ (f a : Nat) (l : List Pc) (ks : List Int) (x : Nat × List Pc × List Int), KB l → altL O c f a l ks = some x → KB x.2.1 ∧ x.2.2.length ≤ ks.length + f
  | 0, a, l, ks, x, h, hx => by
    unfold altL at hx
    simp only [Option.some.injEq] at hx
    subst hx
    exact ⟨h, by simp⟩
  | f + 1, a, l, ks, x, h, hx => by
    unfold altL at hx
    split at hx
    · cases e : O (a + 1) l with
      | none => rw [e] at hx; cases hx
      | some y =>
        rw [e] at hx
        obtain ⟨h1, h2⟩ := altL_kb hO f _ _ _ x (hO _ _ _ h e) hx
        exact ⟨h1, by rw [List.length_append] at h2; simp at h2; omega⟩
    · simp only [Option.some.injEq] at hx
      subst hx
      exact ⟨h, by simp⟩
theorem rowP_kb {c : Nat → Nat} {N : Nat} (hN : N ≤ 20) {A : Nat → List Pc → Option St} (hA : KA A) : KA (rowP c N A) := by
  intro a l x h hx
  unfold rowP at hx
  cases e : oneP c N A a l with
  | none => rw [e] at hx; cases hx
  | some y =>
    rw [e] at hx
    have hx : (rowL (oneP c N A) c (N + 1) y.1 y.2.1 [y.2.2]).map (closeP 2) = some x := hx
    cases e2 : rowL (oneP c N A) c (N + 1) y.1 y.2.1 [y.2.2] with
    | none => rw [e2] at hx; cases hx
    | some z =>
      rw [e2] at hx
      simp only [Option.map_some, Option.some.injEq] at hx
      subst hx
      obtain ⟨h1, h2⟩ := rowL_kb (oneP_kb hA) _ _ _ _ z (oneP_kb hA _ _ _ h e) e2
      exact closeP_kb h1 (by simp at h2; omega)
theorem altP_kb {c : Nat → Nat} {N : Nat} (hN : N ≤ 20) : ∀ d, KA (altP c N d)
  | 0 => fun a l x _ hx => by unfold altP at hx; cases hx
  | d + 1 => by
    intro a l x h hx
    have hR : KA (rowP c N (altP c N d)) := rowP_kb hN (altP_kb hN d)
    unfold altP at hx
    cases e : rowP c N (altP c N d) a l with
    | none => rw [e] at hx; cases hx
    | some y =>
      rw [e] at hx
      have hx : (altL (rowP c N (altP c N d)) c (N + 1) y.1 y.2.1 [y.2.2]).map (closeP 3) = some x := hx
      cases e2 : altL (rowP c N (altP c N d)) c (N + 1) y.1 y.2.1 [y.2.2] with
      | none => rw [e2] at hx; cases hx
      | some z =>
        rw [e2] at hx
        simp only [Option.map_some, Option.some.injEq] at hx
        subst hx
        obtain ⟨h1, h2⟩ := altL_kb hR _ _ _ _ z (hR _ _ _ h e) e2
        exact closeP_kb h1 (by simp at h2; omega)
theorem readP_size {s : ByteArray} (h : 20 < s.size) : readP s = none := by unfold readP; rw [if_pos h]
theorem readP_of {s : ByteArray} (h : ¬ 20 < s.size) : readP s = match altP (bt s) s.size (s.size + 1) 0 [] with | none => none | some x => if x.1 < s.size then none else if okP x.2.1 = true then some x.2.1 else none := by unfold readP; rw [if_neg h]; rfl
theorem readP_none {s : ByteArray} (h : ¬ 20 < s.size) {P : Option St} (hP : P = altP (bt s) s.size (s.size + 1) 0 []) (h1 : P = none) : readP s = none := by rw [readP_of h, ← hP, h1]
theorem readP_some {s : ByteArray} (h : ¬ 20 < s.size) {P : Option St} (hP : P = altP (bt s) s.size (s.size + 1) 0 []) {a : Nat} {l : List Pc} {k : Int} (h1 : P = some (a, l, k)) : readP s = if a < s.size then none else if okP l = true then some l else none := by rw [readP_of h, ← hP, h1]
/-- what is read is right, and its kids are few -/
theorem readP_ok {s : ByteArray} {l : List Pc} (h : readP s = some l) : okP l = true ∧ KB l := by
  by_cases h20 : 20 < s.size
  · rw [readP_size h20] at h; cases h
  · rw [readP_of h20] at h
    cases e : altP (bt s) s.size (s.size + 1) 0 [] with
    | none => rw [e] at h; cases h
    | some x =>
      rw [e] at h
      dsimp only at h
      split at h
      · cases h
      · split at h
        · rename_i hok
          simp only [Option.some.injEq] at h
          subst h
          exact ⟨hok, altP_kb (by omega) _ _ _ _ KB.nil e⟩
        · cases h
/-- what a reading tells: the pieces, or nothing -/
def RPost (Z : Option (List Pc)) (w : World) (e : Ending) (w' : World) : Prop :=
  ∃ (a' : Option Addr) (n' c' : Nat) (r : Bool), e = .returned (.tuple #[pv a' n' c', .bool r]) ∧ Hid (r = Z.isSome) ∧ Hid ((Z.getD []).length = n') ∧ Hid (PathOwn w.heap.size w'.heap.size w' a' (Z.getD [])) ∧ Hid (Below w.heap.size w w')
end Go.Proofs.Ytdbogikcmfnpdaa

namespace Go.Proofs.Ytdbogikcmfnpdaa
open Go.RowKit

set_option maxHeartbeats 2000000 in
set_option maxRecDepth 100000 in
theorem specRead_any (s : ByteArray) (w : World) (hs : s.size ≤ 9223372036854775807) :
    Calls Try.prog 39 #[.string s] w fun e w' => RPost (readP s) w e w' := by
  by_cases h20 : 20 < s.size
  · have hd : (20 : Int) < (s.size : Int) := by omega
    have HN : Hid (readP s = none) := readP_size h20
    obtain ⟨W, HW⟩ : ∃ W, Hid (W = w.alloc (.cells #[.slice none 0 0] 36)) := ⟨_, rfl⟩
    have HBW : Hid (Below w.heap.size w W) := by rw [HW.out]; exact below1 _ _
    have c2 : W.cell? ⟨w.heap.size, 0, none⟩ = some (.slice none 0 0) := by rw [HW.out]; exact (blk_one w w.heap.size rfl _ _).cell (i := 0) (by omega)
    go_enter Try.func39, Try.ntmps39
    go_wp2
    rw [← HW.out]
    refine bodyPost_ret (v := .tuple #[.agg #[.slice none 0 0], .bool false]) (by simp [results, Try.results39, go_sem, c2]) rfl ?_
    rw [HN.out]
    exact ⟨none, 0, 0, false, rfl, rfl, rfl, .inl rfl, HBW⟩
  · have hd : ¬ (20 : Int) < (s.size : Int) := by omega
    obtain ⟨E, HE⟩ : ∃ E, Hid (E = w.heap.size) := ⟨_, rfl⟩
    obtain ⟨W, HW⟩ : ∃ W, Hid (W = (w.alloc (.cells #[.slice none 0 0] 36)).alloc (.cells #[.string s, .int .i64 0, .bool false, .slice none 0 0] 107)) := ⟨_, rfl⟩
    have HBW : Hid (Below w.heap.size w W) := by rw [HW.out]; exact below2 w _ _
    have HSW : Hid (W.heap.size = E + 2) := by rw [HW.out, HE.out]; show _ = _; simp
    have HK2 : Hid (Blk W E 1 (fun _ => .slice none 0 0)) := by rw [HW.out]; exact (blk_one w E HE.out _ _).alloc _
    have HR0 : Hid (RS (E + 2) (E + 1) s W 0 [] false (fun _ => False)) := by
      refine ⟨.slice none 0 0, ?_, LaidO.nil _ _, fun h => h⟩
      rw [HW.out]
      have e : E + 1 = (w.alloc (.cells #[.slice none 0 0] 36)).heap.size := by rw [HE.out]; simp
      rw [e]
      exact blk_new _ #[.string s, .int .i64 0, .bool false, .slice none 0 0] _ _ (fun i hi => by
        have hi2 : i < 4 := hi
        rcases (show i = 0 ∨ i = 1 ∨ i = 2 ∨ i = 3 by omega) with rfl | rfl | rfl | rfl <;> rfl)
    obtain ⟨P, HP⟩ : ∃ P, Hid (P = altP (bt s) s.size (s.size + 1) 0 []) := ⟨_, rfl⟩
    have HC := altSOK s (by omega) s.size (E + 2) (E + 1) 0 [] false (fun _ => False) W HR0.out (by rw [HSW.out]; exact Nat.le_refl _) (by simp; omega) (Nat.zero_le _) (by omega)
    rw [← HP.out] at HC
    obtain ⟨Z, HZ⟩ : ∃ Z, Hid (Z = readP s) := ⟨_, rfl⟩
    have HN1 : Hid (P = none → Z = none) := fun h => by rw [HZ.out]; exact readP_none h20 HP.out h
    have HN2 : Hid (∀ a l k, P = some (a, l, k) → Z = if a < s.size then none else if okP l = true then some l else none) := fun a l k h => by rw [HZ.out]; exact readP_some h20 HP.out h
    rw [← HZ.out]
    go_enter Try.func39, Try.ntmps39
    go_upto_region 4 with fail
    rw [← HE.out, ← HW.out]
    clear HW
    go_wp2_with fail
    refine HC.mono ?_
    rintro e w1 ⟨k, a1, l1, f1, U1, rfl, HR1, HU1, HF1, HB1⟩
    clear HC
    have hb1 := HB1.out.1
    have hb2 := HB1.out.2.1
    have hb3 := HB1.out.2.2
    simp only [List.length_nil, Nat.zero_add, Nat.sub_zero] at hb2 hb3
    have HBX1 : Hid (Below E W w1) := HU1.out.1.to_below (by rw [HSW.out]; omega) (fun c hc => (show c = E + 1 ∨ False from hc).elim (fun h => by omega) (fun h => h.elim))
    have HBX1' : Hid (Below (E + 1) W w1) := HU1.out.1.to_below (by rw [HSW.out]; omega) (fun c hc => (show c = E + 1 ∨ False from hc).elim (fun h => by omega) (fun h => h.elim))
    have HBE1 : Hid (Below w.heap.size w w1) := HBW.out.trans (HBX1.out.mono (by rw [HE.out]; exact Nat.le_refl _))
    obtain ⟨v, hbl, hla, hup⟩ := HR1.out
    obtain ⟨a9, cap9, rfl, hpo⟩ := hla.toOwn
    have HPO : Hid (PathOwn (E + 2) w1.heap.size w1 a9 l1) := hpo
    obtain ⟨n9, HN9⟩ : ∃ n, Hid (l1.length = n) := ⟨_, rfl⟩
    rw [HN9.out] at hbl hb3
    have r0 : w1.cell? ⟨E + 1, 0, none⟩ = some (.string s) := hbl.cell (i := 0) (by omega)
    have r1 : w1.cell? ⟨E + 1, 1, none⟩ = some (.int .i64 (a1 : Int)) := hbl.cell (i := 1) (by omega)
    have r2 : w1.cell? ⟨E + 1, 2, none⟩ = some (.bool f1) := hbl.cell (i := 2) (by omega)
    have r3 : w1.cell? ⟨E + 1, 3, none⟩ = some (.slice a9 n9 cap9) := hbl.cell (i := 3) (by omega)
    have HBL : Hid (Blk w1 (E + 1) 4 (rcS s a1 (.slice a9 n9 cap9) f1)) := hbl
    have HK21 : Hid (Blk w1 E 1 (fun _ => .slice none 0 0)) := HK2.out.of_block (HBX1'.out.block E (by omega))
    have hsz1 := HBX1.out.size
    have hS := HSW.out
    clear hbl hla hup hpo
    obtain ⟨W2, HW2⟩ : ∃ W2, Hid (W2 = w1.alloc (.cells #[.slice a9 n9 cap9] 36)) := ⟨_, rfl⟩
    have HBW2 : Hid (Below w1.heap.size w1 W2) := by rw [HW2.out]; exact below1 _ _
    have HBE2 : Hid (Below w.heap.size w W2) := HBE1.out.trans (HBW2.out.mono HBE1.out.size)
    have HK22 : Hid (Blk W2 E 1 (fun _ => .slice none 0 0)) := HK21.out.of_block (HBW2.out.block _ HK21.out.lt)
    have HBX : Hid (Blk W2 w1.heap.size 1 (fun _ => .slice a9 n9 cap9)) := by rw [HW2.out]; exact blk_one w1 _ rfl _ _
    have HPO2 : Hid (PathOwn (E + 2) w1.heap.size W2 a9 l1) := HPO.out.below HBW2.out (Nat.le_refl _)
    have HBL2 : Hid (Blk W2 (E + 1) 4 (rcS s a1 (.slice a9 n9 cap9) f1)) := HBL.out.of_block (HBW2.out.block _ HBL.out.lt)
    have HNO : Hid (∀ wx, Below w.heap.size w wx → Z = none → RPost Z w (.returned (.tuple #[.agg #[.slice none 0 0], .bool false])) wx) := by
      intro wx h1 h2
      rw [h2]
      exact ⟨none, 0, 0, false, rfl, rfl, rfl, .inl rfl, h1⟩
    go_upto_region 6 with fail
    rw [← HW2.out]
    clear r0 r1 r2 r3 HW2
    have r1 : W2.cell? ⟨E + 1, 1, none⟩ = some (.int .i64 (a1 : Int)) := HBL2.out.cell (i := 1) (by omega)
    have r3 : W2.cell? ⟨E + 1, 2, none⟩ = some (.bool f1) := HBL2.out.cell (i := 2) (by omega)
    have c2 := HK22.out.cell (i := 0) (by omega)
    have z2 := HK22.out.frozen 0
    have x0 := HBX.out.cell (i := 0) (by omega)
    have HSETN : Hid (∀ wx, Blk wx E 1 (fun _ => .slice none 0 0) → Blk (wx.setCell ⟨E, 0, none⟩ (.slice none 0 0)) E 1 (fun _ => .slice none 0 0)) := fun wx h => (h.set 0 (by omega) _).congr (fun i hi => by
      obtain rfl : i = 0 := by omega
      simp)
    rcases Bool.eq_false_or_eq_true f1 with hf | hf
    · subst hf
      have HZN : Hid (Z = none) := by
        rcases HF1.out with ⟨_, h | h | ⟨x, h, h2⟩⟩ | ⟨_, h, _⟩
        · cases h
        · exact HN1.out h
        · have := HN2.out x.1 x.2.1 x.2.2 h
          rw [if_pos (Nat.lt_of_not_le (fun e => h2 (.inl e)))] at this
          exact this
        · cases h
      have k2 := (HSETN.out _ HK22.out).cell (i := 0) (by omega)
      go_wp2
      refine bodyPost_ret (v := .tuple #[.agg #[.slice none 0 0], .bool false]) (by simp [results, Try.results39, go_sem, k2]) rfl ?_
      exact HNO.out _ (HBE2.out.setCell (by rw [HE.out]; exact Nat.le_refl _) _) HZN.out
    · subst hf
      have HZX : Hid (Z = if a1 < s.size then none else if okP l1 = true then some l1 else none) := by
        rcases HF1.out with ⟨h, _⟩ | ⟨_, _, h3, _⟩
        · cases h
        · exact HN2.out _ _ _ h3
      by_cases hlt : a1 < s.size
      · have hl1 : (a1 : Int) < (s.size : Int) := by omega
        have HZN : Hid (Z = none) := by show _ = _; rw [HZX.out, if_pos hlt]
        have k2 := (HSETN.out _ HK22.out).cell (i := 0) (by omega)
        go_wp2
        refine bodyPost_ret (v := .tuple #[.agg #[.slice none 0 0], .bool false]) (by simp [results, Try.results39, go_sem, k2]) rfl ?_
        exact HNO.out _ (HBE2.out.setCell (by rw [HE.out]; exact Nat.le_refl _) _) HZN.out
      · have hl1 : ¬ (a1 : Int) < (s.size : Int) := by omega
        obtain ⟨R, HRO⟩ : ∃ r, Hid (r = okP l1) := ⟨_, rfl⟩
        rw [if_neg hlt, ← HRO.out] at HZX
        have hn9 : n9 ≤ 1048576 := by omega
        have HKL : Hid (∀ i, i < n9 → (pat l1 i).2.2.length ≤ 1048576) := by
          have h3 : P = some (a1, l1, k) := by
            rcases HF1.out with ⟨h, _⟩ | ⟨_, _, h, _⟩
            · cases h
            · exact h
          rw [HP.out] at h3
          have hkb := altP_kb (by omega) _ _ _ _ KB.nil h3
          intro i hi
          exact Nat.le_trans (hkb.pat (by rw [HN9.out]; exact hi)) (by omega)
        go_wp2_with fail
        refine (specPathOk_any (E + 2) w1.heap.size a9 n9 cap9 l1 R W2 HPO2.out.toIn HBW2.out.size HN9.out hn9 HKL.out HRO.out).mono ?_
        rintro e w3 ⟨rfl, HB3⟩
        have HBE3 : Hid (Below w.heap.size w w3) := HBE2.out.trans (HB3.out.mono HBE2.out.size)
        have HK23 : Hid (Blk w3 E 1 (fun _ => .slice none 0 0)) := HK22.out.of_block (HB3.out.block _ HK22.out.lt)
        have HX3 : Hid (Blk w3 w1.heap.size 1 (fun _ => .slice a9 n9 cap9)) := HBX.out.of_block (HB3.out.block _ HBX.out.lt)
        have HPO3 : Hid (PathOwn (E + 2) w1.heap.size w3 a9 l1) := HPO2.out.below HB3.out HBW2.out.size
        clear c2 z2 x0 r1 r3
        have c2 := HK23.out.cell (i := 0) (by omega)
        have z2 := HK23.out.frozen 0
        have x0 := HX3.out.cell (i := 0) (by omega)
        rcases Bool.eq_false_or_eq_true R with hR | hR
        · subst hR
          have HZS : Hid (Z = some l1) := by show _ = _; rw [HZX.out]; rfl
          have k2 : (w3.setCell ⟨E, 0, none⟩ (.slice a9 n9 cap9)).cell? ⟨E, 0, none⟩ = some (.slice a9 n9 cap9) := (HK23.out.set 0 (by omega) (.slice a9 n9 cap9)).cell (i := 0) (by omega)
          go_wp2
          refine bodyPost_ret (v := .tuple #[.agg #[.slice a9 n9 cap9], .bool true]) (by simp [results, Try.results39, go_sem, k2]) rfl ?_
          rw [HZS.out]
          refine ⟨a9, n9, cap9, true, rfl, rfl, HN9, ?_, HBE3.out.setCell (by rw [HE.out]; exact Nat.le_refl _) _⟩
          exact (HPO3.out.setCell (by omega) _).wide (by have := HE.out; omega) (by have := HB3.out.size; have := HBW2.out.size; simp; omega)
        · subst hR
          have HZN : Hid (Z = none) := by show _ = _; rw [HZX.out]; rfl
          have k2 := (HSETN.out _ HK23.out).cell (i := 0) (by omega)
          go_wp2
          refine bodyPost_ret (v := .tuple #[.agg #[.slice none 0 0], .bool false]) (by simp [results, Try.results39, go_sem, k2]) rfl ?_
          exact HNO.out _ (HBE3.out.setCell (by rw [HE.out]; exact Nat.le_refl _) _) HZN.out
end Go.Proofs.Ytdbogikcmfnpdaa
