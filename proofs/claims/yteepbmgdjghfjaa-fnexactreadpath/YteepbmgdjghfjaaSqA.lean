/-
  The model's reader of a path: what lies behind its pointer, a piece more.
-/
import Derived.Test.YteepbmgdjghfjaaRpA
namespace Go.Proofs.Yteepbmgdjghfjaa
open Go.RowKit

/-- the cells of the model's reader: text, place, whether it failed, pieces -/
abbrev rcS (s : ByteArray) (a : Nat) (v : Value) (f : Bool) : Nat → Value := fun i => if i = 0 then .string s else if i = 1 then .int .i64 (a : Int) else if i = 2 then .bool f else v
/-- the model's reader -/
def RS (B p : Nat) (s : ByteArray) (w : World) (a : Nat) (l : List Pc) (f : Bool) (U : Nat → Prop) : Prop :=
  ∃ v, Blk w p 4 (rcS s a v f) ∧ LaidO B w v l U ∧ ¬ U p
theorem RS.lt {B p a : Nat} {s : ByteArray} {w : World} {l : List Pc} {f : Bool} {U : Nat → Prop} (h : RS B p s w a l f U) : ∀ c, pU p U c → c < w.heap.size := by
  obtain ⟨v, h1, h2, _⟩ := h
  rintro c (rfl | hc)
  · exact h1.lt
  · exact (h2.lt hc).2
theorem RS.below {B p a : Nat} {s : ByteArray} {w w' : World} {l : List Pc} {f : Bool} {U : Nat → Prop} (h : RS B p s w a l f U) (hb : Below w.heap.size w w') : RS B p s w' a l f U := by
  obtain ⟨v, h1, h2, h3⟩ := h
  exact ⟨v, h1.of_block (hb.block _ h1.lt), h2.below hb, h3⟩
theorem RS.cells {B p a : Nat} {s : ByteArray} {w : World} {l : List Pc} {f : Bool} {U : Nat → Prop} (h : RS B p s w a l f U) : w.cell? ⟨p, 0, none⟩ = some (.string s) ∧ w.cell? ⟨p, 1, none⟩ = some (.int .i64 (a : Int)) ∧ w.cell? ⟨p, 2, none⟩ = some (.bool f) ∧ (∀ i, w.frozen? ⟨p, i, none⟩ = false) := by
  obtain ⟨v, h1, _, _⟩ := h
  exact ⟨h1.cell (i := 0) (by omega), h1.cell (i := 1) (by omega), h1.cell (i := 2) (by omega), fun i => h1.frozen i⟩
/-- the place goes on -/
theorem RS.step {B p a : Nat} {s : ByteArray} {w : World} {l : List Pc} {f : Bool} {U : Nat → Prop} (h : RS B p s w a l f U) : RS B p s (w.setCell ⟨p, 1, none⟩ (.int .i64 ((a : Int) + 1))) (a + 1) l f U := by
  obtain ⟨v, h1, h2, h3⟩ := h
  refine ⟨v, (h1.set 1 (by omega) _).congr fun i hi => ?_, laid_set h2 h3 _, h3⟩
  rcases (show i = 0 ∨ i = 1 ∨ i = 2 ∨ i = 3 by omega) with rfl | rfl | rfl | rfl <;> simp [rcS]
theorem RS.fail {B p a : Nat} {s : ByteArray} {w : World} {l : List Pc} {f : Bool} {U : Nat → Prop} (h : RS B p s w a l f U) : RS B p s (w.setCell ⟨p, 2, none⟩ (.bool true)) a l true U := by
  obtain ⟨v, h1, h2, h3⟩ := h
  refine ⟨v, (h1.set 2 (by omega) _).congr fun i hi => ?_, laid_set h2 h3 _, h3⟩
  rcases (show i = 0 ∨ i = 1 ∨ i = 2 ∨ i = 3 by omega) with rfl | rfl | rfl | rfl <;> simp [rcS]

/-- a piece more, in mathematics -/
theorem laid_moreS {B p a g cap k : Nat} {s : ByteArray} {w W2 w6 : World} {l : List Pc} {f : Bool} {v : Value} {U : Nat → Prop} {x : Pc} {ra : Option Addr} {rc : Nat} {fl : Nat → Value} {R : Nat → Option Addr} {C : Nat → Nat}
    (hb : p < w.heap.size) (hU : ¬ U p) (hB : B ≤ w.heap.size) (hBW : Below w.heap.size w W2) (hp6 : Blk w6 p 4 (rcS s a v f))
    (h2 : ∀ c, v.ownBlock = some c → U c) (h3 : ∀ c, U c → B ≤ c ∧ c < W2.heap.size)
    (h4 : ∀ i, i < l.length → (fl (i * 3) = .int .i64 (pat l i).1 ∧ fl (i * 3 + 1) = .int .u8 (pat l i).2.1 ∧ fl (i * 3 + 2) = .slice (R i) (pat l i).2.2.length (C i)) ∧ RowOwn B W2.heap.size W2 (R i) (pat l i).2.2 ∧
      ((pat l i).2.2 ≠ [] → (∀ c, R i = some ⟨c, 0, none⟩ → U c ∧ v.ownBlock ≠ some c) ∧ ∀ j, j < i → (pat l j).2.2 ≠ [] → R j ≠ R i))
    (hk : l.length = k) (hr : RowOwn B W2.heap.size W2 ra x.2.2) (hn : x.2.2 ≠ [] → ∀ c, ra = some ⟨c, 0, none⟩ → ¬ pU p U c) (hg : W2.grownBy w6 v.ownBlock) (hloc : v.ownBlock = some g ∨ W2.heap.size ≤ g) (hgl : g < w6.heap.size)
    (ho : w6.ownsRow B 84 3 (.slice (some ⟨g, 0, none⟩) (k + 1) cap) (k + 1) ((List.range (k * 3)).map fl ++ [.int .i64 x.1, .int .u8 x.2.1, .slice ra x.2.2.length rc])) :
    ∃ U', (∃ v', Blk (w6.setCell ⟨p, 3, none⟩ (.slice (some ⟨g, 0, none⟩) (k + 1) cap)) p 4 (rcS s a v' f) ∧ LaidO B (w6.setCell ⟨p, 3, none⟩ (.slice (some ⟨g, 0, none⟩) (k + 1) cap)) v' (l ++ [x]) U' ∧ ¬ U' p) ∧ Us w (fun c => pU p U c ∨ ra = some ⟨c, 0, none⟩) (w6.setCell ⟨p, 3, none⟩ (.slice (some ⟨g, 0, none⟩) (k + 1) cap)) (pU p U') := by
  subst hk
  have hBg : B ≤ g := by
    rcases hloc with h | h
    · exact (h3 g (h2 g h)).1
    · have := hBW.size; omega
  have hL := LaidO.snoc (x := x) (ra := ra) (rc := rc) h2 h3 h4 hr (fun hne c hc hu => hn hne c hc (.inr hu)) hg hloc hgl hBg ho
  have hU' : ¬ (U p ∨ p = g ∨ (x.2.2 ≠ [] ∧ ra = some ⟨p, 0, none⟩)) := by
    rintro (h | h | ⟨h5, h6⟩)
    · exact hU h
    · subst h
      rcases hloc with h | h
      · exact hU (h2 _ h)
      · have := hBW.size; omega
    · exact hn h5 p h6 (.inl rfl)
  refine ⟨_, ⟨_, (hp6.set 3 (by omega) _).congr fun i hi => ?_, laid_set hL hU' _, hU'⟩, ⟨⟨?_, ?_, ?_, ?_, ?_⟩, ?_⟩⟩
  · rcases (show i = 0 ∨ i = 1 ∨ i = 2 ∨ i = 3 by omega) with rfl | rfl | rfl | rfl <;> simp [rcS]
  · exact (hg.os).trans hBW.os
  · exact (hg.tape).trans hBW.tape
  · exact (hg.output).trans hBW.output
  · have := hg.size; have := hBW.size; simp; omega
  · intro c hc hn2
    rw [Below.heap_setCell _ _ _ c (fun e => hn2 (.inl (.inl (by simpa using e))))]
    rw [hg.block c (by have := hBW.size; omega) (fun e => hn2 (.inl (.inr (h2 c e.symm))))]
    exact hBW.block c hc
  · rintro c (rfl | h | rfl | ⟨_, h⟩)
    · exact .inl (.inl (.inl rfl))
    · exact .inl (.inl (.inr h))
    · rcases hloc with h | h
      · exact .inl (.inl (.inr (h2 _ h)))
      · right; have := hBW.size; omega
    · exact .inl (.inr h)

set_option maxHeartbeats 2000000 in
set_option maxRecDepth 100000 in
theorem put_any (B p : Nat) (s : ByteArray) (a : Nat) (l : List Pc) (f : Bool) (U : Nat → Prop) (op y : Int) (ra : Option Addr) (q rc : Nat) (ks : List Int) (w : World) (hr : RS B p s w a l f U) (hB : B ≤ w.heap.size) (hl : l.length ≤ 1000)
    (hk : RowOwn B w.heap.size w ra ks) (hq : ks.length = q) (hn : ks ≠ [] → ∀ c, ra = some ⟨c, 0, none⟩ → ¬ pU p U c) :
    Calls Try.prog 85 #[.pointer (some ⟨p, 0, none⟩), .agg #[.int .i64 op, .int .u8 y, .slice ra q rc]] w fun e w' => e = .returned (.int .i64 (l.length : Int)) ∧ ∃ U', RS B p s w' a (l ++ [(op, y, ks)]) f U' ∧ Us w (fun c => pU p U c ∨ ra = some ⟨c, 0, none⟩) w' (pU p U') := by
  obtain ⟨v, hb, hL, hU⟩ := hr
  obtain ⟨i8, hi8, hz80, hz81, hz82⟩ := info_parts Try.info84
  obtain ⟨k, HKL⟩ : ∃ k, Hid (k = l.length) := ⟨_, rfl⟩
  rw [← HKL.out] at hl
  have HB0 : Hid (Blk w p 4 (rcS s a v f)) := hb
  have HL0 : Hid (LaidO B w v l U) := hL
  have HK : Hid (RowOwn B w.heap.size w ra ks) := hk
  have HQ : Hid (ks.length = q) := hq
  have HN : Hid (ks ≠ [] → ∀ c, ra = some ⟨c, 0, none⟩ → ¬ pU p U c) := hn
  have HUP : Hid (¬ U p) := hU
  obtain ⟨W, HW⟩ : ∃ W, Hid (W = w.alloc (.cells #[.int .i64 op, .int .u8 y, .slice ra q rc] 84)) := ⟨_, rfl⟩
  obtain ⟨E, HE⟩ : ∃ E, Hid (E = w.heap.size) := ⟨_, rfl⟩
  have HBW : Hid (Below w.heap.size w W) := by rw [HW.out]; exact below1 _ _
  have HBX : Hid (Blk W E 3 (fun i => if i = 0 then .int .i64 op else if i = 1 then .int .u8 y else .slice ra q rc)) := by rw [HW.out]; exact blk_three w E HE.out _ _ _ _
  have HBP : Hid (Blk W p 4 (rcS s a v f)) := hb.of_block (HBW.out.block _ hb.lt)
  obtain ⟨q0, q1, q2⟩ := blk_three_set HBX.out
  have r2 : W.cell? ⟨p, 3, none⟩ = some v := HBP.out.cell (i := 3) (by omega)
  have hPE : p < E := by rw [HE.out]; exact hb.lt
  have hWE : W.heap.size = E + 1 := by rw [HW.out, HE.out]; simp
  have hBE : B ≤ E := by rw [HE.out]; exact hB
  have HLW : Hid (LaidO B W v l U) := hL.below HBW.out
  clear hb hL hk hq hn hU
  obtain ⟨N, HNN⟩ : ∃ o : Obj, Hid (o = .cells #[.int .i64 op, .int .u8 y, .slice ra q rc] 84) := ⟨_, rfl⟩
  have HBN : Hid (Below W.heap.size W (W.alloc N)) := below1 _ _
  obtain ⟨fl, R, C, h1, h2, h3, h4⟩ := (HLW.out.below HBN.out)
  rw [← HKL.out] at h1
  have HSX : Hid (∀ wx, Below W.heap.size W wx → wx.cell? ⟨p, 3, none⟩ = some v ∧ wx.cell? ⟨E, 0, none⟩ = some (.int .i64 op) ∧ wx.cell? ⟨E, 1, none⟩ = some (.int .u8 y) ∧ wx.cell? ⟨E, 2, none⟩ = some (.slice ra q rc)) := fun wx h =>
    ⟨cell_below r2 h (lt_of_cell r2), cell_below q0 h (lt_of_cell q0), cell_below q1 h (lt_of_cell q1), cell_below q2 h (lt_of_cell q2)⟩
  have hsx1 := HSX.out W (Below.refl _ _)
  have hsx2 := HSX.out (W.alloc N) HBN.out
  rw [HNN.out] at hsx2 h1
  go_enter Try.func85, Try.ntmps85
  go_upto_region 1 with fail
  rw [← HE.out, ← HW.out]
  have HGB : Hid (∀ w6, ((W.alloc (.cells #[.int .i64 op, .int .u8 y, .slice ra q rc] 84)).drew).grownBy w6 v.ownBlock → Blk w6 p 4 (rcS s a v f) ∧ (w6.cell? ⟨p, 3, none⟩ = some v ∧ w6.cell? ⟨E, 0, none⟩ = some (.int .i64 op) ∧ w6.cell? ⟨E, 1, none⟩ = some (.int .u8 y) ∧ w6.cell? ⟨E, 2, none⟩ = some (.slice ra q rc))) := by
    intro w6 h
    have hUl : ∀ c, U c → c < E := fun c hc => by rw [HE.out]; exact (HL0.out.lt hc).2
    have hb1 : w6.heap[p]? = W.heap[p]? := by
      rw [h.block p (by simp; omega) (fun e => HUP.out (h2 p e.symm))]
      exact Below.heap_alloc W _ p (by omega)
    have hb2 : w6.heap[E]? = W.heap[E]? := by
      rw [h.block E (by simp; omega) (fun e => by have := hUl E (h2 E e.symm); omega)]
      exact Below.heap_alloc W _ E (by omega)
    have k1 := HBP.out.of_block hb1
    obtain ⟨j0, j1, j2⟩ := blk_three_set (HBX.out.of_block hb2)
    exact ⟨k1, k1.cell (i := 3) (by omega), j0, j1, j2⟩
  have H2 : Hid (∀ c, v.ownBlock = some c → U c) := h2
  have H3 : Hid (∀ c, U c → B ≤ c ∧ c < (W.alloc N).heap.size) := h3
  have H4 : Hid (∀ i, i < l.length → (fl (i * 3) = .int .i64 (pat l i).1 ∧ fl (i * 3 + 1) = .int .u8 (pat l i).2.1 ∧ fl (i * 3 + 2) = .slice (R i) (pat l i).2.2.length (C i)) ∧ RowOwn B (W.alloc N).heap.size (W.alloc N) (R i) (pat l i).2.2 ∧
      ((pat l i).2.2 ≠ [] → (∀ c, R i = some ⟨c, 0, none⟩ → U c ∧ v.ownBlock ≠ some c) ∧ ∀ j, j < i → (pat l j).2.2 ≠ [] → R j ≠ R i)) := h4
  have r2' := hsx2.1
  have hsx1 := hsx1.2
  have hsx2 := hsx2.2
  have hne : E ≠ p := by omega
  clear h2 h3 h4 q0 q1 q2
  have HNW : Hid (∀ j u, ([.int .i64 op, .int .u8 y, .slice ra q rc] : List Value)[j]? = some u → (W.alloc (.cells #[.int .i64 op, .int .u8 y, .slice ra q rc] 84)).cell? ((⟨E + 1, 0, none⟩ : Addr).add j) = some u) := by
    have := news_pc W (.int .i64 op) (.int .u8 y) (.slice ra q rc) 84
    rw [hWE] at this
    exact this
  have HEND : Hid (∀ (w6 : World) (g5 cap5 : Nat), ((W.alloc (.cells #[.int .i64 op, .int .u8 y, .slice ra q rc] 84)).drew).grownBy w6 v.ownBlock → (v.ownBlock = some g5 ∨ g5 = E + 2) → g5 < w6.heap.size → w6.ownsRow B 84 3 (.slice (some ⟨g5, 0, none⟩) (k + 1) cap5) (k + 1) ((List.range (k * 3)).map fl ++ [.int .i64 op, .int .u8 y, .slice ra q rc]) →
      (Ending.returned (.int .i64 (k : Int)) = .returned (.int .i64 (l.length : Int)) ∧ ∃ U', RS B p s (w6.setCell ⟨p, 3, none⟩ (.slice (some ⟨g5, 0, none⟩) (k + 1) cap5)) a (l ++ [(op, y, ks)]) f U' ∧ Us w (fun c => pU p U c ∨ ra = some ⟨c, 0, none⟩) (w6.setCell ⟨p, 3, none⟩ (.slice (some ⟨g5, 0, none⟩) (k + 1) cap5)) (pU p U'))) := by
    intro w6 g5 cap5 hg hloc hgl ho
    refine ⟨by rw [HKL.out], ?_⟩
    have hBW2 : Below w.heap.size w (W.alloc N) := HBW.out.trans (HBN.out.mono HBW.out.size)
    have hg2 : (W.alloc N).grownBy w6 v.ownBlock := by rw [HNN.out]; exact ⟨hg.os, hg.tape, hg.output, hg.size, hg.block⟩
    obtain ⟨U', ⟨v', e1, e2, e3⟩, e4⟩ := laid_moreS (x := (op, y, ks)) (ra := ra) (rc := rc) (g := g5) (cap := cap5) HB0.out.lt HUP.out hB hBW2 (HGB.out w6 hg).1 H2.out H3.out H4.out HKL.out.symm (HK.out.below hBW2 (Nat.le_refl _) |>.wide (Nat.le_refl _) hBW2.size) HN.out hg2 (hloc.imp id (fun h => by simp; omega)) hgl (by dsimp only; rw [HQ.out]; exact ho)
    exact ⟨U', ⟨v', e1, e2, e3⟩, e4⟩
  refine wp_region_held_drew (S := fun w' => w'.cell? ⟨E, 0, none⟩ = some (.int .i64 op) ∧ w'.cell? ⟨E, 1, none⟩ = some (.int .u8 y) ∧ w'.cell? ⟨E, 2, none⟩ = some (.slice ra q rc)) (by kernel_rfl) hsx1 (fun hHeld => ?_)
  refine wpAnyH_take (i := 0) (oi := { dst := some 5, op := Go.Op.move (Go.Operand.tmp 0), type := 80, pos := "l06_path.go:43", after := #[], guard := none }) (v := ?_) rfl (by kernel_rfl) (by kernel_rfl) (by kernel_rfl) (fun _ _ _ h => h) (Or.inl ⟨by kernel_rfl, ?_⟩) (by assumption) ?_
  rotate_left
  · intro w hSw; (try dsimp only at hSw); go_simp; try with_reducible rfl
  simp only [Act.put, List.setIfInBounds_toArray, List.set_cons_zero, List.set_cons_succ]
  refine wpAnyH_take (i := 1) (oi := { dst := some 6, op := Go.Op.move (Go.Operand.tmp 0), type := 80, pos := "l06_path.go:43", after := #[], guard := none }) (v := ?_) rfl (by kernel_rfl) (by kernel_rfl) (by kernel_rfl) (fun _ _ _ h => h) (Or.inl ⟨by kernel_rfl, ?_⟩) (by assumption) ?_
  rotate_left
  · intro w hSw; (try dsimp only at hSw); go_simp; try with_reducible rfl
  simp only [Act.put, List.setIfInBounds_toArray, List.set_cons_zero, List.set_cons_succ]
  refine wpAnyH_take (i := 2) (oi := { dst := some 7, op := Go.Op.nilCheck (Go.Operand.tmp 6), type := 0, pos := "l06_path.go:43", after := #[{ on := 1, ground := Go.Ground.data }], guard := none }) (v := ?_) rfl (by kernel_rfl) (by kernel_rfl) (by kernel_rfl) (fun _ _ _ h => h) (Or.inl ⟨by kernel_rfl, ?_⟩) (by assumption) ?_
  rotate_left
  · intro w hSw; (try dsimp only at hSw); go_simp; try with_reducible rfl
  simp only [Act.put, List.setIfInBounds_toArray, List.set_cons_zero, List.set_cons_succ]
  refine wpAnyH_take (i := 3) (oi := { dst := some 8, op := Go.Op.fieldAddr 82 (Go.Operand.tmp 7) 3, type := 0, pos := "l06_path.go:43", after := #[{ on := 2, ground := Go.Ground.data }], guard := none }) (v := ?_) rfl (by kernel_rfl) (by kernel_rfl) (by kernel_rfl) (fun _ _ _ h => h) (Or.inl ⟨by kernel_rfl, ?_⟩) (by assumption) ?_
  rotate_left
  · intro w hSw; (try dsimp only at hSw); go_simp; try with_reducible rfl
  simp only [Act.put, List.setIfInBounds_toArray, List.set_cons_zero, List.set_cons_succ]
  refine wpAnyH_take (i := 5) (oi := { dst := some 10, op := Go.Op.load 84 (Go.Operand.tmp 3), type := 84, pos := "l06_path.go:43", after := #[], guard := none }) (v := ?_) rfl (by kernel_rfl) (by kernel_rfl) (by kernel_rfl) (fun _ _ _ h => h) (Or.inl ⟨by kernel_rfl, ?_⟩) (by assumption) ?_
  rotate_left
  · intro w hSw; (try dsimp only at hSw); go_simp; try with_reducible rfl
  simp only [Act.put, List.setIfInBounds_toArray, List.set_cons_zero, List.set_cons_succ]
  refine wpAnyH_ready (rs := [4, 6]) (by kernel_rfl) (by simp) ?_
  refine AllReadyH.cons (o := { dst := some 9, op := Go.Op.load 34 (Go.Operand.tmp 8), type := 34, pos := "l06_path.go:43", after := #[{ on := 3, ground := Go.Ground.data }], guard := none }) rfl (fun K hK => ?_) ?_
  · go_simp
    refine hK.out _ _ hHeld (fun hHeld => ?_)
    clear hK K
    try simp only [Act.put, List.setIfInBounds_toArray, List.set_cons_zero, List.set_cons_succ]
    refine wpAnyH_ready (rs := [6]) (by kernel_rfl) (by simp) ?_
    refine AllReadyH.cons (o := { dst := some 11, op := Go.Op.buildSlice 34 1 #[(0, Go.Operand.tmp 10)], type := 34, pos := "l06_path.go:43", after := #[{ on := 5, ground := Go.Ground.data }], guard := none }) rfl (fun K hK => ?_) ?_
    · go_simp
      refine hK.out _ _ hsx2 (fun hHeld => ?_)
      clear hK K
      try simp only [Act.put, List.setIfInBounds_toArray, List.set_cons_zero, List.set_cons_succ]
      refine wpAnyH_ready (rs := [7]) (by kernel_rfl) (by simp) ?_
      refine AllReadyH.cons (o := { dst := some 12, op := Go.Op.call { callee := Go.Callee.builtin Go.Builtin.append, args := #[Go.Operand.tmp 9, Go.Operand.tmp 11], argTypes := #[34, 34] }, type := 34, pos := "l06_path.go:43", after := #[{ on := 4, ground := Go.Ground.data }, { on := 6, ground := Go.Ground.data }], guard := none }) rfl (fun K hK => ?_) ?_
      · refine step_append_lies _ rfl (.tmp 9) (.tmp 11) 34 rfl B 84 i8 _ 3 40 Try.underlying34 hi8 hz80 hz81 hz82 rfl (by decide) _ k ((List.range (k * 3)).map fl) rfl (by exact h1.drew) ⟨E + 1, 0, none⟩ 1 1 [.int .i64 op, .int .u8 y, .slice ra q rc] rfl rfl (by exact HNW.out) (by simp [Value.oneCell']) (by decide) (by unfold maxLen; omega) (by omega) (by simp; omega) _ rfl ?_; intro g5 cap5 w6 hown5 hgrow5 hloc5 hg5; have hk6 := HGB.out w6 hgrow5; have hsx3 := hk6.2.2; have hc6 := hk6.2.1; have hsx4 := fun (u : Value) => And.intro (cell_set (c := p) (j := 3) hsx3.1 u hne) (And.intro (cell_set (c := p) (j := 3) hsx3.2.1 u hne) (cell_set (c := p) (j := 3) hsx3.2.2 u hne)); have hf6 := hk6.1.frozen 3
        refine hK.out _ _ hsx3 (fun hHeld => ?_)
        clear hK K
        try simp only [Act.put, List.setIfInBounds_toArray, List.set_cons_zero, List.set_cons_succ]
        refine wpAnyH_take (i := 8) (oi := { dst := some 13, op := Go.Op.nilCheck (Go.Operand.tmp 5), type := 0, pos := "l06_path.go:43", after := #[{ on := 0, ground := Go.Ground.data }, { on := 0, ground := Go.Ground.phase }, { on := 1, ground := Go.Ground.phase }, { on := 2, ground := Go.Ground.phase }, { on := 3, ground := Go.Ground.phase }, { on := 4, ground := Go.Ground.phase }, { on := 5, ground := Go.Ground.phase }, { on := 6, ground := Go.Ground.phase }, { on := 7, ground := Go.Ground.phase }], guard := none }) (v := ?_) rfl (by kernel_rfl) (by kernel_rfl) (by kernel_rfl) (fun _ _ _ h => h) (Or.inl ⟨by kernel_rfl, ?_⟩) (by assumption) ?_
        rotate_left
        · intro w hSw; (try dsimp only at hSw); go_simp; try with_reducible rfl
        simp only [Act.put, List.setIfInBounds_toArray, List.set_cons_zero, List.set_cons_succ]
        refine wpAnyH_take (i := 9) (oi := { dst := some 14, op := Go.Op.fieldAddr 82 (Go.Operand.tmp 13) 3, type := 0, pos := "l06_path.go:43", after := #[{ on := 8, ground := Go.Ground.data }, { on := 0, ground := Go.Ground.phase }, { on := 1, ground := Go.Ground.phase }, { on := 2, ground := Go.Ground.phase }, { on := 3, ground := Go.Ground.phase }, { on := 4, ground := Go.Ground.phase }, { on := 5, ground := Go.Ground.phase }, { on := 6, ground := Go.Ground.phase }, { on := 7, ground := Go.Ground.phase }], guard := none }) (v := ?_) rfl (by kernel_rfl) (by kernel_rfl) (by kernel_rfl) (fun _ _ _ h => h) (Or.inl ⟨by kernel_rfl, ?_⟩) (by assumption) ?_
        rotate_left
        · intro w hSw; (try dsimp only at hSw); go_simp; try with_reducible rfl
        simp only [Act.put, List.setIfInBounds_toArray, List.set_cons_zero, List.set_cons_succ]
        refine wpAnyH_ready (rs := [10]) (by kernel_rfl) (by simp) ?_
        refine AllReadyH.cons (o := { dst := none, op := Go.Op.store 34 (Go.Operand.tmp 14) (Go.Operand.tmp 12), type := 0, pos := "l06_path.go:43", after := #[{ on := 9, ground := Go.Ground.data }, { on := 7, ground := Go.Ground.data }, { on := 7, ground := Go.Ground.chain }, { on := 0, ground := Go.Ground.phase }, { on := 1, ground := Go.Ground.phase }, { on := 2, ground := Go.Ground.phase }, { on := 3, ground := Go.Ground.phase }, { on := 4, ground := Go.Ground.phase }, { on := 5, ground := Go.Ground.phase }, { on := 6, ground := Go.Ground.phase }, { on := 7, ground := Go.Ground.phase }], guard := none }) rfl (fun K hK => ?_) ?_
        · go_simp
          refine hK.out _ _ (hsx4 _) (fun hHeld => ?_)
          clear hK K
          try simp only [Act.put, List.setIfInBounds_toArray, List.set_cons_zero, List.set_cons_succ]
          refine wpAnyH_done (by kernel_rfl) ?_ _
          clear hsx1 hsx2 hsx3 hsx4 hHeld
          go_wp2
          go_ret
          exact HEND.out _ g5 cap5 hgrow5 (hloc5.imp id (fun h => by simp at h; omega)) hg5 hown5
        exact AllReadyH.nil
      exact AllReadyH.nil
    exact AllReadyH.nil
  refine AllReadyH.cons (o := { dst := some 11, op := Go.Op.buildSlice 34 1 #[(0, Go.Operand.tmp 10)], type := 34, pos := "l06_path.go:43", after := #[{ on := 5, ground := Go.Ground.data }], guard := none }) rfl (fun K hK => ?_) ?_
  · go_simp
    refine hK.out _ _ hsx2 (fun hHeld => ?_)
    clear hK K
    try simp only [Act.put, List.setIfInBounds_toArray, List.set_cons_zero, List.set_cons_succ]
    refine wpAnyH_ready (rs := [4]) (by kernel_rfl) (by simp) ?_
    refine AllReadyH.cons (o := { dst := some 9, op := Go.Op.load 34 (Go.Operand.tmp 8), type := 34, pos := "l06_path.go:43", after := #[{ on := 3, ground := Go.Ground.data }], guard := none }) rfl (fun K hK => ?_) ?_
    · go_simp
      refine hK.out _ _ hHeld (fun hHeld => ?_)
      clear hK K
      try simp only [Act.put, List.setIfInBounds_toArray, List.set_cons_zero, List.set_cons_succ]
      refine wpAnyH_ready (rs := [7]) (by kernel_rfl) (by simp) ?_
      refine AllReadyH.cons (o := { dst := some 12, op := Go.Op.call { callee := Go.Callee.builtin Go.Builtin.append, args := #[Go.Operand.tmp 9, Go.Operand.tmp 11], argTypes := #[34, 34] }, type := 34, pos := "l06_path.go:43", after := #[{ on := 4, ground := Go.Ground.data }, { on := 6, ground := Go.Ground.data }], guard := none }) rfl (fun K hK => ?_) ?_
      · refine step_append_lies _ rfl (.tmp 9) (.tmp 11) 34 rfl B 84 i8 _ 3 40 Try.underlying34 hi8 hz80 hz81 hz82 rfl (by decide) _ k ((List.range (k * 3)).map fl) rfl (by exact h1.drew) ⟨E + 1, 0, none⟩ 1 1 [.int .i64 op, .int .u8 y, .slice ra q rc] rfl rfl (by exact HNW.out) (by simp [Value.oneCell']) (by decide) (by unfold maxLen; omega) (by omega) (by simp; omega) _ rfl ?_; intro g5 cap5 w6 hown5 hgrow5 hloc5 hg5; have hk6 := HGB.out w6 hgrow5; have hsx3 := hk6.2.2; have hc6 := hk6.2.1; have hsx4 := fun (u : Value) => And.intro (cell_set (c := p) (j := 3) hsx3.1 u hne) (And.intro (cell_set (c := p) (j := 3) hsx3.2.1 u hne) (cell_set (c := p) (j := 3) hsx3.2.2 u hne)); have hf6 := hk6.1.frozen 3
        refine hK.out _ _ hsx3 (fun hHeld => ?_)
        clear hK K
        try simp only [Act.put, List.setIfInBounds_toArray, List.set_cons_zero, List.set_cons_succ]
        refine wpAnyH_take (i := 8) (oi := { dst := some 13, op := Go.Op.nilCheck (Go.Operand.tmp 5), type := 0, pos := "l06_path.go:43", after := #[{ on := 0, ground := Go.Ground.data }, { on := 0, ground := Go.Ground.phase }, { on := 1, ground := Go.Ground.phase }, { on := 2, ground := Go.Ground.phase }, { on := 3, ground := Go.Ground.phase }, { on := 4, ground := Go.Ground.phase }, { on := 5, ground := Go.Ground.phase }, { on := 6, ground := Go.Ground.phase }, { on := 7, ground := Go.Ground.phase }], guard := none }) (v := ?_) rfl (by kernel_rfl) (by kernel_rfl) (by kernel_rfl) (fun _ _ _ h => h) (Or.inl ⟨by kernel_rfl, ?_⟩) (by assumption) ?_
        rotate_left
        · intro w hSw; (try dsimp only at hSw); go_simp; try with_reducible rfl
        simp only [Act.put, List.setIfInBounds_toArray, List.set_cons_zero, List.set_cons_succ]
        refine wpAnyH_take (i := 9) (oi := { dst := some 14, op := Go.Op.fieldAddr 82 (Go.Operand.tmp 13) 3, type := 0, pos := "l06_path.go:43", after := #[{ on := 8, ground := Go.Ground.data }, { on := 0, ground := Go.Ground.phase }, { on := 1, ground := Go.Ground.phase }, { on := 2, ground := Go.Ground.phase }, { on := 3, ground := Go.Ground.phase }, { on := 4, ground := Go.Ground.phase }, { on := 5, ground := Go.Ground.phase }, { on := 6, ground := Go.Ground.phase }, { on := 7, ground := Go.Ground.phase }], guard := none }) (v := ?_) rfl (by kernel_rfl) (by kernel_rfl) (by kernel_rfl) (fun _ _ _ h => h) (Or.inl ⟨by kernel_rfl, ?_⟩) (by assumption) ?_
        rotate_left
        · intro w hSw; (try dsimp only at hSw); go_simp; try with_reducible rfl
        simp only [Act.put, List.setIfInBounds_toArray, List.set_cons_zero, List.set_cons_succ]
        refine wpAnyH_ready (rs := [10]) (by kernel_rfl) (by simp) ?_
        refine AllReadyH.cons (o := { dst := none, op := Go.Op.store 34 (Go.Operand.tmp 14) (Go.Operand.tmp 12), type := 0, pos := "l06_path.go:43", after := #[{ on := 9, ground := Go.Ground.data }, { on := 7, ground := Go.Ground.data }, { on := 7, ground := Go.Ground.chain }, { on := 0, ground := Go.Ground.phase }, { on := 1, ground := Go.Ground.phase }, { on := 2, ground := Go.Ground.phase }, { on := 3, ground := Go.Ground.phase }, { on := 4, ground := Go.Ground.phase }, { on := 5, ground := Go.Ground.phase }, { on := 6, ground := Go.Ground.phase }, { on := 7, ground := Go.Ground.phase }], guard := none }) rfl (fun K hK => ?_) ?_
        · go_simp
          refine hK.out _ _ (hsx4 _) (fun hHeld => ?_)
          clear hK K
          try simp only [Act.put, List.setIfInBounds_toArray, List.set_cons_zero, List.set_cons_succ]
          refine wpAnyH_done (by kernel_rfl) ?_ _
          clear hsx1 hsx2 hsx3 hsx4 hHeld
          go_wp2
          go_ret
          exact HEND.out _ g5 cap5 hgrow5 (hloc5.imp id (fun h => by simp at h; omega)) hg5 hown5
        exact AllReadyH.nil
      exact AllReadyH.nil
    exact AllReadyH.nil
  exact AllReadyH.nil
end Go.Proofs.Yteepbmgdjghfjaa
