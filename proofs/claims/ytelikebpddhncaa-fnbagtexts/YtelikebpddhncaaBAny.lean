/-
  Any drawn bag: spec.l03Any.
-/
import Derived.Test.YtelikebpddhncaaLte
import Derived.Deep.DeepCutAuto
namespace Go.Proofs.Ytelikebpddhncaa
open Go.RowKit

theorem One.cell {w : World} {b : Nat} {v : Value} (h : One w b v) : w.cell? ⟨b, 0, none⟩ = some v := h.blk.cell (i := 0) (by omega)
theorem One.frozen {w : World} {b : Nat} {v : Value} (h : One w b v) : w.frozen? ⟨b, 0, none⟩ = false := h.blk.frozen 0
theorem One.below {w w' : World} {b B : Nat} {v : Value} (h : One w b v) (hb : Below B w w') (hB : b < B) : One w' b v := h.block (hb.block b hB)
theorem One.keptBut {w w' : World} {b p : Nat} {v : Value} (h : One w b v) (hb : KeptBut p w w') (hB : b ≠ p) : One w' b v := h.block (hb.block b h.lt hB)
theorem KeptBut.low {p M : Nat} {w w1 w2 : World} (h : KeptBut p w w1) (hb : Below M w1 w2) (hM : w.heap.size ≤ M) : KeptBut p w w2 :=
  ⟨hb.os.trans h.os, hb.tape.trans h.tape, hb.output.trans h.output, Nat.le_trans h.size hb.size, fun k hk hg => (hb.block k (by omega)).trans (h.block k hk hg)⟩
/-- the draw's bag in its box P, ahead of its return through B -/
structure BS (w W : World) (p n cap : Nat) (ao : Option Addr) (B P : Nat) (a : Option Addr) (m c : Nat) (L : List It) : Prop where
  kept : KeptBut p w W
  cur : CurL p ao n cap W
  res : One W B (.slice none 0 0)
  box : One W P (.slice a m c)
  bag : BagIn B W.heap.size W a L
  len : L.length = m ∧ m ≤ 14 ∧ ∀ i, i < m → (at' L i).1.length ≤ 4
  lt : p < w.heap.size ∧ w.heap.size = B ∧ B < P
theorem BS.fin {w W : World} {p n cap : Nat} {ao : Option Addr} {B P : Nat} {a : Option Addr} {m c : Nat} {L : List It} {u : Value} (h : BS w W p n cap ao B P a m c L) :
    BagIn w.heap.size (W.setCell ⟨B, 0, none⟩ u).heap.size (W.setCell ⟨B, 0, none⟩ u) a L ∧ CurL p ao n cap (W.setCell ⟨B, 0, none⟩ u) ∧ KeptBut p w (W.setCell ⟨B, 0, none⟩ u) := by
  obtain ⟨h1, h2, h3⟩ := h.lt
  refine ⟨?_, h.cur.below ((Below.refl B W).setCell (Nat.le_refl _) _) (by omega), h.kept.setOut (by omega) _⟩
  have := bag_one_set h.bag h.res u
  rw [h2]
  simpa using this
theorem BS.put {w W : World} {p n cap : Nat} {ao : Option Addr} {B P : Nat} {a a' : Option Addr} {m c m' c' : Nat} {L : List It} (hk : KeptBut p w W) (hc : CurL p ao n cap W) (hr : One W B (.slice none 0 0)) (hx : One W P (.slice a m c)) (hb : BagIn B W.heap.size W a' L)
    (hl : L.length = m' ∧ m' ≤ 14 ∧ ∀ i, i < m' → (at' L i).1.length ≤ 4) (h : p < w.heap.size ∧ w.heap.size = B ∧ B < P) : BS w (W.setCell ⟨P, 0, none⟩ (.slice a' m' c')) p n cap ao B P a' m' c' L := by
  obtain ⟨h1, h2, h3⟩ := h
  refine ⟨hk.setOut (by omega) _, hc.below ((Below.refl P W).setCell (Nat.le_refl _) _) (by omega), hr.block (Below.heap_setCell _ ⟨P, 0, none⟩ _ B (by show B ≠ P; omega)), hx.set _, ?_, hl, ⟨h1, h2, h3⟩⟩
  have := bag_one_set hb hx (.slice a' m' c')
  simpa using this
theorem bagIn_wide {lo hi lo' hi' : Nat} {w : World} {a : Option Addr} {l : List It} (h : BagIn lo hi w a l) (h1 : lo' ≤ lo) (h2 : hi ≤ hi') : BagIn lo' hi' w a l := by
  rcases h with h | ⟨b, o, e, h3, h4, h5⟩
  · exact .inl h
  · refine .inr ⟨b, o, e, by omega, by omega, fun i hi => ?_⟩
    obtain ⟨ra, rc, g1, g2, g3⟩ := h5 i hi
    exact ⟨ra, rc, g1, g2.wide h1 h2, g3⟩
theorem Laid.low {B B' : Nat} {w : World} {v : Value} {l : List It} (h : Laid B w v l) (hb : B' ≤ B) : Laid B' w v l := by
  obtain ⟨f, R, C, h1, h2⟩ := h
  exact ⟨f, R, C, owns_low h1 hb, fun i hi => ⟨(h2 i hi).1, (h2 i hi).2.1.wide hb (Nat.le_refl _), (h2 i hi).2.2⟩⟩
/-- the rows of what a call has laid -/
def Rws (M : Nat) (w : World) (v : Value) (L : List It) (f : Nat → Value) (R : Nat → Option Addr) (C : Nat → Nat) : Prop :=
  ∀ i, i < L.length → (f (i * 2) = .slice (R i) (at' L i).1.length (C i) ∧ f (i * 2 + 1) = .int .i64 (at' L i).2) ∧ RowIn M w.heap.size w (R i) (at' L i).1 ∧ Off v (R i) (at' L i).1
theorem Rws.keptBut {M p : Nat} {w w' : World} {v : Value} {L : List It} {f : Nat → Value} {R : Nat → Option Addr} {C : Nat → Nat} (h : Rws M w v L f R C) (hb : KeptBut p w w') (hp : p < M) : Rws M w' v L f R C :=
  fun i hi => ⟨(h i hi).1, ((h i hi).2.1.keptBut hb hp (Nat.le_refl _)).wide (Nat.le_refl _) hb.size, (h i hi).2.2⟩
theorem row_one_new (w : World) (x : Int) : RowOwn w.heap.size (w.alloc (.cells #[.int .i64 x] 3)).heap.size (w.alloc (.cells #[.int .i64 x] 3)) (some ⟨w.heap.size, 0, none⟩) [x] := by
  refine .inr ⟨w.heap.size, rfl, Nat.le_refl _, by simp, ?_⟩
  exact (blk_one w _ rfl (.int .i64 x) 3).congr (fun i hi => by have : i = 0 := by simpa using hi
                                                                subst this; rfl)
/-- the number of times of item 0 is another one -/
theorem bag_time {M g m c : Nat} {w : World} {L : List It} {f : Nat → Value} {R : Nat → Option Addr} {C : Nat → Nat} (ho : w.ownsRow M 77 2 (.slice (some ⟨g, 0, none⟩) m c) m ((List.range (m * 2)).map f)) (hr : Rws M w (.slice (some ⟨g, 0, none⟩) m c) L f R C) (hl : L.length = m) (h0 : 0 < m) (x : Int) :
    BagIn M w.heap.size (w.setCell ⟨g, 1, none⟩ (.int .i64 x)) (some ⟨g, 0, none⟩) (L.set 0 ((at' L 0).1, x)) := by
  have hk := blk_own ho
  have hlt := ho.lt g rfl
  have hs := hk.set 1 (by omega) (.int .i64 x)
  refine .inr ⟨g, 0, rfl, hlt.1, hlt.2, fun i hi => ?_⟩
  rw [List.length_set] at hi
  obtain ⟨⟨e1, e2⟩, e3, e4⟩ := hr i hi
  have hrow : RowIn M w.heap.size (w.setCell ⟨g, 1, none⟩ (.int .i64 x)) (R i) (at' L i).1 := by
    by_cases hn : (at' L i).1 = []
    · exact .inl hn
    · rcases e3 with e3 | ⟨b, o, ea, h1, h2, h3⟩
      · exact .inl e3
      · have hne : b ≠ g := by
          rintro rfl
          exact e4 hn b o ea rfl
        exact .inr ⟨b, o, ea, h1, h2, fun j hj => cell_set (h3 j hj) _ hne⟩
  have hat : (L.set 0 ((at' L 0).1, x)).getD i ([], 0) = ((at' L i).1, if i = 0 then x else (at' L i).2) := by
    by_cases e : i = 0
    · subst e; simp [List.getD, show 0 < L.length by omega]
    · simp [List.getD, List.getElem?_set_ne (Ne.symm e), e, at']
  refine ⟨R i, C i, ?_, by rw [hat]; exact hrow, ?_⟩
  · rw [Nat.zero_add, hs.cell (by omega), if_neg (by omega), hat]
    simp [List.getD, show i * 2 < m * 2 by omega, e1]
  · rw [Nat.zero_add, hs.cell (by omega), hat]
    by_cases e : i = 0
    · subst e; simp
    · rw [if_neg (by omega), if_neg e]
      simp [List.getD, show i * 2 + 1 < m * 2 by omega, e2]
/-- the list behind itself -/
theorem bag_twice {M m : Nat} {w w4 : World} {v v4 : Value} {L : List It} {f : Nat → Value} {R : Nat → Option Addr} {C : Nat → Nat} (hr : Rws M w v L f R C) (hl : L.length = m) (ho : w4.ownsRow M 77 2 v4 (m + m) ((List.range (m * 2)).map f ++ (List.range (m * 2)).map f)) (hg : w.grownBy w4 v.ownBlock) :
    ∃ a4 c4, v4 = .slice a4 (m + m) c4 ∧ BagIn M w4.heap.size w4 a4 (L ++ L) := by
  rcases ho.2 with ⟨rfl, h0⟩ | ⟨g, cap, cur, rfl, hg4, hb, _⟩
  · exact ⟨none, 0, by rw [h0], .inl (by rw [List.length_eq_zero_iff.1 (show L.length = 0 by omega)]; rfl)⟩
  · refine ⟨_, cap, rfl, .inr ⟨g, 0, rfl, hg4, (Array.getElem?_eq_some_iff.1 hb).1, fun i hi => ?_⟩⟩
    have hk := blk_own ho
    rw [List.length_append, hl] at hi
    have keep : ∀ j, j < m → ∃ ra rc, f (j * 2) = .slice ra (at' L j).1.length rc ∧ f (j * 2 + 1) = .int .i64 (at' L j).2 ∧ RowIn M w4.heap.size w4 ra (at' L j).1 := by
      intro j hj
      obtain ⟨⟨e1, e2⟩, e3, e4⟩ := hr j (by omega)
      refine ⟨R j, C j, e1, e2, ?_⟩
      by_cases hn : (at' L j).1 = []
      · exact .inl hn
      · rcases e3 with e3 | ⟨b, o, ea, h1, h2, h3⟩
        · exact .inl e3
        · exact .inr ⟨b, o, ea, h1, Nat.lt_of_lt_of_le h2 hg.size, fun q hq => by rw [← h3 q hq]; unfold World.cell?; rw [hg.block b h2 (fun e => e4 hn b o ea e.symm)]⟩
    have hcell : ∀ q, q < (m + m) * 2 → w4.cell? ⟨g, q, none⟩ = some (if q < m * 2 then f q else f (q - m * 2)) := by
      intro q hq
      rw [hk.cell (i := q) hq]
      by_cases e : q < m * 2
      · simp [List.getD, e, List.getElem?_append_left]
      · rw [if_neg e]
        simp only [List.getD]
        rw [List.getElem?_append_right (by simp; omega)]
        simp [show q - m * 2 < m * 2 by omega]
    by_cases e : i < m
    · obtain ⟨ra, rc, e1, e2, e3⟩ := keep i e
      have hat : (L ++ L).getD i ([], 0) = at' L i := by simp [List.getD, at', List.getElem?_append_left (show i < L.length by omega)]
      rw [hat]
      refine ⟨ra, rc, ?_, e3, ?_⟩
      · rw [Nat.zero_add, hcell _ (by omega), if_pos (by omega), e1]
      · rw [Nat.zero_add, hcell _ (by omega), if_pos (by omega), e2]
    · obtain ⟨ra, rc, e1, e2, e3⟩ := keep (i - m) (by omega)
      have hat : (L ++ L).getD i ([], 0) = at' L (i - m) := by
        simp only [List.getD, at']
        rw [List.getElem?_append_right (by omega), hl]
      rw [hat]
      refine ⟨ra, rc, ?_, e3, ?_⟩
      · rw [Nat.zero_add, hcell _ (by omega), if_neg (by omega), show i * 2 - m * 2 = (i - m) * 2 by omega, e1]
      · rw [Nat.zero_add, hcell _ (by omega), if_neg (by omega), show i * 2 + 1 - m * 2 = (i - m) * 2 + 1 by omega, e2]
theorem four_cells (w : World) (z0 z1 z2 z3 : Int) (k : Nat) (hk : k < 4) (h0 : -9223372036854775808 ≤ z0 ∧ z0 ≤ 9223372036854775807) (h1 : -9223372036854775808 ≤ z1 ∧ z1 ≤ 9223372036854775807) (h2 : -9223372036854775808 ≤ z2 ∧ z2 ≤ 9223372036854775807) (h3 : -9223372036854775808 ≤ z3 ∧ z3 ≤ 9223372036854775807) :
    ∃ z : Int, -9223372036854775808 ≤ z ∧ z ≤ 9223372036854775807 ∧ (w.alloc (.cells #[.int .i64 z0, .int .i64 z1, .int .i64 z2, .int .i64 z3] 3)).drew.cell? ⟨w.heap.size, k, none⟩ = some (.int .i64 z) := by
  show ∃ z : Int, _ ∧ _ ∧ (w.alloc (.cells #[.int .i64 z0, .int .i64 z1, .int .i64 z2, .int .i64 z3] 3)).cell? ⟨w.heap.size, k, none⟩ = some (.int .i64 z)
  rw [cell_of_row _ _ k _ 3 (0, 0) (heap_alloc_new w _)]
  rcases (show k = 0 ∨ k = 1 ∨ k = 2 ∨ k = 3 by omega) with rfl | rfl | rfl | rfl
  · exact ⟨z0, h0.1, h0.2, rfl⟩
  · exact ⟨z1, h1.1, h1.2, rfl⟩
  · exact ⟨z2, h2.1, h2.2, rfl⟩
  · exact ⟨z3, h3.1, h3.2, rfl⟩
theorem pick_four (W : World) (p n cap : Nat) (ao : Option Addr) (z0 z1 z2 z3 : Int) (hc : CurL p ao n cap W) (h0 : -9223372036854775808 ≤ z0 ∧ z0 ≤ 9223372036854775807) (h1 : -9223372036854775808 ≤ z1 ∧ z1 ≤ 9223372036854775807) (h2 : -9223372036854775808 ≤ z2 ∧ z2 ≤ 9223372036854775807) (h3 : -9223372036854775808 ≤ z3 ∧ z3 ≤ 9223372036854775807) :
    Calls Try.prog 98 #[.pointer (some ⟨p, 0, none⟩), .slice (some ⟨W.heap.size, 0, none⟩) 4 4] (W.alloc (.cells #[.int .i64 z0, .int .i64 z1, .int .i64 z2, .int .i64 z3] 3)).drew fun e w' => ∃ x : Int, e = .returned (.int .i64 x) ∧ Hid (CurL p ao n cap w') ∧ Hid (KeptBut p W w') := by
  have hb : Below W.heap.size W (W.alloc (.cells #[.int .i64 z0, .int .i64 z1, .int .i64 z2, .int .i64 z3] 3)).drew := (below1 W _).drew
  have hc2 := hc.below hb hc.lt
  refine (pickInt_cur _ p n cap ao W.heap.size 4 4 (by omega) (by omega) (by have := hc.lt; omega) (by show _ < (W.alloc _).heap.size; simp) (fun k hk => four_cells W z0 z1 z2 z3 k hk h0 h1 h2 h3) hc2.1).mono ?_
  rintro e w2 ⟨x, rfl, _, _, g1, g2⟩
  exact ⟨x, rfl, ⟨g1, hc2.2⟩, ((KeptBut.refl p W).below hb).trans g2⟩

theorem own_none {M m c : Nat} {w : World} {a : Option Addr} {xs : List Value} (h : w.ownsRow M 77 2 (.slice a m c) m xs) : a = none → m = 0 := by
  intro e
  rcases h.2 with ⟨_, h0⟩ | ⟨g, cap', cur, hv, _⟩
  · exact h0
  · simp only [Value.slice.injEq] at hv
    rw [e] at hv; cases hv.1
theorem own_cells {M m c : Nat} {w : World} {a : Option Addr} {f : Nat → Value} (h : w.ownsRow M 77 2 (.slice a m c) m ((List.range (m * 2)).map f)) : ∀ ad, a = some ad → ∀ j u, ((List.range (m * 2)).map f)[j]? = some u → w.cell? (ad.add j) = some u := by
  intro ad e j u hu
  rcases h.2 with ⟨hv, _⟩ | ⟨g, cap', cur, hv, _⟩
  · simp only [Value.slice.injEq] at hv
    rw [hv.1] at e; cases e
  · simp only [Value.slice.injEq] at hv
    have hg : ad = ⟨g, 0, none⟩ := by rw [hv.1] at e; exact (Option.some.inj e).symm
    subst hg
    have e2 : a = some ⟨g, 0, none⟩ := hv.1
    subst e2
    have hj : j < m * 2 := by have := (List.getElem?_eq_some_iff.1 hu).1; simpa using this
    rw [add_none, Nat.zero_add, (blk_own h).cell (i := j) (by omega)]
    simp only [List.getD, hu, Option.getD_some]
theorem own_one {M m : Nat} {w : World} {v : Value} {L : List It} {f : Nat → Value} {R : Nat → Option Addr} {C : Nat → Nat} (h : Rws M w v L f R C) (hl : L.length = m) : ∀ u ∈ (List.range (m * 2)).map f, u.oneCell' = true := by
  intro u hu
  obtain ⟨j, hj, rfl⟩ := List.mem_map.1 hu
  have hj' : j < m * 2 := List.mem_range.1 hj
  obtain ⟨⟨e1, e2⟩, _⟩ := h (j / 2) (by omega)
  rcases (show j = j / 2 * 2 ∨ j = j / 2 * 2 + 1 by omega) with e | e
  · rw [e, e1]; rfl
  · rw [e, e2]; rfl
theorem lens_snoc {L : List It} {m : Nat} {x : Int} (hl : L.length = m) (hm : m ≤ 7) (h : ∀ i, i < m → (at' L i).1.length ≤ 4) : (L ++ [([x], 1)]).length = m + 1 ∧ m + 1 ≤ 14 ∧ ∀ i, i < m + 1 → (at' (L ++ [([x], 1)]) i).1.length ≤ 4 := by
  refine ⟨by rw [List.length_append, hl]; rfl, by omega, fun i hi => ?_⟩
  by_cases e : i < m
  · rw [show at' (L ++ [([x], 1)]) i = at' L i by simp [at', List.getD, List.getElem?_append_left (show i < L.length by omega)]]
    exact h i e
  · obtain rfl : i = L.length := by omega
    rw [show at' (L ++ [([x], 1)]) L.length = ([x], 1) by simp [at', List.getD]]
    simp
theorem bs_time {w W : World} {p n cap M g : Nat} {ao : Option Addr} {B P : Nat} {m c : Nat} {L : List It} {f : Nat → Value} {R : Nat → Option Addr} {C : Nat → Nat} {x : Int} (hk : KeptBut p w W) (hc : CurL p ao n cap W) (hr : One W B (.slice none 0 0)) (hx : One W P (.slice (some ⟨g, 0, none⟩) m c)) (ho : W.ownsRow M 77 2 (.slice (some ⟨g, 0, none⟩) m c) m ((List.range (m * 2)).map f)) (hw : Rws M W (.slice (some ⟨g, 0, none⟩) m c) L f R C)
    (hl : L.length = m) (hm : m ≤ 7) (h : ∀ i, i < m → (at' L i).1.length ≤ 4) (h0 : 0 < m) (hlt : p < w.heap.size ∧ w.heap.size = B ∧ B < P ∧ B < M ∧ p < M) (hg : g < P) : BS w (W.setCell ⟨g, 1, none⟩ (.int .i64 x)) p n cap ao B P (some ⟨g, 0, none⟩) m c (L.set 0 ((at' L 0).1, x)) := by
  obtain ⟨h1, h2, h3, h4, h5⟩ := hlt
  have hgM := (ho.lt g rfl).1
  refine ⟨hk.setOut (by omega) _, hc.below ((Below.refl g W).setCell (Nat.le_refl _) _) (by omega), hr.block (Below.heap_setCell _ ⟨g, 1, none⟩ _ B (by show B ≠ g; omega)), hx.block (Below.heap_setCell _ ⟨g, 1, none⟩ _ P (by show P ≠ g; omega)), bagIn_wide (bag_time ho hw hl h0 x) (by omega) (by simp), ⟨by rw [List.length_set]; exact hl, by omega, fun i hi => ?_⟩, ⟨h1, h2, h3⟩⟩
  by_cases e : i = 0
  · subst e
    rw [show at' (L.set 0 ((at' L 0).1, x)) 0 = ((at' L 0).1, x) by simp [at', List.getD, show 0 < L.length by omega]]
    exact h 0 h0
  · rw [show at' (L.set 0 ((at' L 0).1, x)) i = at' L i by simp [at', List.getD, List.getElem?_set_ne (Ne.symm e)]]
    exact h i hi
theorem lens_twice {L : List It} {m : Nat} (hl : L.length = m) (hm : m ≤ 7) (h : ∀ i, i < m → (at' L i).1.length ≤ 4) : (L ++ L).length = m + m ∧ m + m ≤ 14 ∧ ∀ i, i < m + m → (at' (L ++ L) i).1.length ≤ 4 := by
  refine ⟨by rw [List.length_append, hl], by omega, fun i hi => ?_⟩
  by_cases e : i < m
  · rw [show at' (L ++ L) i = at' L i by simp [at', List.getD, List.getElem?_append_left (show i < L.length by omega)]]
    exact h i e
  · have : at' (L ++ L) i = at' L (i - m) := by
      simp only [at', List.getD]
      rw [List.getElem?_append_right (by omega), hl]
    rw [this]
    exact h (i - m) (by omega)

set_option maxHeartbeats 8000000 in
set_option maxRecDepth 100000 in
theorem l03Any_any (w : World) (p n cap W0 : Nat) (ao : Option Addr) (hW : W0 ≤ 4) (hc : CurL p ao n cap w) :
    Calls Try.prog 62 #[.pointer (some ⟨p, 0, none⟩), .int .i64 (W0 : Int)] w fun e w' => ∃ (a : Option Addr) (m c : Nat) (L : List It), e = .returned (.agg #[.slice a m c]) ∧ Hid (L.length = m ∧ m ≤ 14 ∧ ∀ i, i < m → (at' L i).1.length ≤ 4) ∧ Hid (BagIn w.heap.size w'.heap.size w' a L) ∧ Hid (CurL p ao n cap w') ∧ Hid (KeptBut p w w') := by
  obtain ⟨i1, hj0, hy0, hy1, hy2⟩ := info_parts Try.info77
  have hpw : p < w.heap.size := hc.lt
  obtain ⟨B, HB⟩ : ∃ B, Hid (w.heap.size = B) := ⟨_, rfl⟩
  have HC : Hid (CurL p ao n cap w) := hc
  clear hc
  go_enter Try.func62, Try.ntmps62
  go_wp2_with fail
  rw [HB.out]
  generalize hW1 : World.alloc _ _ = W1
  have HC1 : Hid (CurL p ao n cap W1) := by show CurL _ _ _ _ _; rw [← hW1]; exact HC.out.below (below1 w _) hpw
  have HK1 : Hid (KeptBut p w W1) := by show KeptBut _ _ _; rw [← hW1]; exact (KeptBut.refl p w).below (below1 w _)
  have HR1 : Hid (One W1 B (.slice none 0 0)) := by show One _ _ _; rw [← hW1]; exact One.new w B HB.out.symm _
  have hBp : B ≠ p := by have := HB.out; omega
  clear hW1
  refine (l03Draw_any p ao n cap W0 W1 hW HC1.out).mono ?_
  rintro e w1 ⟨a1, m1, c1, L, rfl, HL1, HG1, HC2, HK2⟩
  have HR2 : Hid (One w1 B (.slice none 0 0)) := HR1.out.keptBut HK2.out hBp
  have HKK2 : Hid (KeptBut p w w1) := HK1.out.trans HK2.out
  have hm7 : m1 ≤ 7 := by have := HL1.out.2.len; have := HL1.out.1; omega
  have HRL : Hid (∀ i, i < m1 → (at' L i).1.length ≤ 4) := fun i hi => by
    have h1 := HL1.out.2.good.even (at' L i) (by have := HL1.out.1; simp [at', List.getD, show i < L.length by omega])
    omega
  clear HC1 HK1 HR1 HK2
  go_wp2_with fail
  refine (l03Copy_any _ _ a1 m1 c1 L w1 HG1.out (Nat.le_refl _) HL1.out.1 (by omega) (fun i hi => by have := HRL.out i hi; omega)).mono ?_
  rintro e w3 ⟨v, rfl, HLD3, HB3⟩
  obtain ⟨M, HM⟩ : ∃ M, Hid (w1.heap.size = M) := ⟨_, rfl⟩
  replace HLD3 : Hid (Laid M w3 v L) := HLD3.out.low (by have := HM.out; omega)
  obtain ⟨a, c, hv, _⟩ := HLD3.out.toIn
  obtain ⟨m, HLN⟩ : ∃ m, Hid (L.length = m) := ⟨_, rfl⟩
  obtain rfl : m = m1 := by rw [← HL1.out.1, HLN.out]
  rw [HLN.out] at hv
  subst hv
  have hBM : B < M := by have := HM.out; have := HR2.out.lt; omega
  have hpM : p < M := by have := HB.out; omega
  obtain ⟨P, HP⟩ : ∃ P, Hid (w3.heap.size = P) := ⟨_, rfl⟩
  have hBP : B < P := by have := HP.out; have := HB3.out.size; have := HR2.out.lt; omega
  have hPp : P ≠ p := by have := HB.out; omega
  obtain ⟨f, R, C, ho3, hr3⟩ := HLD3.out
  rw [HLN.out] at ho3
  have HVP : Hid (∀ k, (Value.slice a m c).ownBlock = some k → k < P) := fun k hk => by rw [← HP.out]; exact (ho3.lt k hk).2
  obtain ⟨W4, HW4⟩ : ∃ W4, Hid (W4 = w3.alloc (.cells #[.slice a m c] 26)) := ⟨_, rfl⟩
  have hb34 : Below w3.heap.size w3 W4 := by rw [HW4.out]; exact below1 _ _
  have HO4 : Hid (W4.ownsRow M 77 2 (.slice a m c) m ((List.range (m * 2)).map f)) := by rw [HW4.out]; exact ho3.alloc _
  have HRW4 : Hid (Rws M W4 (.slice a m c) L f R C) := fun i hi => ⟨(hr3 i hi).1, ((hr3 i hi).2.1.below hb34 (Nat.le_refl _)).wide (Nat.le_refl _) hb34.size, (hr3 i hi).2.2⟩
  have hb14 : Below w1.heap.size w1 W4 := HB3.out.trans (hb34.mono HB3.out.size)
  have HC4 : Hid (CurL p ao n cap W4) := HC2.out.below hb14 HC2.out.lt
  have HK4 : Hid (KeptBut p w W4) := HKK2.out.below hb14
  have HR4 : Hid (One W4 B (.slice none 0 0)) := HR2.out.below hb14 HR2.out.lt
  have HX4 : Hid (One W4 P (.slice a m c)) := by rw [HW4.out]; exact One.new w3 P HP.out.symm _
  have HMS : Hid (M ≤ w3.heap.size) := by rw [← HM.out]; exact HB3.out.size
  clear ho3 hr3 HLD3 HG1 HL1 HC2 HKK2 HR2 hb14
  go_wp2_with fail
  rw [HP.out, ← HW4.out]
  refine (HC4.out.draw 10 (by omega) (by omega)).mono ?_
  rintro e W ⟨y, rfl, hy0', hy1', HCU, HKD⟩
  have HKW : Hid (KeptBut p w W) := HK4.out.trans HKD.out
  have HRS : Hid (One W B (.slice none 0 0)) := HR4.out.keptBut HKD.out hBp
  have HBX : Hid (One W P (.slice a m c)) := HX4.out.keptBut HKD.out hPp
  have HOW : Hid (W.ownsRow M 77 2 (.slice a m c) m ((List.range (m * 2)).map f)) := HKD.out.owns HO4.out hpM
  have HRW : Hid (Rws M W (.slice a m c) L f R C) := HRW4.out.keptBut HKD.out hpM
  have hMW : M ≤ W.heap.size := by have := HKD.out.size; have := hb34.size; have := HMS.out; omega
  have HSM : Hid (BS w W p n cap ao B P a m c L) := by
    refine ⟨HKW.out, HCU.out, HRS.out, HBX.out, ?_, ⟨HLN.out, by omega, HRL.out⟩, ⟨hpw, HB.out, hBP⟩⟩
    have hl : Laid M W (.slice a m c) L := ⟨f, R, C, by rw [HLN.out]; exact HOW.out, HRW.out⟩
    obtain ⟨a9, c9, hv9, hb9⟩ := hl.toIn
    obtain rfl : a9 = a := by simp only [Value.slice.injEq] at hv9; exact hv9.1.symm
    exact bagIn_wide hb9 (by omega) (Nat.le_refl _)
  clear HO4 HRW4 HC4 HK4 HR4 HX4 HKD HW4 hb34 HMS HM HB3
  have t0 := HBX.out.cell
  by_cases e0 : y = 0
  · subst e0
    have HC1 : Hid (Calls Try.prog 98 #[.pointer (some ⟨p, 0, none⟩), .slice (some ⟨W.heap.size, 0, none⟩) 4 4] (W.alloc (.cells #[.int .i64 (-1), .int .i64 3, .int .i64 99, .int .i64 100] 3)).drew fun e w' => ∃ x : Int, e = .returned (.int .i64 x) ∧ Hid (CurL p ao n cap w') ∧ Hid (KeptBut p W w')) := pick_four W p n cap ao _ _ _ _ HCU.out (by omega) (by omega) (by omega) (by omega)
    have t0a : ∀ q, (W.alloc q).cell? ⟨P, 0, none⟩ = some (.slice a m c) := fun q => (HBX.out.below (below1 W q) HBX.out.lt).cell
    have t0b : ∀ q, (W.alloc q).drew.cell? ⟨P, 0, none⟩ = some (.slice a m c) := fun q => t0a q
    have t0c : ∀ q, (W.drew.alloc q).cell? ⟨P, 0, none⟩ = some (.slice a m c) := fun q => t0a q
    go_wp2_with fail
    refine wp_region_held_drew (S := fun _ => True) (by kernel_rfl) trivial (fun hHeld => ?_)
    refine wpAnyH_take (i := 0) (oi := { dst := some 14, op := Go.Op.fieldAddr 26 (Go.Operand.tmp 5) 0, type := 0, pos := "l03_bag.go:221", after := #[], guard := none }) (v := ?_) rfl (by kernel_rfl) (by kernel_rfl) (by kernel_rfl) (fun _ _ _ h => h) (Or.inl ⟨by kernel_rfl, ?_⟩) (by assumption) ?_
    rotate_left
    · intro w hSw; (try dsimp only at hSw); go_simp; try with_reducible rfl
    simp only [Act.put, List.setIfInBounds_toArray, List.set_cons_zero, List.set_cons_succ]
    refine wpAnyH_take (i := 2) (oi := { dst := some 16, op := Go.Op.move (Go.Operand.tmp 0), type := 83, pos := "l03_bag.go:221", after := #[], guard := none }) (v := ?_) rfl (by kernel_rfl) (by kernel_rfl) (by kernel_rfl) (fun _ _ _ h => h) (Or.inl ⟨by kernel_rfl, ?_⟩) (by assumption) ?_
    rotate_left
    · intro w hSw; (try dsimp only at hSw); go_simp; try with_reducible rfl
    simp only [Act.put, List.setIfInBounds_toArray, List.set_cons_zero, List.set_cons_succ]
    refine wpAnyH_ready (rs := [1, 3]) (by kernel_rfl) (by simp) ?_
    refine AllReadyH.cons (o := { dst := some 15, op := Go.Op.load 24 (Go.Operand.tmp 14), type := 24, pos := "l03_bag.go:221", after := #[{ on := 0, ground := Go.Ground.data }], guard := none }) rfl (fun K hK => ?_) ?_
    · go_simp
      refine hK.out _ _ trivial (fun hHeld => ?_)
      clear hK K
      try simp only [Act.put, List.setIfInBounds_toArray, List.set_cons_zero, List.set_cons_succ]
      refine wpAnyH_ready (rs := [3]) (by kernel_rfl) (by simp) ?_
      refine AllReadyH.cons (o := { dst := some 17, op := Go.Op.buildSlice 39 4 #[(0, Go.Operand.const (Go.Value.int Go.IntKind.i64 (-1))), (1, Go.Operand.const (Go.Value.int Go.IntKind.i64 3)), (2, Go.Operand.const (Go.Value.int Go.IntKind.i64 99)), (3, Go.Operand.const (Go.Value.int Go.IntKind.i64 100))], type := 39, pos := "l03_bag.go:221", after := #[], guard := none }) rfl (fun K hK => ?_) ?_
      · go_simp
        refine hK.out _ _ trivial (fun hHeld => ?_)
        clear hK K
        try simp only [Act.put, List.setIfInBounds_toArray, List.set_cons_zero, List.set_cons_succ]
        refine wpAnyH_ready (rs := [4]) (by kernel_rfl) (by simp) ?_
        refine AllReadyH.cons (o := { dst := some 18, op := Go.Op.call { callee := Go.Callee.value (Go.Operand.func 98), args := #[Go.Operand.tmp 16, Go.Operand.tmp 17], argTypes := #[83, 39] }, type := 3, pos := "l03_bag.go:221", after := #[{ on := 2, ground := Go.Ground.data }, { on := 3, ground := Go.Ground.data }], guard := none }) rfl (fun K hK => ?_) ?_
        · go_simp
          go_wp2_with (go_at_call 98; refine (HC1.out).mono ?_; rintro e w2 ⟨x, rfl, HCU2, HK2⟩)
          have HKP2 : Hid (KeptBut p w w2) := HKW.out.trans HK2.out
          have HX2 : Hid (One w2 P (.slice a m c)) := HBX.out.keptBut HK2.out hPp
          have HR2 : Hid (One w2 B (.slice none 0 0)) := HRS.out.keptBut HK2.out hBp
          have HO2 : Hid (w2.ownsRow M 77 2 (.slice a m c) m ((List.range (m * 2)).map f)) := HK2.out.owns HOW.out hpM
          have HRW2 : Hid (Rws M w2 (.slice a m c) L f R C) := HRW.out.keptBut HK2.out hpM
          have hM2 : M ≤ w2.heap.size := Nat.le_trans hMW HK2.out.size
          clear HK2
          have u0 := HX2.out.cell
          have u0a : ∀ q, (w2.alloc q).cell? ⟨P, 0, none⟩ = some (.slice a m c) := fun q => (HX2.out.below (below1 w2 q) HX2.out.lt).cell
          have u0b : ∀ q r, ((w2.alloc q).alloc r).cell? ⟨P, 0, none⟩ = some (.slice a m c) := fun q r => (HX2.out.below (below2 w2 q r) HX2.out.lt).cell
          refine hK.out _ _ trivial (fun hHeld => ?_)
          clear hK K
          try simp only [Act.put, List.setIfInBounds_toArray, List.set_cons_zero, List.set_cons_succ]
          refine wpAnyH_ready (rs := [5]) (by kernel_rfl) (by simp) ?_
          refine AllReadyH.cons (o := { dst := some 19, op := Go.Op.buildSlice 39 1 #[(0, Go.Operand.tmp 18)], type := 39, pos := "l03_bag.go:221", after := #[{ on := 4, ground := Go.Ground.data }], guard := none }) rfl (fun K hK => ?_) ?_
          · go_simp
            refine hK.out _ _ trivial (fun hHeld => ?_)
            clear hK K
            try simp only [Act.put, List.setIfInBounds_toArray, List.set_cons_zero, List.set_cons_succ]
            refine wpAnyH_take (i := 6) (oi := { dst := some 20, op := Go.Op.build 77 #[(0, Go.Operand.tmp 19), (1, Go.Operand.const (Go.Value.int Go.IntKind.i64 1))], type := 77, pos := "l03_bag.go:221", after := #[{ on := 5, ground := Go.Ground.data }], guard := none }) (v := ?_) rfl (by kernel_rfl) (by kernel_rfl) (by kernel_rfl) (fun _ _ _ h => h) (Or.inl ⟨by kernel_rfl, ?_⟩) (by assumption) ?_
            rotate_left
            · intro w hSw; (try dsimp only at hSw); go_simp; try with_reducible rfl
            simp only [Act.put, List.setIfInBounds_toArray, List.set_cons_zero, List.set_cons_succ]
            refine wpAnyH_ready (rs := [7]) (by kernel_rfl) (by simp) ?_
            refine AllReadyH.cons (o := { dst := some 21, op := Go.Op.buildSlice 24 1 #[(0, Go.Operand.tmp 20)], type := 24, pos := "l03_bag.go:221", after := #[{ on := 6, ground := Go.Ground.data }], guard := none }) rfl (fun K hK => ?_) ?_
            · go_simp
              refine hK.out _ _ trivial (fun hHeld => ?_)
              clear hK K
              try simp only [Act.put, List.setIfInBounds_toArray, List.set_cons_zero, List.set_cons_succ]
              refine wpAnyH_ready (rs := [8]) (by kernel_rfl) (by simp) ?_
              refine AllReadyH.cons (o := { dst := some 22, op := Go.Op.call { callee := Go.Callee.builtin Go.Builtin.append, args := #[Go.Operand.tmp 15, Go.Operand.tmp 21], argTypes := #[24, 24] }, type := 24, pos := "l03_bag.go:221", after := #[{ on := 1, ground := Go.Ground.data }, { on := 7, ground := Go.Ground.data }, { on := 4, ground := Go.Ground.chain }], guard := none }) rfl (fun K hK => ?_) ?_
              · refine step_append_lies _ rfl (.tmp 15) (.tmp 21) 24 rfl M 77 i1 _ 2 32 Try.underlying24 hj0 hy0 hy1 hy2 rfl (by decide) (.slice a m c) m ((List.range (m * 2)).map f) rfl ((HO2.out.alloc (.cells #[.int .i64 x] 3)).alloc _) ⟨w2.heap.size + 1, 0, none⟩ 1 1 [.slice (some ⟨w2.heap.size, 0, none⟩) 1 1, .int .i64 1] rfl rfl (by have := news_two (w2.alloc (.cells #[.int .i64 x] 3)) (.slice (some ⟨w2.heap.size, 0, none⟩) 1 1) (.int .i64 1) 77; simpa using this) (by simp [Value.oneCell']) (by decide) (by unfold maxLen; omega) (by omega) (by simp; omega) _ rfl ?_
                intro g5 cap5 w6 hown5 hgrow5 hloc5 _
                have HLD6 : Hid (Laid M w6 (.slice (some ⟨g5, 0, none⟩) (m + 1) cap5) (L ++ [([x], 1)])) := item_made (wr := w2) (w2 := w2.alloc (.cells #[.int .i64 x] 3)) (x := ([x], 1)) HRW2.out (fun k hk => (HO2.out.lt k hk).2) (below1 w2 _) hM2 (row_one_new w2 x) hgrow5 (by rcases hloc5 with h | h; exact .inl (by rw [h]; rfl); exact .inr (by simp [Value.ownBlock] at h ⊢; omega)) (by rw [HLN.out]; exact hown5)
                have HB6 : Hid (Below M w2 w6) := ((below2 w2 (.cells #[.int .i64 x] 3) _).mono hM2).trans (grown_below hgrow5 HO2.out (by simp; omega))
                have HX6 : Hid (One w6 P (.slice a m c)) := (HX2.out.below (below2 w2 _ _) HX2.out.lt).block (hgrow5.block P (by have := HX2.out.lt; simp; omega) (fun e => by have := HVP.out P e.symm; omega))
                have HR6 : Hid (One w6 B (.slice none 0 0)) := HR2.out.below HB6.out (by omega)
                have HC6 : Hid (CurL p ao n cap w6) := HCU2.out.below HB6.out hpM
                have HK6 : Hid (KeptBut p w w6) := HKP2.out.low HB6.out (by have := HB.out; omega)
                clear hown5 hgrow5 hloc5 u0 u0a u0b t0 t0a t0b t0c HC1
                refine hK.out _ _ trivial (fun hHeld => ?_)
                clear hK K
                try simp only [Act.put, List.setIfInBounds_toArray, List.set_cons_zero, List.set_cons_succ]
                refine wpAnyH_take (i := 9) (oi := { dst := some 23, op := Go.Op.fieldAddr 26 (Go.Operand.tmp 5) 0, type := 0, pos := "l03_bag.go:221", after := #[{ on := 0, ground := Go.Ground.phase }, { on := 1, ground := Go.Ground.phase }, { on := 2, ground := Go.Ground.phase }, { on := 3, ground := Go.Ground.phase }, { on := 4, ground := Go.Ground.phase }, { on := 5, ground := Go.Ground.phase }, { on := 6, ground := Go.Ground.phase }, { on := 7, ground := Go.Ground.phase }, { on := 8, ground := Go.Ground.phase }], guard := none }) (v := ?_) rfl (by kernel_rfl) (by kernel_rfl) (by kernel_rfl) (fun _ _ _ h => h) (Or.inl ⟨by kernel_rfl, ?_⟩) (by assumption) ?_
                rotate_left
                · intro w hSw; (try dsimp only at hSw); go_simp; try with_reducible rfl
                simp only [Act.put, List.setIfInBounds_toArray, List.set_cons_zero, List.set_cons_succ]
                refine wpAnyH_ready (rs := [10]) (by kernel_rfl) (by simp) ?_
                refine AllReadyH.cons (o := { dst := none, op := Go.Op.store 24 (Go.Operand.tmp 23) (Go.Operand.tmp 22), type := 0, pos := "l03_bag.go:221", after := #[{ on := 9, ground := Go.Ground.data }, { on := 8, ground := Go.Ground.data }, { on := 8, ground := Go.Ground.chain }, { on := 0, ground := Go.Ground.phase }, { on := 1, ground := Go.Ground.phase }, { on := 2, ground := Go.Ground.phase }, { on := 3, ground := Go.Ground.phase }, { on := 4, ground := Go.Ground.phase }, { on := 5, ground := Go.Ground.phase }, { on := 6, ground := Go.Ground.phase }, { on := 7, ground := Go.Ground.phase }, { on := 8, ground := Go.Ground.phase }], guard := none }) rfl (fun K hK => ?_) ?_
                · have y0 := HX6.out.cell
                  have yf := HX6.out.frozen
                  go_simp
                  refine hK.out _ _ trivial (fun hHeld => ?_)
                  clear hK K
                  try simp only [Act.put, List.setIfInBounds_toArray, List.set_cons_zero, List.set_cons_succ]
                  refine wpAnyH_done (by kernel_rfl) ?_ _
                  clear hHeld y0 yf
                  obtain ⟨a9, c9, hv9, hb9⟩ := HLD6.out.toIn
                  have hv9' : a9 = some ⟨g5, 0, none⟩ := by simp only [Value.slice.injEq] at hv9; exact hv9.1.symm
                  subst hv9'
                  have HB9 : Hid (BagIn B w6.heap.size w6 (some ⟨g5, 0, none⟩) (L ++ [([x], 1)])) := bagIn_wide hb9 (by omega) (Nat.le_refl _)
                  clear hv9 hb9
                  go_upto_region 10 with fail
                  obtain ⟨WF, HWF⟩ : ∃ WF, Hid (WF = w6.setCell ⟨P, 0, none⟩ (.slice (some ⟨g5, 0, none⟩) (m + 1) cap5)) := ⟨_, rfl⟩
                  rw [← HWF.out]
                  have HBS : Hid (BS w WF p n cap ao B P (some ⟨g5, 0, none⟩) (m + 1) cap5 (L ++ [([x], 1)])) := by rw [HWF.out]; exact BS.put HK6.out HC6.out HR6.out HX6.out HB9.out (lens_snoc HLN.out hm7 HRL.out) ⟨hpw, HB.out, hBP⟩
                  clear HWF
                  have d0 := HBS.out.box.cell
                  have r0 := HBS.out.res.cell
                  have rf0 := HBS.out.res.frozen
                  go_wp2
                  refine bodyPost_ret (v := .agg #[.slice (some ⟨g5, 0, none⟩) (m + 1) cap5]) (by simp [results, Try.results62, go_sem, r0]) rfl ?_
                  exact ⟨(some ⟨g5, 0, none⟩), m + 1, cap5, L ++ [([x], 1)], rfl, HBS.out.len, HBS.out.fin.1, HBS.out.fin.2.1, HBS.out.fin.2.2⟩
                exact AllReadyH.nil
              exact AllReadyH.nil
            exact AllReadyH.nil
          exact AllReadyH.nil
        exact AllReadyH.nil
      exact AllReadyH.nil
    refine AllReadyH.cons (o := { dst := some 17, op := Go.Op.buildSlice 39 4 #[(0, Go.Operand.const (Go.Value.int Go.IntKind.i64 (-1))), (1, Go.Operand.const (Go.Value.int Go.IntKind.i64 3)), (2, Go.Operand.const (Go.Value.int Go.IntKind.i64 99)), (3, Go.Operand.const (Go.Value.int Go.IntKind.i64 100))], type := 39, pos := "l03_bag.go:221", after := #[], guard := none }) rfl (fun K hK => ?_) ?_
    · go_simp
      refine hK.out _ _ trivial (fun hHeld => ?_)
      clear hK K
      try simp only [Act.put, List.setIfInBounds_toArray, List.set_cons_zero, List.set_cons_succ]
      refine wpAnyH_ready (rs := [1, 4]) (by kernel_rfl) (by simp) ?_
      refine AllReadyH.cons (o := { dst := some 15, op := Go.Op.load 24 (Go.Operand.tmp 14), type := 24, pos := "l03_bag.go:221", after := #[{ on := 0, ground := Go.Ground.data }], guard := none }) rfl (fun K hK => ?_) ?_
      · go_simp
        refine hK.out _ _ trivial (fun hHeld => ?_)
        clear hK K
        try simp only [Act.put, List.setIfInBounds_toArray, List.set_cons_zero, List.set_cons_succ]
        refine wpAnyH_ready (rs := [4]) (by kernel_rfl) (by simp) ?_
        refine AllReadyH.cons (o := { dst := some 18, op := Go.Op.call { callee := Go.Callee.value (Go.Operand.func 98), args := #[Go.Operand.tmp 16, Go.Operand.tmp 17], argTypes := #[83, 39] }, type := 3, pos := "l03_bag.go:221", after := #[{ on := 2, ground := Go.Ground.data }, { on := 3, ground := Go.Ground.data }], guard := none }) rfl (fun K hK => ?_) ?_
        · go_simp
          go_wp2_with (go_at_call 98; refine (HC1.out).mono ?_; rintro e w2 ⟨x, rfl, HCU2, HK2⟩)
          have HKP2 : Hid (KeptBut p w w2) := HKW.out.trans HK2.out
          have HX2 : Hid (One w2 P (.slice a m c)) := HBX.out.keptBut HK2.out hPp
          have HR2 : Hid (One w2 B (.slice none 0 0)) := HRS.out.keptBut HK2.out hBp
          have HO2 : Hid (w2.ownsRow M 77 2 (.slice a m c) m ((List.range (m * 2)).map f)) := HK2.out.owns HOW.out hpM
          have HRW2 : Hid (Rws M w2 (.slice a m c) L f R C) := HRW.out.keptBut HK2.out hpM
          have hM2 : M ≤ w2.heap.size := Nat.le_trans hMW HK2.out.size
          clear HK2
          have u0 := HX2.out.cell
          have u0a : ∀ q, (w2.alloc q).cell? ⟨P, 0, none⟩ = some (.slice a m c) := fun q => (HX2.out.below (below1 w2 q) HX2.out.lt).cell
          have u0b : ∀ q r, ((w2.alloc q).alloc r).cell? ⟨P, 0, none⟩ = some (.slice a m c) := fun q r => (HX2.out.below (below2 w2 q r) HX2.out.lt).cell
          refine hK.out _ _ trivial (fun hHeld => ?_)
          clear hK K
          try simp only [Act.put, List.setIfInBounds_toArray, List.set_cons_zero, List.set_cons_succ]
          refine wpAnyH_ready (rs := [5]) (by kernel_rfl) (by simp) ?_
          refine AllReadyH.cons (o := { dst := some 19, op := Go.Op.buildSlice 39 1 #[(0, Go.Operand.tmp 18)], type := 39, pos := "l03_bag.go:221", after := #[{ on := 4, ground := Go.Ground.data }], guard := none }) rfl (fun K hK => ?_) ?_
          · go_simp
            refine hK.out _ _ trivial (fun hHeld => ?_)
            clear hK K
            try simp only [Act.put, List.setIfInBounds_toArray, List.set_cons_zero, List.set_cons_succ]
            refine wpAnyH_take (i := 6) (oi := { dst := some 20, op := Go.Op.build 77 #[(0, Go.Operand.tmp 19), (1, Go.Operand.const (Go.Value.int Go.IntKind.i64 1))], type := 77, pos := "l03_bag.go:221", after := #[{ on := 5, ground := Go.Ground.data }], guard := none }) (v := ?_) rfl (by kernel_rfl) (by kernel_rfl) (by kernel_rfl) (fun _ _ _ h => h) (Or.inl ⟨by kernel_rfl, ?_⟩) (by assumption) ?_
            rotate_left
            · intro w hSw; (try dsimp only at hSw); go_simp; try with_reducible rfl
            simp only [Act.put, List.setIfInBounds_toArray, List.set_cons_zero, List.set_cons_succ]
            refine wpAnyH_ready (rs := [7]) (by kernel_rfl) (by simp) ?_
            refine AllReadyH.cons (o := { dst := some 21, op := Go.Op.buildSlice 24 1 #[(0, Go.Operand.tmp 20)], type := 24, pos := "l03_bag.go:221", after := #[{ on := 6, ground := Go.Ground.data }], guard := none }) rfl (fun K hK => ?_) ?_
            · go_simp
              refine hK.out _ _ trivial (fun hHeld => ?_)
              clear hK K
              try simp only [Act.put, List.setIfInBounds_toArray, List.set_cons_zero, List.set_cons_succ]
              refine wpAnyH_ready (rs := [8]) (by kernel_rfl) (by simp) ?_
              refine AllReadyH.cons (o := { dst := some 22, op := Go.Op.call { callee := Go.Callee.builtin Go.Builtin.append, args := #[Go.Operand.tmp 15, Go.Operand.tmp 21], argTypes := #[24, 24] }, type := 24, pos := "l03_bag.go:221", after := #[{ on := 1, ground := Go.Ground.data }, { on := 7, ground := Go.Ground.data }, { on := 4, ground := Go.Ground.chain }], guard := none }) rfl (fun K hK => ?_) ?_
              · refine step_append_lies _ rfl (.tmp 15) (.tmp 21) 24 rfl M 77 i1 _ 2 32 Try.underlying24 hj0 hy0 hy1 hy2 rfl (by decide) (.slice a m c) m ((List.range (m * 2)).map f) rfl ((HO2.out.alloc (.cells #[.int .i64 x] 3)).alloc _) ⟨w2.heap.size + 1, 0, none⟩ 1 1 [.slice (some ⟨w2.heap.size, 0, none⟩) 1 1, .int .i64 1] rfl rfl (by have := news_two (w2.alloc (.cells #[.int .i64 x] 3)) (.slice (some ⟨w2.heap.size, 0, none⟩) 1 1) (.int .i64 1) 77; simpa using this) (by simp [Value.oneCell']) (by decide) (by unfold maxLen; omega) (by omega) (by simp; omega) _ rfl ?_
                intro g5 cap5 w6 hown5 hgrow5 hloc5 _
                have HLD6 : Hid (Laid M w6 (.slice (some ⟨g5, 0, none⟩) (m + 1) cap5) (L ++ [([x], 1)])) := item_made (wr := w2) (w2 := w2.alloc (.cells #[.int .i64 x] 3)) (x := ([x], 1)) HRW2.out (fun k hk => (HO2.out.lt k hk).2) (below1 w2 _) hM2 (row_one_new w2 x) hgrow5 (by rcases hloc5 with h | h; exact .inl (by rw [h]; rfl); exact .inr (by simp [Value.ownBlock] at h ⊢; omega)) (by rw [HLN.out]; exact hown5)
                have HB6 : Hid (Below M w2 w6) := ((below2 w2 (.cells #[.int .i64 x] 3) _).mono hM2).trans (grown_below hgrow5 HO2.out (by simp; omega))
                have HX6 : Hid (One w6 P (.slice a m c)) := (HX2.out.below (below2 w2 _ _) HX2.out.lt).block (hgrow5.block P (by have := HX2.out.lt; simp; omega) (fun e => by have := HVP.out P e.symm; omega))
                have HR6 : Hid (One w6 B (.slice none 0 0)) := HR2.out.below HB6.out (by omega)
                have HC6 : Hid (CurL p ao n cap w6) := HCU2.out.below HB6.out hpM
                have HK6 : Hid (KeptBut p w w6) := HKP2.out.low HB6.out (by have := HB.out; omega)
                clear hown5 hgrow5 hloc5 u0 u0a u0b t0 t0a t0b t0c HC1
                refine hK.out _ _ trivial (fun hHeld => ?_)
                clear hK K
                try simp only [Act.put, List.setIfInBounds_toArray, List.set_cons_zero, List.set_cons_succ]
                refine wpAnyH_take (i := 9) (oi := { dst := some 23, op := Go.Op.fieldAddr 26 (Go.Operand.tmp 5) 0, type := 0, pos := "l03_bag.go:221", after := #[{ on := 0, ground := Go.Ground.phase }, { on := 1, ground := Go.Ground.phase }, { on := 2, ground := Go.Ground.phase }, { on := 3, ground := Go.Ground.phase }, { on := 4, ground := Go.Ground.phase }, { on := 5, ground := Go.Ground.phase }, { on := 6, ground := Go.Ground.phase }, { on := 7, ground := Go.Ground.phase }, { on := 8, ground := Go.Ground.phase }], guard := none }) (v := ?_) rfl (by kernel_rfl) (by kernel_rfl) (by kernel_rfl) (fun _ _ _ h => h) (Or.inl ⟨by kernel_rfl, ?_⟩) (by assumption) ?_
                rotate_left
                · intro w hSw; (try dsimp only at hSw); go_simp; try with_reducible rfl
                simp only [Act.put, List.setIfInBounds_toArray, List.set_cons_zero, List.set_cons_succ]
                refine wpAnyH_ready (rs := [10]) (by kernel_rfl) (by simp) ?_
                refine AllReadyH.cons (o := { dst := none, op := Go.Op.store 24 (Go.Operand.tmp 23) (Go.Operand.tmp 22), type := 0, pos := "l03_bag.go:221", after := #[{ on := 9, ground := Go.Ground.data }, { on := 8, ground := Go.Ground.data }, { on := 8, ground := Go.Ground.chain }, { on := 0, ground := Go.Ground.phase }, { on := 1, ground := Go.Ground.phase }, { on := 2, ground := Go.Ground.phase }, { on := 3, ground := Go.Ground.phase }, { on := 4, ground := Go.Ground.phase }, { on := 5, ground := Go.Ground.phase }, { on := 6, ground := Go.Ground.phase }, { on := 7, ground := Go.Ground.phase }, { on := 8, ground := Go.Ground.phase }], guard := none }) rfl (fun K hK => ?_) ?_
                · have y0 := HX6.out.cell
                  have yf := HX6.out.frozen
                  go_simp
                  refine hK.out _ _ trivial (fun hHeld => ?_)
                  clear hK K
                  try simp only [Act.put, List.setIfInBounds_toArray, List.set_cons_zero, List.set_cons_succ]
                  refine wpAnyH_done (by kernel_rfl) ?_ _
                  clear hHeld y0 yf
                  obtain ⟨a9, c9, hv9, hb9⟩ := HLD6.out.toIn
                  have hv9' : a9 = some ⟨g5, 0, none⟩ := by simp only [Value.slice.injEq] at hv9; exact hv9.1.symm
                  subst hv9'
                  have HB9 : Hid (BagIn B w6.heap.size w6 (some ⟨g5, 0, none⟩) (L ++ [([x], 1)])) := bagIn_wide hb9 (by omega) (Nat.le_refl _)
                  clear hv9 hb9
                  go_upto_region 10 with fail
                  obtain ⟨WF, HWF⟩ : ∃ WF, Hid (WF = w6.setCell ⟨P, 0, none⟩ (.slice (some ⟨g5, 0, none⟩) (m + 1) cap5)) := ⟨_, rfl⟩
                  rw [← HWF.out]
                  have HBS : Hid (BS w WF p n cap ao B P (some ⟨g5, 0, none⟩) (m + 1) cap5 (L ++ [([x], 1)])) := by rw [HWF.out]; exact BS.put HK6.out HC6.out HR6.out HX6.out HB9.out (lens_snoc HLN.out hm7 HRL.out) ⟨hpw, HB.out, hBP⟩
                  clear HWF
                  have d0 := HBS.out.box.cell
                  have r0 := HBS.out.res.cell
                  have rf0 := HBS.out.res.frozen
                  go_wp2
                  refine bodyPost_ret (v := .agg #[.slice (some ⟨g5, 0, none⟩) (m + 1) cap5]) (by simp [results, Try.results62, go_sem, r0]) rfl ?_
                  exact ⟨(some ⟨g5, 0, none⟩), m + 1, cap5, L ++ [([x], 1)], rfl, HBS.out.len, HBS.out.fin.1, HBS.out.fin.2.1, HBS.out.fin.2.2⟩
                exact AllReadyH.nil
              exact AllReadyH.nil
            exact AllReadyH.nil
          exact AllReadyH.nil
        exact AllReadyH.nil
      refine AllReadyH.cons (o := { dst := some 18, op := Go.Op.call { callee := Go.Callee.value (Go.Operand.func 98), args := #[Go.Operand.tmp 16, Go.Operand.tmp 17], argTypes := #[83, 39] }, type := 3, pos := "l03_bag.go:221", after := #[{ on := 2, ground := Go.Ground.data }, { on := 3, ground := Go.Ground.data }], guard := none }) rfl (fun K hK => ?_) ?_
      · go_simp
        go_wp2_with (go_at_call 98; refine (HC1.out).mono ?_; rintro e w2 ⟨x, rfl, HCU2, HK2⟩)
        have HKP2 : Hid (KeptBut p w w2) := HKW.out.trans HK2.out
        have HX2 : Hid (One w2 P (.slice a m c)) := HBX.out.keptBut HK2.out hPp
        have HR2 : Hid (One w2 B (.slice none 0 0)) := HRS.out.keptBut HK2.out hBp
        have HO2 : Hid (w2.ownsRow M 77 2 (.slice a m c) m ((List.range (m * 2)).map f)) := HK2.out.owns HOW.out hpM
        have HRW2 : Hid (Rws M w2 (.slice a m c) L f R C) := HRW.out.keptBut HK2.out hpM
        have hM2 : M ≤ w2.heap.size := Nat.le_trans hMW HK2.out.size
        clear HK2
        have u0 := HX2.out.cell
        have u0a : ∀ q, (w2.alloc q).cell? ⟨P, 0, none⟩ = some (.slice a m c) := fun q => (HX2.out.below (below1 w2 q) HX2.out.lt).cell
        have u0b : ∀ q r, ((w2.alloc q).alloc r).cell? ⟨P, 0, none⟩ = some (.slice a m c) := fun q r => (HX2.out.below (below2 w2 q r) HX2.out.lt).cell
        refine hK.out _ _ trivial (fun hHeld => ?_)
        clear hK K
        try simp only [Act.put, List.setIfInBounds_toArray, List.set_cons_zero, List.set_cons_succ]
        refine wpAnyH_ready (rs := [1, 5]) (by kernel_rfl) (by simp) ?_
        refine AllReadyH.cons (o := { dst := some 15, op := Go.Op.load 24 (Go.Operand.tmp 14), type := 24, pos := "l03_bag.go:221", after := #[{ on := 0, ground := Go.Ground.data }], guard := none }) rfl (fun K hK => ?_) ?_
        · go_simp
          refine hK.out _ _ trivial (fun hHeld => ?_)
          clear hK K
          try simp only [Act.put, List.setIfInBounds_toArray, List.set_cons_zero, List.set_cons_succ]
          refine wpAnyH_ready (rs := [5]) (by kernel_rfl) (by simp) ?_
          refine AllReadyH.cons (o := { dst := some 19, op := Go.Op.buildSlice 39 1 #[(0, Go.Operand.tmp 18)], type := 39, pos := "l03_bag.go:221", after := #[{ on := 4, ground := Go.Ground.data }], guard := none }) rfl (fun K hK => ?_) ?_
          · go_simp
            refine hK.out _ _ trivial (fun hHeld => ?_)
            clear hK K
            try simp only [Act.put, List.setIfInBounds_toArray, List.set_cons_zero, List.set_cons_succ]
            refine wpAnyH_take (i := 6) (oi := { dst := some 20, op := Go.Op.build 77 #[(0, Go.Operand.tmp 19), (1, Go.Operand.const (Go.Value.int Go.IntKind.i64 1))], type := 77, pos := "l03_bag.go:221", after := #[{ on := 5, ground := Go.Ground.data }], guard := none }) (v := ?_) rfl (by kernel_rfl) (by kernel_rfl) (by kernel_rfl) (fun _ _ _ h => h) (Or.inl ⟨by kernel_rfl, ?_⟩) (by assumption) ?_
            rotate_left
            · intro w hSw; (try dsimp only at hSw); go_simp; try with_reducible rfl
            simp only [Act.put, List.setIfInBounds_toArray, List.set_cons_zero, List.set_cons_succ]
            refine wpAnyH_ready (rs := [7]) (by kernel_rfl) (by simp) ?_
            refine AllReadyH.cons (o := { dst := some 21, op := Go.Op.buildSlice 24 1 #[(0, Go.Operand.tmp 20)], type := 24, pos := "l03_bag.go:221", after := #[{ on := 6, ground := Go.Ground.data }], guard := none }) rfl (fun K hK => ?_) ?_
            · go_simp
              refine hK.out _ _ trivial (fun hHeld => ?_)
              clear hK K
              try simp only [Act.put, List.setIfInBounds_toArray, List.set_cons_zero, List.set_cons_succ]
              refine wpAnyH_ready (rs := [8]) (by kernel_rfl) (by simp) ?_
              refine AllReadyH.cons (o := { dst := some 22, op := Go.Op.call { callee := Go.Callee.builtin Go.Builtin.append, args := #[Go.Operand.tmp 15, Go.Operand.tmp 21], argTypes := #[24, 24] }, type := 24, pos := "l03_bag.go:221", after := #[{ on := 1, ground := Go.Ground.data }, { on := 7, ground := Go.Ground.data }, { on := 4, ground := Go.Ground.chain }], guard := none }) rfl (fun K hK => ?_) ?_
              · refine step_append_lies _ rfl (.tmp 15) (.tmp 21) 24 rfl M 77 i1 _ 2 32 Try.underlying24 hj0 hy0 hy1 hy2 rfl (by decide) (.slice a m c) m ((List.range (m * 2)).map f) rfl ((HO2.out.alloc (.cells #[.int .i64 x] 3)).alloc _) ⟨w2.heap.size + 1, 0, none⟩ 1 1 [.slice (some ⟨w2.heap.size, 0, none⟩) 1 1, .int .i64 1] rfl rfl (by have := news_two (w2.alloc (.cells #[.int .i64 x] 3)) (.slice (some ⟨w2.heap.size, 0, none⟩) 1 1) (.int .i64 1) 77; simpa using this) (by simp [Value.oneCell']) (by decide) (by unfold maxLen; omega) (by omega) (by simp; omega) _ rfl ?_
                intro g5 cap5 w6 hown5 hgrow5 hloc5 _
                have HLD6 : Hid (Laid M w6 (.slice (some ⟨g5, 0, none⟩) (m + 1) cap5) (L ++ [([x], 1)])) := item_made (wr := w2) (w2 := w2.alloc (.cells #[.int .i64 x] 3)) (x := ([x], 1)) HRW2.out (fun k hk => (HO2.out.lt k hk).2) (below1 w2 _) hM2 (row_one_new w2 x) hgrow5 (by rcases hloc5 with h | h; exact .inl (by rw [h]; rfl); exact .inr (by simp [Value.ownBlock] at h ⊢; omega)) (by rw [HLN.out]; exact hown5)
                have HB6 : Hid (Below M w2 w6) := ((below2 w2 (.cells #[.int .i64 x] 3) _).mono hM2).trans (grown_below hgrow5 HO2.out (by simp; omega))
                have HX6 : Hid (One w6 P (.slice a m c)) := (HX2.out.below (below2 w2 _ _) HX2.out.lt).block (hgrow5.block P (by have := HX2.out.lt; simp; omega) (fun e => by have := HVP.out P e.symm; omega))
                have HR6 : Hid (One w6 B (.slice none 0 0)) := HR2.out.below HB6.out (by omega)
                have HC6 : Hid (CurL p ao n cap w6) := HCU2.out.below HB6.out hpM
                have HK6 : Hid (KeptBut p w w6) := HKP2.out.low HB6.out (by have := HB.out; omega)
                clear hown5 hgrow5 hloc5 u0 u0a u0b t0 t0a t0b t0c HC1
                refine hK.out _ _ trivial (fun hHeld => ?_)
                clear hK K
                try simp only [Act.put, List.setIfInBounds_toArray, List.set_cons_zero, List.set_cons_succ]
                refine wpAnyH_take (i := 9) (oi := { dst := some 23, op := Go.Op.fieldAddr 26 (Go.Operand.tmp 5) 0, type := 0, pos := "l03_bag.go:221", after := #[{ on := 0, ground := Go.Ground.phase }, { on := 1, ground := Go.Ground.phase }, { on := 2, ground := Go.Ground.phase }, { on := 3, ground := Go.Ground.phase }, { on := 4, ground := Go.Ground.phase }, { on := 5, ground := Go.Ground.phase }, { on := 6, ground := Go.Ground.phase }, { on := 7, ground := Go.Ground.phase }, { on := 8, ground := Go.Ground.phase }], guard := none }) (v := ?_) rfl (by kernel_rfl) (by kernel_rfl) (by kernel_rfl) (fun _ _ _ h => h) (Or.inl ⟨by kernel_rfl, ?_⟩) (by assumption) ?_
                rotate_left
                · intro w hSw; (try dsimp only at hSw); go_simp; try with_reducible rfl
                simp only [Act.put, List.setIfInBounds_toArray, List.set_cons_zero, List.set_cons_succ]
                refine wpAnyH_ready (rs := [10]) (by kernel_rfl) (by simp) ?_
                refine AllReadyH.cons (o := { dst := none, op := Go.Op.store 24 (Go.Operand.tmp 23) (Go.Operand.tmp 22), type := 0, pos := "l03_bag.go:221", after := #[{ on := 9, ground := Go.Ground.data }, { on := 8, ground := Go.Ground.data }, { on := 8, ground := Go.Ground.chain }, { on := 0, ground := Go.Ground.phase }, { on := 1, ground := Go.Ground.phase }, { on := 2, ground := Go.Ground.phase }, { on := 3, ground := Go.Ground.phase }, { on := 4, ground := Go.Ground.phase }, { on := 5, ground := Go.Ground.phase }, { on := 6, ground := Go.Ground.phase }, { on := 7, ground := Go.Ground.phase }, { on := 8, ground := Go.Ground.phase }], guard := none }) rfl (fun K hK => ?_) ?_
                · have y0 := HX6.out.cell
                  have yf := HX6.out.frozen
                  go_simp
                  refine hK.out _ _ trivial (fun hHeld => ?_)
                  clear hK K
                  try simp only [Act.put, List.setIfInBounds_toArray, List.set_cons_zero, List.set_cons_succ]
                  refine wpAnyH_done (by kernel_rfl) ?_ _
                  clear hHeld y0 yf
                  obtain ⟨a9, c9, hv9, hb9⟩ := HLD6.out.toIn
                  have hv9' : a9 = some ⟨g5, 0, none⟩ := by simp only [Value.slice.injEq] at hv9; exact hv9.1.symm
                  subst hv9'
                  have HB9 : Hid (BagIn B w6.heap.size w6 (some ⟨g5, 0, none⟩) (L ++ [([x], 1)])) := bagIn_wide hb9 (by omega) (Nat.le_refl _)
                  clear hv9 hb9
                  go_upto_region 10 with fail
                  obtain ⟨WF, HWF⟩ : ∃ WF, Hid (WF = w6.setCell ⟨P, 0, none⟩ (.slice (some ⟨g5, 0, none⟩) (m + 1) cap5)) := ⟨_, rfl⟩
                  rw [← HWF.out]
                  have HBS : Hid (BS w WF p n cap ao B P (some ⟨g5, 0, none⟩) (m + 1) cap5 (L ++ [([x], 1)])) := by rw [HWF.out]; exact BS.put HK6.out HC6.out HR6.out HX6.out HB9.out (lens_snoc HLN.out hm7 HRL.out) ⟨hpw, HB.out, hBP⟩
                  clear HWF
                  have d0 := HBS.out.box.cell
                  have r0 := HBS.out.res.cell
                  have rf0 := HBS.out.res.frozen
                  go_wp2
                  refine bodyPost_ret (v := .agg #[.slice (some ⟨g5, 0, none⟩) (m + 1) cap5]) (by simp [results, Try.results62, go_sem, r0]) rfl ?_
                  exact ⟨(some ⟨g5, 0, none⟩), m + 1, cap5, L ++ [([x], 1)], rfl, HBS.out.len, HBS.out.fin.1, HBS.out.fin.2.1, HBS.out.fin.2.2⟩
                exact AllReadyH.nil
              exact AllReadyH.nil
            exact AllReadyH.nil
          exact AllReadyH.nil
        refine AllReadyH.cons (o := { dst := some 19, op := Go.Op.buildSlice 39 1 #[(0, Go.Operand.tmp 18)], type := 39, pos := "l03_bag.go:221", after := #[{ on := 4, ground := Go.Ground.data }], guard := none }) rfl (fun K hK => ?_) ?_
        · go_simp
          refine hK.out _ _ trivial (fun hHeld => ?_)
          clear hK K
          try simp only [Act.put, List.setIfInBounds_toArray, List.set_cons_zero, List.set_cons_succ]
          refine wpAnyH_take (i := 6) (oi := { dst := some 20, op := Go.Op.build 77 #[(0, Go.Operand.tmp 19), (1, Go.Operand.const (Go.Value.int Go.IntKind.i64 1))], type := 77, pos := "l03_bag.go:221", after := #[{ on := 5, ground := Go.Ground.data }], guard := none }) (v := ?_) rfl (by kernel_rfl) (by kernel_rfl) (by kernel_rfl) (fun _ _ _ h => h) (Or.inl ⟨by kernel_rfl, ?_⟩) (by assumption) ?_
          rotate_left
          · intro w hSw; (try dsimp only at hSw); go_simp; try with_reducible rfl
          simp only [Act.put, List.setIfInBounds_toArray, List.set_cons_zero, List.set_cons_succ]
          refine wpAnyH_ready (rs := [1, 7]) (by kernel_rfl) (by simp) ?_
          refine AllReadyH.cons (o := { dst := some 15, op := Go.Op.load 24 (Go.Operand.tmp 14), type := 24, pos := "l03_bag.go:221", after := #[{ on := 0, ground := Go.Ground.data }], guard := none }) rfl (fun K hK => ?_) ?_
          · go_simp
            refine hK.out _ _ trivial (fun hHeld => ?_)
            clear hK K
            try simp only [Act.put, List.setIfInBounds_toArray, List.set_cons_zero, List.set_cons_succ]
            refine wpAnyH_ready (rs := [7]) (by kernel_rfl) (by simp) ?_
            refine AllReadyH.cons (o := { dst := some 21, op := Go.Op.buildSlice 24 1 #[(0, Go.Operand.tmp 20)], type := 24, pos := "l03_bag.go:221", after := #[{ on := 6, ground := Go.Ground.data }], guard := none }) rfl (fun K hK => ?_) ?_
            · go_simp
              refine hK.out _ _ trivial (fun hHeld => ?_)
              clear hK K
              try simp only [Act.put, List.setIfInBounds_toArray, List.set_cons_zero, List.set_cons_succ]
              refine wpAnyH_ready (rs := [8]) (by kernel_rfl) (by simp) ?_
              refine AllReadyH.cons (o := { dst := some 22, op := Go.Op.call { callee := Go.Callee.builtin Go.Builtin.append, args := #[Go.Operand.tmp 15, Go.Operand.tmp 21], argTypes := #[24, 24] }, type := 24, pos := "l03_bag.go:221", after := #[{ on := 1, ground := Go.Ground.data }, { on := 7, ground := Go.Ground.data }, { on := 4, ground := Go.Ground.chain }], guard := none }) rfl (fun K hK => ?_) ?_
              · refine step_append_lies _ rfl (.tmp 15) (.tmp 21) 24 rfl M 77 i1 _ 2 32 Try.underlying24 hj0 hy0 hy1 hy2 rfl (by decide) (.slice a m c) m ((List.range (m * 2)).map f) rfl ((HO2.out.alloc (.cells #[.int .i64 x] 3)).alloc _) ⟨w2.heap.size + 1, 0, none⟩ 1 1 [.slice (some ⟨w2.heap.size, 0, none⟩) 1 1, .int .i64 1] rfl rfl (by have := news_two (w2.alloc (.cells #[.int .i64 x] 3)) (.slice (some ⟨w2.heap.size, 0, none⟩) 1 1) (.int .i64 1) 77; simpa using this) (by simp [Value.oneCell']) (by decide) (by unfold maxLen; omega) (by omega) (by simp; omega) _ rfl ?_
                intro g5 cap5 w6 hown5 hgrow5 hloc5 _
                have HLD6 : Hid (Laid M w6 (.slice (some ⟨g5, 0, none⟩) (m + 1) cap5) (L ++ [([x], 1)])) := item_made (wr := w2) (w2 := w2.alloc (.cells #[.int .i64 x] 3)) (x := ([x], 1)) HRW2.out (fun k hk => (HO2.out.lt k hk).2) (below1 w2 _) hM2 (row_one_new w2 x) hgrow5 (by rcases hloc5 with h | h; exact .inl (by rw [h]; rfl); exact .inr (by simp [Value.ownBlock] at h ⊢; omega)) (by rw [HLN.out]; exact hown5)
                have HB6 : Hid (Below M w2 w6) := ((below2 w2 (.cells #[.int .i64 x] 3) _).mono hM2).trans (grown_below hgrow5 HO2.out (by simp; omega))
                have HX6 : Hid (One w6 P (.slice a m c)) := (HX2.out.below (below2 w2 _ _) HX2.out.lt).block (hgrow5.block P (by have := HX2.out.lt; simp; omega) (fun e => by have := HVP.out P e.symm; omega))
                have HR6 : Hid (One w6 B (.slice none 0 0)) := HR2.out.below HB6.out (by omega)
                have HC6 : Hid (CurL p ao n cap w6) := HCU2.out.below HB6.out hpM
                have HK6 : Hid (KeptBut p w w6) := HKP2.out.low HB6.out (by have := HB.out; omega)
                clear hown5 hgrow5 hloc5 u0 u0a u0b t0 t0a t0b t0c HC1
                refine hK.out _ _ trivial (fun hHeld => ?_)
                clear hK K
                try simp only [Act.put, List.setIfInBounds_toArray, List.set_cons_zero, List.set_cons_succ]
                refine wpAnyH_take (i := 9) (oi := { dst := some 23, op := Go.Op.fieldAddr 26 (Go.Operand.tmp 5) 0, type := 0, pos := "l03_bag.go:221", after := #[{ on := 0, ground := Go.Ground.phase }, { on := 1, ground := Go.Ground.phase }, { on := 2, ground := Go.Ground.phase }, { on := 3, ground := Go.Ground.phase }, { on := 4, ground := Go.Ground.phase }, { on := 5, ground := Go.Ground.phase }, { on := 6, ground := Go.Ground.phase }, { on := 7, ground := Go.Ground.phase }, { on := 8, ground := Go.Ground.phase }], guard := none }) (v := ?_) rfl (by kernel_rfl) (by kernel_rfl) (by kernel_rfl) (fun _ _ _ h => h) (Or.inl ⟨by kernel_rfl, ?_⟩) (by assumption) ?_
                rotate_left
                · intro w hSw; (try dsimp only at hSw); go_simp; try with_reducible rfl
                simp only [Act.put, List.setIfInBounds_toArray, List.set_cons_zero, List.set_cons_succ]
                refine wpAnyH_ready (rs := [10]) (by kernel_rfl) (by simp) ?_
                refine AllReadyH.cons (o := { dst := none, op := Go.Op.store 24 (Go.Operand.tmp 23) (Go.Operand.tmp 22), type := 0, pos := "l03_bag.go:221", after := #[{ on := 9, ground := Go.Ground.data }, { on := 8, ground := Go.Ground.data }, { on := 8, ground := Go.Ground.chain }, { on := 0, ground := Go.Ground.phase }, { on := 1, ground := Go.Ground.phase }, { on := 2, ground := Go.Ground.phase }, { on := 3, ground := Go.Ground.phase }, { on := 4, ground := Go.Ground.phase }, { on := 5, ground := Go.Ground.phase }, { on := 6, ground := Go.Ground.phase }, { on := 7, ground := Go.Ground.phase }, { on := 8, ground := Go.Ground.phase }], guard := none }) rfl (fun K hK => ?_) ?_
                · have y0 := HX6.out.cell
                  have yf := HX6.out.frozen
                  go_simp
                  refine hK.out _ _ trivial (fun hHeld => ?_)
                  clear hK K
                  try simp only [Act.put, List.setIfInBounds_toArray, List.set_cons_zero, List.set_cons_succ]
                  refine wpAnyH_done (by kernel_rfl) ?_ _
                  clear hHeld y0 yf
                  obtain ⟨a9, c9, hv9, hb9⟩ := HLD6.out.toIn
                  have hv9' : a9 = some ⟨g5, 0, none⟩ := by simp only [Value.slice.injEq] at hv9; exact hv9.1.symm
                  subst hv9'
                  have HB9 : Hid (BagIn B w6.heap.size w6 (some ⟨g5, 0, none⟩) (L ++ [([x], 1)])) := bagIn_wide hb9 (by omega) (Nat.le_refl _)
                  clear hv9 hb9
                  go_upto_region 10 with fail
                  obtain ⟨WF, HWF⟩ : ∃ WF, Hid (WF = w6.setCell ⟨P, 0, none⟩ (.slice (some ⟨g5, 0, none⟩) (m + 1) cap5)) := ⟨_, rfl⟩
                  rw [← HWF.out]
                  have HBS : Hid (BS w WF p n cap ao B P (some ⟨g5, 0, none⟩) (m + 1) cap5 (L ++ [([x], 1)])) := by rw [HWF.out]; exact BS.put HK6.out HC6.out HR6.out HX6.out HB9.out (lens_snoc HLN.out hm7 HRL.out) ⟨hpw, HB.out, hBP⟩
                  clear HWF
                  have d0 := HBS.out.box.cell
                  have r0 := HBS.out.res.cell
                  have rf0 := HBS.out.res.frozen
                  go_wp2
                  refine bodyPost_ret (v := .agg #[.slice (some ⟨g5, 0, none⟩) (m + 1) cap5]) (by simp [results, Try.results62, go_sem, r0]) rfl ?_
                  exact ⟨(some ⟨g5, 0, none⟩), m + 1, cap5, L ++ [([x], 1)], rfl, HBS.out.len, HBS.out.fin.1, HBS.out.fin.2.1, HBS.out.fin.2.2⟩
                exact AllReadyH.nil
              exact AllReadyH.nil
            exact AllReadyH.nil
          refine AllReadyH.cons (o := { dst := some 21, op := Go.Op.buildSlice 24 1 #[(0, Go.Operand.tmp 20)], type := 24, pos := "l03_bag.go:221", after := #[{ on := 6, ground := Go.Ground.data }], guard := none }) rfl (fun K hK => ?_) ?_
          · go_simp
            refine hK.out _ _ trivial (fun hHeld => ?_)
            clear hK K
            try simp only [Act.put, List.setIfInBounds_toArray, List.set_cons_zero, List.set_cons_succ]
            refine wpAnyH_ready (rs := [1]) (by kernel_rfl) (by simp) ?_
            refine AllReadyH.cons (o := { dst := some 15, op := Go.Op.load 24 (Go.Operand.tmp 14), type := 24, pos := "l03_bag.go:221", after := #[{ on := 0, ground := Go.Ground.data }], guard := none }) rfl (fun K hK => ?_) ?_
            · go_simp
              refine hK.out _ _ trivial (fun hHeld => ?_)
              clear hK K
              try simp only [Act.put, List.setIfInBounds_toArray, List.set_cons_zero, List.set_cons_succ]
              refine wpAnyH_ready (rs := [8]) (by kernel_rfl) (by simp) ?_
              refine AllReadyH.cons (o := { dst := some 22, op := Go.Op.call { callee := Go.Callee.builtin Go.Builtin.append, args := #[Go.Operand.tmp 15, Go.Operand.tmp 21], argTypes := #[24, 24] }, type := 24, pos := "l03_bag.go:221", after := #[{ on := 1, ground := Go.Ground.data }, { on := 7, ground := Go.Ground.data }, { on := 4, ground := Go.Ground.chain }], guard := none }) rfl (fun K hK => ?_) ?_
              · refine step_append_lies _ rfl (.tmp 15) (.tmp 21) 24 rfl M 77 i1 _ 2 32 Try.underlying24 hj0 hy0 hy1 hy2 rfl (by decide) (.slice a m c) m ((List.range (m * 2)).map f) rfl ((HO2.out.alloc (.cells #[.int .i64 x] 3)).alloc _) ⟨w2.heap.size + 1, 0, none⟩ 1 1 [.slice (some ⟨w2.heap.size, 0, none⟩) 1 1, .int .i64 1] rfl rfl (by have := news_two (w2.alloc (.cells #[.int .i64 x] 3)) (.slice (some ⟨w2.heap.size, 0, none⟩) 1 1) (.int .i64 1) 77; simpa using this) (by simp [Value.oneCell']) (by decide) (by unfold maxLen; omega) (by omega) (by simp; omega) _ rfl ?_
                intro g5 cap5 w6 hown5 hgrow5 hloc5 _
                have HLD6 : Hid (Laid M w6 (.slice (some ⟨g5, 0, none⟩) (m + 1) cap5) (L ++ [([x], 1)])) := item_made (wr := w2) (w2 := w2.alloc (.cells #[.int .i64 x] 3)) (x := ([x], 1)) HRW2.out (fun k hk => (HO2.out.lt k hk).2) (below1 w2 _) hM2 (row_one_new w2 x) hgrow5 (by rcases hloc5 with h | h; exact .inl (by rw [h]; rfl); exact .inr (by simp [Value.ownBlock] at h ⊢; omega)) (by rw [HLN.out]; exact hown5)
                have HB6 : Hid (Below M w2 w6) := ((below2 w2 (.cells #[.int .i64 x] 3) _).mono hM2).trans (grown_below hgrow5 HO2.out (by simp; omega))
                have HX6 : Hid (One w6 P (.slice a m c)) := (HX2.out.below (below2 w2 _ _) HX2.out.lt).block (hgrow5.block P (by have := HX2.out.lt; simp; omega) (fun e => by have := HVP.out P e.symm; omega))
                have HR6 : Hid (One w6 B (.slice none 0 0)) := HR2.out.below HB6.out (by omega)
                have HC6 : Hid (CurL p ao n cap w6) := HCU2.out.below HB6.out hpM
                have HK6 : Hid (KeptBut p w w6) := HKP2.out.low HB6.out (by have := HB.out; omega)
                clear hown5 hgrow5 hloc5 u0 u0a u0b t0 t0a t0b t0c HC1
                refine hK.out _ _ trivial (fun hHeld => ?_)
                clear hK K
                try simp only [Act.put, List.setIfInBounds_toArray, List.set_cons_zero, List.set_cons_succ]
                refine wpAnyH_take (i := 9) (oi := { dst := some 23, op := Go.Op.fieldAddr 26 (Go.Operand.tmp 5) 0, type := 0, pos := "l03_bag.go:221", after := #[{ on := 0, ground := Go.Ground.phase }, { on := 1, ground := Go.Ground.phase }, { on := 2, ground := Go.Ground.phase }, { on := 3, ground := Go.Ground.phase }, { on := 4, ground := Go.Ground.phase }, { on := 5, ground := Go.Ground.phase }, { on := 6, ground := Go.Ground.phase }, { on := 7, ground := Go.Ground.phase }, { on := 8, ground := Go.Ground.phase }], guard := none }) (v := ?_) rfl (by kernel_rfl) (by kernel_rfl) (by kernel_rfl) (fun _ _ _ h => h) (Or.inl ⟨by kernel_rfl, ?_⟩) (by assumption) ?_
                rotate_left
                · intro w hSw; (try dsimp only at hSw); go_simp; try with_reducible rfl
                simp only [Act.put, List.setIfInBounds_toArray, List.set_cons_zero, List.set_cons_succ]
                refine wpAnyH_ready (rs := [10]) (by kernel_rfl) (by simp) ?_
                refine AllReadyH.cons (o := { dst := none, op := Go.Op.store 24 (Go.Operand.tmp 23) (Go.Operand.tmp 22), type := 0, pos := "l03_bag.go:221", after := #[{ on := 9, ground := Go.Ground.data }, { on := 8, ground := Go.Ground.data }, { on := 8, ground := Go.Ground.chain }, { on := 0, ground := Go.Ground.phase }, { on := 1, ground := Go.Ground.phase }, { on := 2, ground := Go.Ground.phase }, { on := 3, ground := Go.Ground.phase }, { on := 4, ground := Go.Ground.phase }, { on := 5, ground := Go.Ground.phase }, { on := 6, ground := Go.Ground.phase }, { on := 7, ground := Go.Ground.phase }, { on := 8, ground := Go.Ground.phase }], guard := none }) rfl (fun K hK => ?_) ?_
                · have y0 := HX6.out.cell
                  have yf := HX6.out.frozen
                  go_simp
                  refine hK.out _ _ trivial (fun hHeld => ?_)
                  clear hK K
                  try simp only [Act.put, List.setIfInBounds_toArray, List.set_cons_zero, List.set_cons_succ]
                  refine wpAnyH_done (by kernel_rfl) ?_ _
                  clear hHeld y0 yf
                  obtain ⟨a9, c9, hv9, hb9⟩ := HLD6.out.toIn
                  have hv9' : a9 = some ⟨g5, 0, none⟩ := by simp only [Value.slice.injEq] at hv9; exact hv9.1.symm
                  subst hv9'
                  have HB9 : Hid (BagIn B w6.heap.size w6 (some ⟨g5, 0, none⟩) (L ++ [([x], 1)])) := bagIn_wide hb9 (by omega) (Nat.le_refl _)
                  clear hv9 hb9
                  go_upto_region 10 with fail
                  obtain ⟨WF, HWF⟩ : ∃ WF, Hid (WF = w6.setCell ⟨P, 0, none⟩ (.slice (some ⟨g5, 0, none⟩) (m + 1) cap5)) := ⟨_, rfl⟩
                  rw [← HWF.out]
                  have HBS : Hid (BS w WF p n cap ao B P (some ⟨g5, 0, none⟩) (m + 1) cap5 (L ++ [([x], 1)])) := by rw [HWF.out]; exact BS.put HK6.out HC6.out HR6.out HX6.out HB9.out (lens_snoc HLN.out hm7 HRL.out) ⟨hpw, HB.out, hBP⟩
                  clear HWF
                  have d0 := HBS.out.box.cell
                  have r0 := HBS.out.res.cell
                  have rf0 := HBS.out.res.frozen
                  go_wp2
                  refine bodyPost_ret (v := .agg #[.slice (some ⟨g5, 0, none⟩) (m + 1) cap5]) (by simp [results, Try.results62, go_sem, r0]) rfl ?_
                  exact ⟨(some ⟨g5, 0, none⟩), m + 1, cap5, L ++ [([x], 1)], rfl, HBS.out.len, HBS.out.fin.1, HBS.out.fin.2.1, HBS.out.fin.2.2⟩
                exact AllReadyH.nil
              exact AllReadyH.nil
            exact AllReadyH.nil
          exact AllReadyH.nil
        exact AllReadyH.nil
      exact AllReadyH.nil
    exact AllReadyH.nil

  · have hd0 : (y == 0) = false := by simpa using e0
    have hd0' : decide (y = 0) = false := decide_eq_false e0
    by_cases e1 : y = 1
    · subst e1
      by_cases hm0 : 0 < m
      · have hgt : (0 : Int) < (m : Int) := by omega
        have HC1 : Hid (Calls Try.prog 98 #[.pointer (some ⟨p, 0, none⟩), .slice (some ⟨W.heap.size, 0, none⟩) 4 4] (W.alloc (.cells #[.int .i64 0, .int .i64 1, .int .i64 1000000, .int .i64 1000001] 3)).drew fun e w' => ∃ x : Int, e = .returned (.int .i64 x) ∧ Hid (CurL p ao n cap w') ∧ Hid (KeptBut p W w')) := pick_four W p n cap ao _ _ _ _ HCU.out (by omega) (by omega) (by omega) (by omega)
        obtain ⟨g, rfl⟩ : ∃ g, a = some ⟨g, 0, none⟩ := by
          rcases HOW.out.2 with ⟨_, h0⟩ | ⟨g, cap', cur, hv, _⟩
          · omega
          · simp only [Value.slice.injEq] at hv
            exact ⟨g, hv.1⟩
        have t0a : ∀ q, (W.alloc q).cell? ⟨P, 0, none⟩ = some (.slice (some ⟨g, 0, none⟩) m c) := fun q => (HBX.out.below (below1 W q) HBX.out.lt).cell
        have t0b : ∀ q, (W.alloc q).drew.cell? ⟨P, 0, none⟩ = some (.slice (some ⟨g, 0, none⟩) m c) := fun q => t0a q
        have t0c : ∀ q, (W.drew.alloc q).cell? ⟨P, 0, none⟩ = some (.slice (some ⟨g, 0, none⟩) m c) := fun q => t0a q
        go_wp2_with fail
        refine wp_region_held_drew (S := fun _ => True) (by kernel_rfl) trivial (fun hHeld => ?_)
        refine wpAnyH_take (i := 0) (oi := { dst := some 30, op := Go.Op.fieldAddr 26 (Go.Operand.tmp 5) 0, type := 0, pos := "l03_bag.go:224", after := #[], guard := none }) (v := ?_) rfl (by kernel_rfl) (by kernel_rfl) (by kernel_rfl) (fun _ _ _ h => h) (Or.inl ⟨by kernel_rfl, ?_⟩) (by assumption) ?_
        rotate_left
        · intro w hSw; (try dsimp only at hSw); go_simp; try with_reducible rfl
        simp only [Act.put, List.setIfInBounds_toArray, List.set_cons_zero, List.set_cons_succ]
        refine wpAnyH_take (i := 2) (oi := { dst := some 32, op := Go.Op.move (Go.Operand.tmp 0), type := 83, pos := "l03_bag.go:224", after := #[], guard := none }) (v := ?_) rfl (by kernel_rfl) (by kernel_rfl) (by kernel_rfl) (fun _ _ _ h => h) (Or.inl ⟨by kernel_rfl, ?_⟩) (by assumption) ?_
        rotate_left
        · intro w hSw; (try dsimp only at hSw); go_simp; try with_reducible rfl
        simp only [Act.put, List.setIfInBounds_toArray, List.set_cons_zero, List.set_cons_succ]
        refine wpAnyH_ready (rs := [1, 3]) (by kernel_rfl) (by simp) ?_
        refine AllReadyH.cons (o := { dst := some 31, op := Go.Op.load 24 (Go.Operand.tmp 30), type := 24, pos := "l03_bag.go:224", after := #[{ on := 0, ground := Go.Ground.data }], guard := none }) rfl (fun K hK => ?_) ?_
        · go_simp
          refine hK.out _ _ trivial (fun hHeld => ?_)
          clear hK K
          try simp only [Act.put, List.setIfInBounds_toArray, List.set_cons_zero, List.set_cons_succ]
          refine wpAnyH_ready (rs := [3]) (by kernel_rfl) (by simp) ?_
          refine AllReadyH.cons (o := { dst := some 33, op := Go.Op.buildSlice 39 4 #[(0, Go.Operand.const (Go.Value.int Go.IntKind.i64 0)), (1, Go.Operand.const (Go.Value.int Go.IntKind.i64 1)), (2, Go.Operand.const (Go.Value.int Go.IntKind.i64 1000000)), (3, Go.Operand.const (Go.Value.int Go.IntKind.i64 1000001))], type := 39, pos := "l03_bag.go:224", after := #[], guard := none }) rfl (fun K hK => ?_) ?_
          · go_simp
            refine hK.out _ _ trivial (fun hHeld => ?_)
            clear hK K
            try simp only [Act.put, List.setIfInBounds_toArray, List.set_cons_zero, List.set_cons_succ]
            refine wpAnyH_ready (rs := [4]) (by kernel_rfl) (by simp) ?_
            refine AllReadyH.cons (o := { dst := some 34, op := Go.Op.call { callee := Go.Callee.value (Go.Operand.func 98), args := #[Go.Operand.tmp 32, Go.Operand.tmp 33], argTypes := #[83, 39] }, type := 3, pos := "l03_bag.go:224", after := #[{ on := 2, ground := Go.Ground.data }, { on := 3, ground := Go.Ground.data }], guard := none }) rfl (fun K hK => ?_) ?_
            · go_simp
              go_wp2_with (go_at_call 98; refine (HC1.out).mono ?_; rintro e w2 ⟨x, rfl, HCU2, HK2⟩)
              have HKP2 : Hid (KeptBut p w w2) := HKW.out.trans HK2.out
              have HX2 : Hid (One w2 P (.slice (some ⟨g, 0, none⟩) m c)) := HBX.out.keptBut HK2.out hPp
              have HR2 : Hid (One w2 B (.slice none 0 0)) := HRS.out.keptBut HK2.out hBp
              have HO2 : Hid (w2.ownsRow M 77 2 (.slice (some ⟨g, 0, none⟩) m c) m ((List.range (m * 2)).map f)) := HK2.out.owns HOW.out hpM
              have HRW2 : Hid (Rws M w2 (.slice (some ⟨g, 0, none⟩) m c) L f R C) := HRW.out.keptBut HK2.out hpM
              have hM2 : M ≤ w2.heap.size := Nat.le_trans hMW HK2.out.size
              clear HK2
              have u0 := HX2.out.cell
              refine hK.out _ _ trivial (fun hHeld => ?_)
              clear hK K
              try simp only [Act.put, List.setIfInBounds_toArray, List.set_cons_zero, List.set_cons_succ]
              refine wpAnyH_take (i := 5) (oi := { dst := some 35, op := Go.Op.indexAddr 24 (Go.Operand.tmp 31) (Go.Operand.const (Go.Value.int Go.IntKind.i64 0)), type := 0, pos := "l03_bag.go:224", after := #[{ on := 1, ground := Go.Ground.data }, { on := 0, ground := Go.Ground.phase }, { on := 1, ground := Go.Ground.phase }, { on := 2, ground := Go.Ground.phase }, { on := 3, ground := Go.Ground.phase }, { on := 4, ground := Go.Ground.phase }], guard := none }) (v := ?_) rfl (by kernel_rfl) (by kernel_rfl) (by kernel_rfl) (fun _ _ _ h => h) (Or.inl ⟨by kernel_rfl, ?_⟩) (by assumption) ?_
              rotate_left
              · intro w hSw; (try dsimp only at hSw); go_simp; try with_reducible rfl
              simp only [Act.put, List.setIfInBounds_toArray, List.set_cons_zero, List.set_cons_succ]
              refine wpAnyH_take (i := 6) (oi := { dst := some 36, op := Go.Op.fieldAddr 77 (Go.Operand.tmp 35) 1, type := 0, pos := "l03_bag.go:224", after := #[{ on := 5, ground := Go.Ground.data }, { on := 0, ground := Go.Ground.phase }, { on := 1, ground := Go.Ground.phase }, { on := 2, ground := Go.Ground.phase }, { on := 3, ground := Go.Ground.phase }, { on := 4, ground := Go.Ground.phase }], guard := none }) (v := ?_) rfl (by kernel_rfl) (by kernel_rfl) (by kernel_rfl) (fun _ _ _ h => h) (Or.inl ⟨by kernel_rfl, ?_⟩) (by assumption) ?_
              rotate_left
              · intro w hSw; (try dsimp only at hSw); go_simp; try with_reducible rfl
              simp only [Act.put, List.setIfInBounds_toArray, List.set_cons_zero, List.set_cons_succ]
              refine wpAnyH_ready (rs := [7]) (by kernel_rfl) (by simp) ?_
              refine AllReadyH.cons (o := { dst := none, op := Go.Op.store 3 (Go.Operand.tmp 36) (Go.Operand.tmp 34), type := 0, pos := "l03_bag.go:224", after := #[{ on := 6, ground := Go.Ground.data }, { on := 4, ground := Go.Ground.data }, { on := 4, ground := Go.Ground.chain }, { on := 0, ground := Go.Ground.phase }, { on := 1, ground := Go.Ground.phase }, { on := 2, ground := Go.Ground.phase }, { on := 3, ground := Go.Ground.phase }, { on := 4, ground := Go.Ground.phase }], guard := none }) rfl (fun K hK => ?_) ?_
              · have hk2 := blk_own HO2.out
                have y0 := hk2.cell (i := 1) (by omega)
                have yf := hk2.frozen 1
                clear hk2
                go_simp
                refine hK.out _ _ trivial (fun hHeld => ?_)
                clear hK K
                try simp only [Act.put, List.setIfInBounds_toArray, List.set_cons_zero, List.set_cons_succ]
                refine wpAnyH_done (by kernel_rfl) ?_ _
                clear hHeld y0 yf u0 t0 t0a t0b t0c HC1
                go_upto_region 10 with fail
                obtain ⟨WF, HWF⟩ : ∃ WF, Hid (WF = w2.setCell ⟨g, 1, none⟩ (.int .i64 x)) := ⟨_, rfl⟩
                rw [← HWF.out]
                have HBS : Hid (BS w WF p n cap ao B P (some ⟨g, 0, none⟩) (m) c (L.set 0 ((at' L 0).1, x))) := by rw [HWF.out]; exact bs_time HKP2.out HCU2.out HR2.out HX2.out HO2.out HRW2.out HLN.out hm7 HRL.out (by omega) ⟨hpw, HB.out, hBP, hBM, hpM⟩ (by have := HVP.out g rfl; omega)
                clear HWF
                have d0 := HBS.out.box.cell
                have r0 := HBS.out.res.cell
                have rf0 := HBS.out.res.frozen
                go_wp2
                refine bodyPost_ret (v := .agg #[.slice (some ⟨g, 0, none⟩) (m) c]) (by simp [results, Try.results62, go_sem, r0]) rfl ?_
                exact ⟨(some ⟨g, 0, none⟩), m, c, L.set 0 ((at' L 0).1, x), rfl, HBS.out.len, HBS.out.fin.1, HBS.out.fin.2.1, HBS.out.fin.2.2⟩
              exact AllReadyH.nil
            exact AllReadyH.nil
          exact AllReadyH.nil
        refine AllReadyH.cons (o := { dst := some 33, op := Go.Op.buildSlice 39 4 #[(0, Go.Operand.const (Go.Value.int Go.IntKind.i64 0)), (1, Go.Operand.const (Go.Value.int Go.IntKind.i64 1)), (2, Go.Operand.const (Go.Value.int Go.IntKind.i64 1000000)), (3, Go.Operand.const (Go.Value.int Go.IntKind.i64 1000001))], type := 39, pos := "l03_bag.go:224", after := #[], guard := none }) rfl (fun K hK => ?_) ?_
        · go_simp
          refine hK.out _ _ trivial (fun hHeld => ?_)
          clear hK K
          try simp only [Act.put, List.setIfInBounds_toArray, List.set_cons_zero, List.set_cons_succ]
          refine wpAnyH_ready (rs := [1, 4]) (by kernel_rfl) (by simp) ?_
          refine AllReadyH.cons (o := { dst := some 31, op := Go.Op.load 24 (Go.Operand.tmp 30), type := 24, pos := "l03_bag.go:224", after := #[{ on := 0, ground := Go.Ground.data }], guard := none }) rfl (fun K hK => ?_) ?_
          · go_simp
            refine hK.out _ _ trivial (fun hHeld => ?_)
            clear hK K
            try simp only [Act.put, List.setIfInBounds_toArray, List.set_cons_zero, List.set_cons_succ]
            refine wpAnyH_ready (rs := [4]) (by kernel_rfl) (by simp) ?_
            refine AllReadyH.cons (o := { dst := some 34, op := Go.Op.call { callee := Go.Callee.value (Go.Operand.func 98), args := #[Go.Operand.tmp 32, Go.Operand.tmp 33], argTypes := #[83, 39] }, type := 3, pos := "l03_bag.go:224", after := #[{ on := 2, ground := Go.Ground.data }, { on := 3, ground := Go.Ground.data }], guard := none }) rfl (fun K hK => ?_) ?_
            · go_simp
              go_wp2_with (go_at_call 98; refine (HC1.out).mono ?_; rintro e w2 ⟨x, rfl, HCU2, HK2⟩)
              have HKP2 : Hid (KeptBut p w w2) := HKW.out.trans HK2.out
              have HX2 : Hid (One w2 P (.slice (some ⟨g, 0, none⟩) m c)) := HBX.out.keptBut HK2.out hPp
              have HR2 : Hid (One w2 B (.slice none 0 0)) := HRS.out.keptBut HK2.out hBp
              have HO2 : Hid (w2.ownsRow M 77 2 (.slice (some ⟨g, 0, none⟩) m c) m ((List.range (m * 2)).map f)) := HK2.out.owns HOW.out hpM
              have HRW2 : Hid (Rws M w2 (.slice (some ⟨g, 0, none⟩) m c) L f R C) := HRW.out.keptBut HK2.out hpM
              have hM2 : M ≤ w2.heap.size := Nat.le_trans hMW HK2.out.size
              clear HK2
              have u0 := HX2.out.cell
              refine hK.out _ _ trivial (fun hHeld => ?_)
              clear hK K
              try simp only [Act.put, List.setIfInBounds_toArray, List.set_cons_zero, List.set_cons_succ]
              refine wpAnyH_take (i := 5) (oi := { dst := some 35, op := Go.Op.indexAddr 24 (Go.Operand.tmp 31) (Go.Operand.const (Go.Value.int Go.IntKind.i64 0)), type := 0, pos := "l03_bag.go:224", after := #[{ on := 1, ground := Go.Ground.data }, { on := 0, ground := Go.Ground.phase }, { on := 1, ground := Go.Ground.phase }, { on := 2, ground := Go.Ground.phase }, { on := 3, ground := Go.Ground.phase }, { on := 4, ground := Go.Ground.phase }], guard := none }) (v := ?_) rfl (by kernel_rfl) (by kernel_rfl) (by kernel_rfl) (fun _ _ _ h => h) (Or.inl ⟨by kernel_rfl, ?_⟩) (by assumption) ?_
              rotate_left
              · intro w hSw; (try dsimp only at hSw); go_simp; try with_reducible rfl
              simp only [Act.put, List.setIfInBounds_toArray, List.set_cons_zero, List.set_cons_succ]
              refine wpAnyH_take (i := 6) (oi := { dst := some 36, op := Go.Op.fieldAddr 77 (Go.Operand.tmp 35) 1, type := 0, pos := "l03_bag.go:224", after := #[{ on := 5, ground := Go.Ground.data }, { on := 0, ground := Go.Ground.phase }, { on := 1, ground := Go.Ground.phase }, { on := 2, ground := Go.Ground.phase }, { on := 3, ground := Go.Ground.phase }, { on := 4, ground := Go.Ground.phase }], guard := none }) (v := ?_) rfl (by kernel_rfl) (by kernel_rfl) (by kernel_rfl) (fun _ _ _ h => h) (Or.inl ⟨by kernel_rfl, ?_⟩) (by assumption) ?_
              rotate_left
              · intro w hSw; (try dsimp only at hSw); go_simp; try with_reducible rfl
              simp only [Act.put, List.setIfInBounds_toArray, List.set_cons_zero, List.set_cons_succ]
              refine wpAnyH_ready (rs := [7]) (by kernel_rfl) (by simp) ?_
              refine AllReadyH.cons (o := { dst := none, op := Go.Op.store 3 (Go.Operand.tmp 36) (Go.Operand.tmp 34), type := 0, pos := "l03_bag.go:224", after := #[{ on := 6, ground := Go.Ground.data }, { on := 4, ground := Go.Ground.data }, { on := 4, ground := Go.Ground.chain }, { on := 0, ground := Go.Ground.phase }, { on := 1, ground := Go.Ground.phase }, { on := 2, ground := Go.Ground.phase }, { on := 3, ground := Go.Ground.phase }, { on := 4, ground := Go.Ground.phase }], guard := none }) rfl (fun K hK => ?_) ?_
              · have hk2 := blk_own HO2.out
                have y0 := hk2.cell (i := 1) (by omega)
                have yf := hk2.frozen 1
                clear hk2
                go_simp
                refine hK.out _ _ trivial (fun hHeld => ?_)
                clear hK K
                try simp only [Act.put, List.setIfInBounds_toArray, List.set_cons_zero, List.set_cons_succ]
                refine wpAnyH_done (by kernel_rfl) ?_ _
                clear hHeld y0 yf u0 t0 t0a t0b t0c HC1
                go_upto_region 10 with fail
                obtain ⟨WF, HWF⟩ : ∃ WF, Hid (WF = w2.setCell ⟨g, 1, none⟩ (.int .i64 x)) := ⟨_, rfl⟩
                rw [← HWF.out]
                have HBS : Hid (BS w WF p n cap ao B P (some ⟨g, 0, none⟩) (m) c (L.set 0 ((at' L 0).1, x))) := by rw [HWF.out]; exact bs_time HKP2.out HCU2.out HR2.out HX2.out HO2.out HRW2.out HLN.out hm7 HRL.out (by omega) ⟨hpw, HB.out, hBP, hBM, hpM⟩ (by have := HVP.out g rfl; omega)
                clear HWF
                have d0 := HBS.out.box.cell
                have r0 := HBS.out.res.cell
                have rf0 := HBS.out.res.frozen
                go_wp2
                refine bodyPost_ret (v := .agg #[.slice (some ⟨g, 0, none⟩) (m) c]) (by simp [results, Try.results62, go_sem, r0]) rfl ?_
                exact ⟨(some ⟨g, 0, none⟩), m, c, L.set 0 ((at' L 0).1, x), rfl, HBS.out.len, HBS.out.fin.1, HBS.out.fin.2.1, HBS.out.fin.2.2⟩
              exact AllReadyH.nil
            exact AllReadyH.nil
          refine AllReadyH.cons (o := { dst := some 34, op := Go.Op.call { callee := Go.Callee.value (Go.Operand.func 98), args := #[Go.Operand.tmp 32, Go.Operand.tmp 33], argTypes := #[83, 39] }, type := 3, pos := "l03_bag.go:224", after := #[{ on := 2, ground := Go.Ground.data }, { on := 3, ground := Go.Ground.data }], guard := none }) rfl (fun K hK => ?_) ?_
          · go_simp
            go_wp2_with (go_at_call 98; refine (HC1.out).mono ?_; rintro e w2 ⟨x, rfl, HCU2, HK2⟩)
            have HKP2 : Hid (KeptBut p w w2) := HKW.out.trans HK2.out
            have HX2 : Hid (One w2 P (.slice (some ⟨g, 0, none⟩) m c)) := HBX.out.keptBut HK2.out hPp
            have HR2 : Hid (One w2 B (.slice none 0 0)) := HRS.out.keptBut HK2.out hBp
            have HO2 : Hid (w2.ownsRow M 77 2 (.slice (some ⟨g, 0, none⟩) m c) m ((List.range (m * 2)).map f)) := HK2.out.owns HOW.out hpM
            have HRW2 : Hid (Rws M w2 (.slice (some ⟨g, 0, none⟩) m c) L f R C) := HRW.out.keptBut HK2.out hpM
            have hM2 : M ≤ w2.heap.size := Nat.le_trans hMW HK2.out.size
            clear HK2
            have u0 := HX2.out.cell
            refine hK.out _ _ trivial (fun hHeld => ?_)
            clear hK K
            try simp only [Act.put, List.setIfInBounds_toArray, List.set_cons_zero, List.set_cons_succ]
            refine wpAnyH_ready (rs := [1]) (by kernel_rfl) (by simp) ?_
            refine AllReadyH.cons (o := { dst := some 31, op := Go.Op.load 24 (Go.Operand.tmp 30), type := 24, pos := "l03_bag.go:224", after := #[{ on := 0, ground := Go.Ground.data }], guard := none }) rfl (fun K hK => ?_) ?_
            · go_simp
              refine hK.out _ _ trivial (fun hHeld => ?_)
              clear hK K
              try simp only [Act.put, List.setIfInBounds_toArray, List.set_cons_zero, List.set_cons_succ]
              refine wpAnyH_take (i := 5) (oi := { dst := some 35, op := Go.Op.indexAddr 24 (Go.Operand.tmp 31) (Go.Operand.const (Go.Value.int Go.IntKind.i64 0)), type := 0, pos := "l03_bag.go:224", after := #[{ on := 1, ground := Go.Ground.data }, { on := 0, ground := Go.Ground.phase }, { on := 1, ground := Go.Ground.phase }, { on := 2, ground := Go.Ground.phase }, { on := 3, ground := Go.Ground.phase }, { on := 4, ground := Go.Ground.phase }], guard := none }) (v := ?_) rfl (by kernel_rfl) (by kernel_rfl) (by kernel_rfl) (fun _ _ _ h => h) (Or.inl ⟨by kernel_rfl, ?_⟩) (by assumption) ?_
              rotate_left
              · intro w hSw; (try dsimp only at hSw); go_simp; try with_reducible rfl
              simp only [Act.put, List.setIfInBounds_toArray, List.set_cons_zero, List.set_cons_succ]
              refine wpAnyH_take (i := 6) (oi := { dst := some 36, op := Go.Op.fieldAddr 77 (Go.Operand.tmp 35) 1, type := 0, pos := "l03_bag.go:224", after := #[{ on := 5, ground := Go.Ground.data }, { on := 0, ground := Go.Ground.phase }, { on := 1, ground := Go.Ground.phase }, { on := 2, ground := Go.Ground.phase }, { on := 3, ground := Go.Ground.phase }, { on := 4, ground := Go.Ground.phase }], guard := none }) (v := ?_) rfl (by kernel_rfl) (by kernel_rfl) (by kernel_rfl) (fun _ _ _ h => h) (Or.inl ⟨by kernel_rfl, ?_⟩) (by assumption) ?_
              rotate_left
              · intro w hSw; (try dsimp only at hSw); go_simp; try with_reducible rfl
              simp only [Act.put, List.setIfInBounds_toArray, List.set_cons_zero, List.set_cons_succ]
              refine wpAnyH_ready (rs := [7]) (by kernel_rfl) (by simp) ?_
              refine AllReadyH.cons (o := { dst := none, op := Go.Op.store 3 (Go.Operand.tmp 36) (Go.Operand.tmp 34), type := 0, pos := "l03_bag.go:224", after := #[{ on := 6, ground := Go.Ground.data }, { on := 4, ground := Go.Ground.data }, { on := 4, ground := Go.Ground.chain }, { on := 0, ground := Go.Ground.phase }, { on := 1, ground := Go.Ground.phase }, { on := 2, ground := Go.Ground.phase }, { on := 3, ground := Go.Ground.phase }, { on := 4, ground := Go.Ground.phase }], guard := none }) rfl (fun K hK => ?_) ?_
              · have hk2 := blk_own HO2.out
                have y0 := hk2.cell (i := 1) (by omega)
                have yf := hk2.frozen 1
                clear hk2
                go_simp
                refine hK.out _ _ trivial (fun hHeld => ?_)
                clear hK K
                try simp only [Act.put, List.setIfInBounds_toArray, List.set_cons_zero, List.set_cons_succ]
                refine wpAnyH_done (by kernel_rfl) ?_ _
                clear hHeld y0 yf u0 t0 t0a t0b t0c HC1
                go_upto_region 10 with fail
                obtain ⟨WF, HWF⟩ : ∃ WF, Hid (WF = w2.setCell ⟨g, 1, none⟩ (.int .i64 x)) := ⟨_, rfl⟩
                rw [← HWF.out]
                have HBS : Hid (BS w WF p n cap ao B P (some ⟨g, 0, none⟩) (m) c (L.set 0 ((at' L 0).1, x))) := by rw [HWF.out]; exact bs_time HKP2.out HCU2.out HR2.out HX2.out HO2.out HRW2.out HLN.out hm7 HRL.out (by omega) ⟨hpw, HB.out, hBP, hBM, hpM⟩ (by have := HVP.out g rfl; omega)
                clear HWF
                have d0 := HBS.out.box.cell
                have r0 := HBS.out.res.cell
                have rf0 := HBS.out.res.frozen
                go_wp2
                refine bodyPost_ret (v := .agg #[.slice (some ⟨g, 0, none⟩) (m) c]) (by simp [results, Try.results62, go_sem, r0]) rfl ?_
                exact ⟨(some ⟨g, 0, none⟩), m, c, L.set 0 ((at' L 0).1, x), rfl, HBS.out.len, HBS.out.fin.1, HBS.out.fin.2.1, HBS.out.fin.2.2⟩
              exact AllReadyH.nil
            exact AllReadyH.nil
          exact AllReadyH.nil
        exact AllReadyH.nil

      · have hgt : ¬ (0 : Int) < (m : Int) := by omega
        go_upto_region 10 with fail
        obtain ⟨WF, HWF⟩ : ∃ WF, Hid (WF = W) := ⟨_, rfl⟩
        rw [← HWF.out]
        have HBS : Hid (BS w WF p n cap ao B P a (m) c (L)) := by rw [HWF.out]; exact HSM.out
        clear HWF
        have d0 := HBS.out.box.cell
        have r0 := HBS.out.res.cell
        have rf0 := HBS.out.res.frozen
        go_wp2
        refine bodyPost_ret (v := .agg #[.slice a (m) c]) (by simp [results, Try.results62, go_sem, r0]) rfl ?_
        exact ⟨a, m, c, L, rfl, HBS.out.len, HBS.out.fin.1, HBS.out.fin.2.1, HBS.out.fin.2.2⟩
    · have hd1 : (y == 1) = false := by simpa using e1
      have hd1' : decide (y = 1) = false := decide_eq_false e1
      by_cases e2 : y = 2
      · subst e2
        go_wp2_with (at_builtin; refine wpList_append_row _ rfl (.tmp 40) (.tmp 42) 24 rfl M 77 i1 _ 2 32 Try.underlying24 hj0 hy0 hy1 hy2 rfl (by decide) (.slice a m c) m ((List.range (m * 2)).map f) rfl HOW.out a m c ((List.range (m * 2)).map f) rfl (own_none HOW.out) (by simp) (own_cells HOW.out) (own_one HRW.out HLN.out) (by unfold maxLen; omega) (by omega) hMW ?_)
        intro v5 w5 hown5 hgrow5
        obtain ⟨a5, c5, hv5, hb5⟩ := bag_twice HRW.out HLN.out hown5 hgrow5
        subst hv5
        have HB5 : Hid (BagIn B w5.heap.size w5 a5 (L ++ L)) := bagIn_wide hb5 (by omega) (Nat.le_refl _)
        have HBL : Hid (Below M W w5) := grown_below hgrow5 HOW.out hMW
        have HX5 : Hid (One w5 P (.slice a m c)) := HBX.out.block (hgrow5.block P HBX.out.lt (fun e => by have := HVP.out P e.symm; omega))
        have HR5 : Hid (One w5 B (.slice none 0 0)) := HRS.out.below HBL.out hBM
        have HC5 : Hid (CurL p ao n cap w5) := HCU.out.below HBL.out hpM
        have HK5 : Hid (KeptBut p w w5) := HKW.out.low HBL.out (by have := HB.out; omega)
        clear hown5 hgrow5 hb5 t0
        have y0 := HX5.out.cell
        have yf := HX5.out.frozen
        go_upto_region 10 with fail
        clear y0 yf
        obtain ⟨WF, HWF⟩ : ∃ WF, Hid (WF = w5.setCell ⟨P, 0, none⟩ (.slice a5 (m + m) c5)) := ⟨_, rfl⟩
        rw [← HWF.out]
        have HBS : Hid (BS w WF p n cap ao B P a5 (m + m) c5 (L ++ L)) := by rw [HWF.out]; exact BS.put HK5.out HC5.out HR5.out HX5.out HB5.out (lens_twice HLN.out hm7 HRL.out) ⟨hpw, HB.out, hBP⟩
        clear HWF
        have d0 := HBS.out.box.cell
        have r0 := HBS.out.res.cell
        have rf0 := HBS.out.res.frozen
        go_wp2
        refine bodyPost_ret (v := .agg #[.slice a5 (m + m) c5]) (by simp [results, Try.results62, go_sem, r0]) rfl ?_
        exact ⟨a5, m + m, c5, L ++ L, rfl, HBS.out.len, HBS.out.fin.1, HBS.out.fin.2.1, HBS.out.fin.2.2⟩
      · have hd2 : (y == 2) = false := by simpa using e2
        have hd2' : decide (y = 2) = false := decide_eq_false e2
        go_upto_region 10 with fail
        obtain ⟨WF, HWF⟩ : ∃ WF, Hid (WF = W) := ⟨_, rfl⟩
        rw [← HWF.out]
        have HBS : Hid (BS w WF p n cap ao B P a (m) c (L)) := by rw [HWF.out]; exact HSM.out
        clear HWF
        have d0 := HBS.out.box.cell
        have r0 := HBS.out.res.cell
        have rf0 := HBS.out.res.frozen
        go_wp2
        refine bodyPost_ret (v := .agg #[.slice a (m) c]) (by simp [results, Try.results62, go_sem, r0]) rfl ?_
        exact ⟨a, m, c, L, rfl, HBS.out.len, HBS.out.fin.1, HBS.out.fin.2.1, HBS.out.fin.2.2⟩
end Go.Proofs.Ytelikebpddhncaa
