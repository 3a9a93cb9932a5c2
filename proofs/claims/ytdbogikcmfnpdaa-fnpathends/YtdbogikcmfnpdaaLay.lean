/-
  A list of pieces that a call lays one behind the other: all that it has in use is its own.
-/
import Derived.Test.YtdbogikcmfnpdaaPtC
import Derived.Test.YtdbogikcmfnpdaaNxS
namespace Go.Proofs.Ytdbogikcmfnpdaa
open Go.RowKit

/-- pieces that are laid: the list's own block and the kids' blocks are in use (U), all apart -/
def LaidO (B : Nat) (w : World) (v : Value) (l : List Pc) (U : Nat → Prop) : Prop :=
  ∃ (f : Nat → Value) (R : Nat → Option Addr) (C : Nat → Nat), w.ownsRow B 112 3 v l.length ((List.range (l.length * 3)).map f) ∧
    (∀ c, v.ownBlock = some c → U c) ∧ (∀ c, U c → B ≤ c ∧ c < w.heap.size) ∧
    ∀ i, i < l.length → (f (i * 3) = .int .i64 (pat l i).1 ∧ f (i * 3 + 1) = .int .u8 (pat l i).2.1 ∧ f (i * 3 + 2) = .slice (R i) (pat l i).2.2.length (C i)) ∧ RowOwn B w.heap.size w (R i) (pat l i).2.2 ∧
      ((pat l i).2.2 ≠ [] → (∀ c, R i = some ⟨c, 0, none⟩ → U c ∧ v.ownBlock ≠ some c) ∧ ∀ j, j < i → (pat l j).2.2 ≠ [] → R j ≠ R i)

theorem LaidO.nil (B : Nat) (w : World) : LaidO B w (.slice none 0 0) [] (fun _ => False) :=
  ⟨fun _ => .int .i64 0, fun _ => none, fun _ => 0, by simpa using World.ownsRow_nil w B 112 3, fun c h => by simp [Value.ownBlock] at h, fun c h => h.elim, fun i hi => absurd hi (by simp)⟩
theorem LaidO.lt {B : Nat} {w : World} {v : Value} {l : List Pc} {U : Nat → Prop} (h : LaidO B w v l U) {c : Nat} (hc : U c) : B ≤ c ∧ c < w.heap.size := by
  obtain ⟨_, _, _, _, _, h3, _⟩ := h; exact h3 c hc
theorem LaidO.blk {B : Nat} {w : World} {v : Value} {l : List Pc} {U : Nat → Prop} (h : LaidO B w v l U) {c : Nat} (hc : v.ownBlock = some c) : U c := by
  obtain ⟨_, _, _, _, h2, _, _⟩ := h; exact h2 c hc
theorem LaidO.kept {B : Nat} {w w' : World} {v : Value} {l : List Pc} {U : Nat → Prop} {p : Nat → Prop} (h : LaidO B w v l U) (hb : KeptP p w w') (hp : ∀ c, U c → ¬ p c) : LaidO B w' v l U := by
  obtain ⟨f, R, C, h1, h2, h3, h4⟩ := h
  refine ⟨f, R, C, ?_, h2, fun c hc => ⟨(h3 c hc).1, Nat.lt_of_lt_of_le (h3 c hc).2 hb.size⟩, fun i hi => ⟨(h4 i hi).1, ?_, (h4 i hi).2.2⟩⟩
  · refine ⟨h1.1, ?_⟩
    rcases h1.2 with h5 | ⟨g, cap, cur, e, h5, h6, h7⟩
    · exact .inl h5
    · have hg : U g := h2 g (by rw [e]; rfl)
      exact .inr ⟨g, cap, cur, e, h5, by rw [hb.block g (h3 g hg).2 (hp g hg)]; exact h6, h7⟩
  · by_cases h0 : (pat l i).2.2 = []
    · exact .inl h0
    · rcases (h4 i hi).2.1 with h5 | ⟨g, e, h5, h6, h7⟩
      · exact absurd h5 h0
      · have hg : U g := (((h4 i hi).2.2 h0).1 g e).1
        exact .inr ⟨g, e, h5, Nat.lt_of_lt_of_le h6 hb.size, h7.of_block (hb.block g (h3 g hg).2 (hp g hg))⟩
theorem LaidO.below {B : Nat} {w w' : World} {v : Value} {l : List Pc} {U : Nat → Prop} (h : LaidO B w v l U) (hb : Below w.heap.size w w') : LaidO B w' v l U :=
  h.kept (p := fun _ => False) (KeptP.of_below hb (fun _ hk _ => hk)) (fun _ _ h => h)
theorem LaidO.toOwn {B : Nat} {w : World} {v : Value} {l : List Pc} {U : Nat → Prop} (h : LaidO B w v l U) : ∃ a cap, v = .slice a l.length cap ∧ PathOwn B w.heap.size w a l := by
  obtain ⟨f, R, C, h1, h2, h3, h4⟩ := h
  rcases h1.2 with ⟨rfl, h0⟩ | ⟨g, cap, cur, rfl, hg, hb, _⟩
  · exact ⟨none, 0, by rw [h0], .inl (List.length_eq_zero_iff.1 h0)⟩
  · refine ⟨_, cap, rfl, .inr ⟨g, rfl, hg, (Array.getElem?_eq_some_iff.1 hb).1, f, R, C, (blk_own h1).congr (fun i hi => by simp [List.getD, hi]), fun i hi => ?_⟩⟩
    obtain ⟨⟨e0, e1, e2⟩, e3, e4⟩ := h4 i hi
    refine ⟨e0, e1, e2, e3, fun hne => ⟨fun c hc e => ?_, (e4 hne).2⟩⟩
    exact ((e4 hne).1 c hc).2 (by rw [e]; rfl)
theorem pat_app {l : List Pc} {x : Pc} {i : Nat} (h : i < l.length) : pat (l ++ [x]) i = pat l i := by simp [pat, List.getD, List.getElem?_append_left h]
theorem pat_last (l : List Pc) (x : Pc) : pat (l ++ [x]) l.length = x := by simp [pat, List.getD]

/-- one piece more behind what lies there -/
theorem LaidO.snoc {B g cap : Nat} {w w1 : World} {v : Value} {l : List Pc} {U : Nat → Prop} {x : Pc} {f : Nat → Value} {R : Nat → Option Addr} {C : Nat → Nat} {ra : Option Addr} {rc : Nat}
    (h2 : ∀ c, v.ownBlock = some c → U c) (h3 : ∀ c, U c → B ≤ c ∧ c < w.heap.size)
    (h4 : ∀ i, i < l.length → (f (i * 3) = .int .i64 (pat l i).1 ∧ f (i * 3 + 1) = .int .u8 (pat l i).2.1 ∧ f (i * 3 + 2) = .slice (R i) (pat l i).2.2.length (C i)) ∧ RowOwn B w.heap.size w (R i) (pat l i).2.2 ∧
      ((pat l i).2.2 ≠ [] → (∀ c, R i = some ⟨c, 0, none⟩ → U c ∧ v.ownBlock ≠ some c) ∧ ∀ j, j < i → (pat l j).2.2 ≠ [] → R j ≠ R i))
    (hr : RowOwn B w.heap.size w ra x.2.2) (hra : x.2.2 ≠ [] → ∀ c, ra = some ⟨c, 0, none⟩ → ¬ U c) (hg : w.grownBy w1 v.ownBlock) (hloc : v.ownBlock = some g ∨ w.heap.size ≤ g) (hgl : g < w1.heap.size) (hBg : B ≤ g)
    (ho : w1.ownsRow B 112 3 (.slice (some ⟨g, 0, none⟩) (l.length + 1) cap) (l.length + 1) ((List.range (l.length * 3)).map f ++ [.int .i64 x.1, .int .u8 x.2.1, .slice ra x.2.2.length rc])) :
    LaidO B w1 (.slice (some ⟨g, 0, none⟩) (l.length + 1) cap) (l ++ [x]) (fun c => U c ∨ c = g ∨ (x.2.2 ≠ [] ∧ ra = some ⟨c, 0, none⟩)) := by
  have keep : ∀ {a : Option Addr} {r : List Int}, RowOwn B w.heap.size w a r → (r ≠ [] → ∀ c, a = some ⟨c, 0, none⟩ → v.ownBlock ≠ some c) → RowOwn B w1.heap.size w1 a r := by
    intro a r ha hne
    by_cases h0 : r = []
    · exact .inl h0
    · rcases ha with h | ⟨c, e, h5, h6, h7⟩
      · exact absurd h h0
      · exact .inr ⟨c, e, h5, Nat.lt_of_lt_of_le h6 hg.size, h7.of_block (hg.block c h6 (fun e2 => hne h0 c e e2.symm))⟩
  have hlt : ∀ {a : Option Addr} {r : List Int}, RowOwn B w.heap.size w a r → r ≠ [] → ∀ c, a = some ⟨c, 0, none⟩ → c < w.heap.size := by
    intro a r ha hne c hc
    rcases ha with h | ⟨c', e, _, h6, _⟩
    · exact absurd h hne
    · rw [hc] at e; simp at e; omega
  have hoff : ∀ c, c < w.heap.size → v.ownBlock ≠ some c → (Value.slice (some ⟨g, 0, none⟩) (l.length + 1) cap).ownBlock ≠ some c := by
    intro c hc hne e
    have e2 : g = c := by simpa [Value.ownBlock] using e
    subst e2
    rcases hloc with h | h
    · exact hne h
    · omega
  refine ⟨fun j => if j < l.length * 3 then f j else if j = l.length * 3 then .int .i64 x.1 else if j = l.length * 3 + 1 then .int .u8 x.2.1 else .slice ra x.2.2.length rc, fun i => if i < l.length then R i else ra, fun i => if i < l.length then C i else rc, ?_, ?_, ?_, fun i hi => ?_⟩
  · rw [List.length_append, List.length_singleton]
    have e2 : (List.range ((l.length + 1) * 3)).map (fun j => if j < l.length * 3 then f j else if j = l.length * 3 then Value.int .i64 x.1 else if j = l.length * 3 + 1 then .int .u8 x.2.1 else .slice ra x.2.2.length rc) = (List.range (l.length * 3)).map f ++ [.int .i64 x.1, .int .u8 x.2.1, .slice ra x.2.2.length rc] := by
      rw [show (l.length + 1) * 3 = l.length * 3 + 1 + 1 + 1 by omega, List.range_succ, List.range_succ, List.range_succ]
      simp only [List.map_append, List.append_assoc]
      congr 1
      · exact List.map_congr_left fun j hj => by simp [List.mem_range.1 hj]
      · have n1 : ¬ l.length * 3 < l.length * 3 := by omega
        have n2 : ¬ l.length * 3 + 1 < l.length * 3 := by omega
        have n3 : ¬ l.length * 3 + 1 + 1 < l.length * 3 := by omega
        have n4 : ¬ l.length * 3 + 1 = l.length * 3 := by omega
        have n5 : ¬ l.length * 3 + 1 + 1 = l.length * 3 := by omega
        have n6 : ¬ l.length * 3 + 1 + 1 = l.length * 3 + 1 := by omega
        simp only [List.map_cons, List.map_nil, List.cons_append, List.nil_append, n1, n2, n3, n4, n5, n6, if_false, if_true]
    rw [e2]; exact ho
  · intro c hc
    right; left
    have : g = c := by simpa [Value.ownBlock] using hc
    exact this.symm
  · intro c hc
    rcases hc with hc | rfl | ⟨hne, hc⟩
    · exact ⟨(h3 c hc).1, Nat.lt_of_lt_of_le (h3 c hc).2 hg.size⟩
    · exact ⟨hBg, hgl⟩
    · rcases hr with h | ⟨c', e, h5, h6, _⟩
      · exact absurd h hne
      · rw [hc] at e; simp at e; subst e; exact ⟨h5, Nat.lt_of_lt_of_le h6 hg.size⟩
  · rw [List.length_append, List.length_singleton] at hi
    rcases Nat.lt_or_ge i l.length with h | h
    · rw [pat_app h]
      obtain ⟨⟨e0, e1, e2⟩, e3, e4⟩ := h4 i h
      simp only [h, if_true]
      refine ⟨⟨by rw [if_pos (by omega)]; exact e0, by rw [if_pos (by omega)]; exact e1, by rw [if_pos (by omega)]; exact e2⟩, keep e3 (fun hne c hc => ((e4 hne).1 c hc).2), fun hne => ⟨fun c hc => ⟨.inl ((e4 hne).1 c hc).1, hoff c (hlt e3 hne c hc) ((e4 hne).1 c hc).2⟩, fun j hj hnj => ?_⟩⟩
      have hjl : j < l.length := by omega
      rw [pat_app hjl] at hnj
      simp only [hjl, if_true]
      exact (e4 hne).2 j hj hnj
    · obtain rfl : i = l.length := by omega
      rw [pat_last]
      simp only [Nat.lt_irrefl, if_false]
      have hvo : x.2.2 ≠ [] → ∀ c, ra = some ⟨c, 0, none⟩ → v.ownBlock ≠ some c := fun hne c hc e => hra hne c hc (h2 c e)
      have n2 : ¬ l.length * 3 + 1 < l.length * 3 := by omega
      have n3 : ¬ l.length * 3 + 2 < l.length * 3 := by omega
      refine ⟨⟨by simp, by simp [n2], by simp [n3]⟩, keep hr hvo, fun hne => ⟨fun c hc => ⟨.inr (.inr ⟨hne, hc⟩), hoff c (hlt hr hne c hc) (hvo hne c hc)⟩, fun j hj hnj => ?_⟩⟩
      rw [pat_app hj] at hnj
      simp only [hj, if_true]
      intro e
      obtain ⟨_, e3, e4⟩ := h4 j hj
      rcases e3 with h5 | ⟨c, ec, _, _, _⟩
      · exact hnj h5
      · exact hra hne c (by rw [← e]; exact ec) (((e4 hnj).1 c ec).1)
theorem LaidO.mono {B : Nat} {w : World} {v : Value} {l : List Pc} {U : Nat → Prop} (h : LaidO B w v l U) {B' : Nat} (hB : B' ≤ B) : LaidO B' w v l U := by
  obtain ⟨f, R, C, h1, h2, h3, h4⟩ := h
  refine ⟨f, R, C, ⟨h1.1, ?_⟩, h2, fun c hc => ⟨by have := (h3 c hc).1; omega, (h3 c hc).2⟩, fun i hi => ⟨(h4 i hi).1, (h4 i hi).2.1.wide hB (Nat.le_refl _), (h4 i hi).2.2⟩⟩
  rcases h1.2 with h5 | ⟨g, cap, cur, e, h5, h6⟩
  · exact .inl h5
  · exact .inr ⟨g, cap, cur, e, by omega, h6⟩
/-- the cells of a piece are one cell each -/
theorem news_pc (w2 : World) (x y z : Value) (T : TypeId) : ∀ j u, [x, y, z][j]? = some u → (w2.alloc (.cells #[x, y, z] T)).cell? ((⟨w2.heap.size, 0, none⟩ : Addr).add j) = some u := by
  intro j u hu
  obtain ⟨c0, c1, c2⟩ := box_cells w2 x y z T _ rfl
  rw [add_none, Nat.zero_add]
  match j, hu with
  | 0, hu => simp at hu; subst hu; exact c0
  | 1, hu => simp at hu; subst hu; exact c1
  | 2, hu => simp at hu; subst hu; exact c2
end Go.Proofs.Ytdbogikcmfnpdaa
