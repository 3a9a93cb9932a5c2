/-
  Lists of edges: how one lies in the world, one that is owned; toEdge, toEdgeS, toGraph, szGraph.
-/
import Derived.Test.YtkcflhlipdnbnaaEdA
import Derived.Laws.MakeOwn
namespace Go.Proofs.Ytkcflhlipdnbnaa
open Go.RowKit

def eat (l : List Ed) (i : Nat) : Ed := l.getD i (0, 0, 0)
/-- the cells of a list of edges -/
def ef (l : List Ed) (j : Nat) : Value := if j % 3 = 0 then .int .i64 (eat l (j / 3)).1 else if j % 3 = 1 then .int .u8 (eat l (j / 3)).2.1 else .int .i64 (eat l (j / 3)).2.2
theorem ef0 (l : List Ed) (i : Nat) : ef l (i * 3) = .int .i64 (eat l i).1 := by unfold ef; rw [if_pos (by omega), show i * 3 / 3 = i by omega]
theorem ef1 (l : List Ed) (i : Nat) : ef l (i * 3 + 1) = .int .u8 (eat l i).2.1 := by unfold ef; rw [if_neg (by omega), if_pos (by omega), show (i * 3 + 1) / 3 = i by omega]
theorem ef2 (l : List Ed) (i : Nat) : ef l (i * 3 + 2) = .int .i64 (eat l i).2.2 := by unfold ef; rw [if_neg (by omega), if_neg (by omega), show (i * 3 + 2) / 3 = i by omega]
theorem eat_get {l : List Ed} {i : Nat} (h : i < l.length) : eat l i = l[i] := by simp [eat, List.getD, h]
theorem eat_ext {l l' : List Ed} (h1 : l.length = l'.length) (h : ∀ i, i < l.length → eat l i = eat l' i) : l = l' := by
  apply List.ext_getElem h1
  intro i hi hi'
  have := h i hi
  rwa [eat_get hi, eat_get hi'] at this
theorem eat_set {l : List Ed} {k i : Nat} (hk : k < l.length) (x : Ed) : eat (l.set k x) i = if i = k then x else eat l i := by
  unfold eat List.getD
  by_cases e : i = k
  · subst e; simp [hk]
  · simp [e, List.getElem?_set_ne (Ne.symm e)]

/-- an edge that lies at a place -/
def EdgeAt (w : World) (b o : Nat) (x : Ed) : Prop := w.cell? ⟨b, o, none⟩ = some (.int .i64 x.1) ∧ w.cell? ⟨b, o + 1, none⟩ = some (.int .u8 x.2.1) ∧ w.cell? ⟨b, o + 2, none⟩ = some (.int .i64 x.2.2)
/-- edges that are reached by a slice; their block is one of lo .. hi - 1 -/
def EdgesIn (lo hi : Nat) (w : World) (a : Option Addr) (l : List Ed) : Prop :=
  l = [] ∨ ∃ b o, a = some ⟨b, o, none⟩ ∧ lo ≤ b ∧ b < hi ∧ ∀ i, i < l.length → EdgeAt w b (o + i * 3) (eat l i)
/-- a block that holds edges -/
def EBlk (w : World) (b : Nat) (l : List Ed) : Prop := Blk w b (l.length * 3) (ef l)
/-- edges that are owned: their block is their own -/
def EdgesOwn (lo hi : Nat) (w : World) (a : Option Addr) (l : List Ed) : Prop :=
  l = [] ∨ ∃ b, a = some ⟨b, 0, none⟩ ∧ lo ≤ b ∧ b < hi ∧ EBlk w b l

theorem EdgeAt.below {w w' : World} {b o B : Nat} {x : Ed} (h : EdgeAt w b o x) (hb : Below B w w') (hl : b < B) : EdgeAt w' b o x :=
  ⟨cell_below h.1 hb hl, cell_below h.2.1 hb hl, cell_below h.2.2 hb hl⟩
theorem EdgesIn.below {lo hi B : Nat} {w w' : World} {a : Option Addr} {l : List Ed} (h : EdgesIn lo hi w a l) (hb : Below B w w') (hB : hi ≤ B) : EdgesIn lo hi w' a l := by
  rcases h with h | ⟨b, o, e, h1, h2, h3⟩
  · exact .inl h
  · exact .inr ⟨b, o, e, h1, h2, fun i hi => (h3 i hi).below hb (by omega)⟩
theorem EdgesIn.wide {lo hi lo' hi' : Nat} {w : World} {a : Option Addr} {l : List Ed} (h : EdgesIn lo hi w a l) (h1 : lo' ≤ lo) (h2 : hi ≤ hi') : EdgesIn lo' hi' w a l := by
  rcases h with h | ⟨b, o, e, h3, h4, h5⟩
  · exact .inl h
  · exact .inr ⟨b, o, e, by omega, by omega, h5⟩
theorem EdgesIn.kept {lo hi : Nat} {p : Nat → Prop} {w w' : World} {a : Option Addr} {l : List Ed} (h : EdgesIn lo hi w a l) (hk : KeptP p w w') (hh : hi ≤ w.heap.size) (hp : ∀ k, lo ≤ k → k < hi → ¬ p k) : EdgesIn lo hi w' a l := by
  rcases h with h | ⟨b, o, e, h1, h2, h3⟩
  · exact .inl h
  · refine .inr ⟨b, o, e, h1, h2, fun i hi => ?_⟩
    obtain ⟨c0, c1, c2⟩ := h3 i hi
    exact ⟨hk.cell c0 (by omega) (hp b h1 h2), hk.cell c1 (by omega) (hp b h1 h2), hk.cell c2 (by omega) (hp b h1 h2)⟩
theorem EdgesIn.edge {lo hi : Nat} {w : World} {a : Option Addr} {l : List Ed} (h : EdgesIn lo hi w a l) {k : Nat} (hk : k < l.length) : ∃ b o, a = some ⟨b, o, none⟩ ∧ lo ≤ b ∧ b < hi ∧ EdgeAt w b (o + k * 3) (eat l k) := by
  rcases h with rfl | ⟨b, o, e, h1, h2, h3⟩
  · simp at hk
  · exact ⟨b, o, e, h1, h2, h3 k hk⟩
theorem EBlk.edge {w : World} {b k : Nat} {l : List Ed} (h : EBlk w b l) (hk : k < l.length) : EdgeAt w b (k * 3) (eat l k) := by
  refine ⟨?_, ?_, ?_⟩
  · rw [Blk.cell h (by omega), ef0]
  · rw [Blk.cell h (by omega), ef1]
  · rw [Blk.cell h (by omega), ef2]
theorem EdgesOwn.toIn {lo hi : Nat} {w : World} {a : Option Addr} {l : List Ed} (h : EdgesOwn lo hi w a l) : EdgesIn lo hi w a l := by
  rcases h with h | ⟨b, e, h1, h2, h3⟩
  · exact .inl h
  · exact .inr ⟨b, 0, e, h1, h2, fun i hi => by rw [Nat.zero_add]; exact h3.edge hi⟩
theorem EdgesOwn.below {lo hi B : Nat} {w w' : World} {a : Option Addr} {l : List Ed} (h : EdgesOwn lo hi w a l) (hb : Below B w w') (hB : hi ≤ B) : EdgesOwn lo hi w' a l := by
  rcases h with h | ⟨b, e, h1, h2, h3⟩
  · exact .inl h
  · exact .inr ⟨b, e, h1, h2, Blk.of_block h3 (hb.block b (by omega))⟩
theorem EdgesOwn.wide {lo hi lo' hi' : Nat} {w : World} {a : Option Addr} {l : List Ed} (h : EdgesOwn lo hi w a l) (h1 : lo' ≤ lo) (h2 : hi ≤ hi') : EdgesOwn lo' hi' w a l := by
  rcases h with h | ⟨b, e, h3, h4, h5⟩
  · exact .inl h
  · exact .inr ⟨b, e, by omega, by omega, h5⟩
theorem EdgesOwn.kept {lo hi : Nat} {p : Nat → Prop} {w w' : World} {a : Option Addr} {l : List Ed} (h : EdgesOwn lo hi w a l) (hk : KeptP p w w') (hp : ∀ k, lo ≤ k → k < hi → ¬ p k) : EdgesOwn lo hi w' a l := by
  rcases h with h | ⟨b, e, h1, h2, h3⟩
  · exact .inl h
  · exact .inr ⟨b, e, h1, h2, hk.blk h3 (hp b h1 h2)⟩
theorem EdgesOwn.setCell {lo hi b j : Nat} {w : World} {a : Option Addr} {l : List Ed} (h : EdgesOwn lo hi w a l) (hb : b < lo) (v : Value) : EdgesOwn lo hi (w.setCell ⟨b, j, none⟩ v) a l := by
  rcases h with h | ⟨g, e, h1, h2, h3⟩
  · exact .inl h
  · exact .inr ⟨g, e, h1, h2, Blk.of_block h3 (Below.heap_setCell w ⟨b, j, none⟩ v g (by simp; omega))⟩

/-- one edge stored in its place -/
theorem EBlk.put {w : World} {b k : Nat} {l : List Ed} (h : EBlk w b l) (hk : k < l.length) (x : Ed) :
    EBlk (((w.setCell ⟨b, k * 3, none⟩ (.int .i64 x.1)).setCell ⟨b, k * 3 + 1, none⟩ (.int .u8 x.2.1)).setCell ⟨b, k * 3 + 2, none⟩ (.int .i64 x.2.2)) b (l.set k x) := by
  have h3 := ((Blk.set h (k * 3) (by omega) (.int .i64 x.1)).set (k * 3 + 1) (by omega) (.int .u8 x.2.1)).set (k * 3 + 2) (by omega) (.int .i64 x.2.2)
  unfold EBlk
  rw [List.length_set]
  refine h3.congr fun j hj => ?_
  unfold ef
  rw [eat_set hk]
  by_cases e2 : j = k * 3 + 2
  · subst e2
    rw [if_pos rfl, if_neg (by omega), if_neg (by omega), if_pos (by omega)]
  · rw [if_neg e2]
    by_cases e1 : j = k * 3 + 1
    · subst e1
      rw [if_pos rfl, if_neg (by omega), if_pos (by omega), if_pos (by omega)]
    · rw [if_neg e1]
      by_cases e0 : j = k * 3
      · subst e0
        rw [if_pos rfl, if_pos (by omega), if_pos (by omega)]
      · rw [if_neg e0, if_neg (show ¬ j / 3 = k by omega)]

theorem set_above {w w' : World} {B b j : Nat} (h : Below B w w') (hb : B ≤ b) (v : Value) : Below B w (w'.setCell ⟨b, j, none⟩ v) := h.setCell hb v

theorem blk_three (w : World) (b : Nat) (hb : b = w.heap.size) (x y z : Value) (T : TypeId) : Blk (w.alloc (.cells #[x, y, z] T)) b 3 (fun i => if i = 0 then x else if i = 1 then y else z) :=
  hb ▸ blk_new w #[x, y, z] T _ (fun i hi => by
    have hi' : i < 3 := hi
    rcases i with _ | _ | _ | i
    · rfl
    · rfl
    · rfl
    · omega)

theorem madeE (n j : Nat) (h : j < n * 3) : (madeCells (Value.agg #[.int .i64 0, .int .u8 0, .int .i64 0]).cells (n * 3))[j]? = some (ef (List.replicate n (0, 0, 0)) j) := by
  have he : ∀ i, eat (List.replicate n (0, 0, 0)) i = (0, 0, 0) := fun i => by
    unfold eat List.getD
    by_cases h : i < n <;> simp [h]
  unfold ef
  rw [he]
  unfold madeCells
  rw [Array.getElem?_map, Array.getElem?_eq_getElem (by simpa using h)]
  simp only [Array.getElem_range, Option.map_some, Option.some.injEq]
  change (#[Value.int .i64 0, .int .u8 0, .int .i64 0] : Array Value)[j % 3]! = _
  rcases (show j % 3 = 0 ∨ j % 3 = 1 ∨ j % 3 = 2 by omega) with e | e | e <;> rw [e] <;> rfl

end Go.Proofs.Ytkcflhlipdnbnaa
