/-
  Lists of graphs: how one lies in the world; graphs put together: the plain mathematics.
-/
import Derived.Test.YtigojleieihdoaaDoorCmp
import Derived.Test.YtigojleieihdoaaDoorGSrt
import Derived.Test.YtigojleieihdoaaDoorGPut
namespace Go.Proofs.YtigojleieihdoaaDoor
open Go.RowKit

/-- a graph: its Size, its Edges -/
abbrev Gr := Int × List Ed
def gat (G : List Gr) (i : Nat) : Gr := G.getD i (0, [])
theorem gat_get {G : List Gr} {i : Nat} (h : i < G.length) : gat G i = G[i] := by simp [gat, List.getD, h]
theorem gat_mem {G : List Gr} {i : Nat} (h : i < G.length) : gat G i ∈ G := by rw [gat_get h]; exact List.getElem_mem h
/-- graph i of a list that lies at block b from o on -/
def GrAt (lo hi : Nat) (w : World) (b o : Nat) (g : Gr) : Prop :=
  ∃ (ai : Option Addr) (ci : Nat), w.cell? ⟨b, o, none⟩ = some (.int .i64 g.1) ∧ w.cell? ⟨b, o + 1, none⟩ = some (.slice ai g.2.length ci) ∧ EdgesIn lo hi w ai g.2
/-- graphs that are reached by a slice; all blocks are of lo .. hi - 1 -/
def GrsIn (lo hi : Nat) (w : World) (a : Option Addr) (G : List Gr) : Prop :=
  G = [] ∨ ∃ b o, a = some ⟨b, o, none⟩ ∧ lo ≤ b ∧ b < hi ∧ ∀ i, i < G.length → GrAt lo hi w b (o + i * 2) (gat G i)
theorem GrAt.below {lo hi B : Nat} {w w' : World} {b o : Nat} {g : Gr} (h : GrAt lo hi w b o g) (hb : Below B w w') (hB : hi ≤ B) (hl : b < B) : GrAt lo hi w' b o g := by
  obtain ⟨ai, ci, h1, h2, h3⟩ := h
  exact ⟨ai, ci, cell_below h1 hb hl, cell_below h2 hb hl, h3.below hb hB⟩
theorem GrsIn.below {lo hi B : Nat} {w w' : World} {a : Option Addr} {G : List Gr} (h : GrsIn lo hi w a G) (hb : Below B w w') (hB : hi ≤ B) : GrsIn lo hi w' a G := by
  rcases h with h | ⟨b, o, e, h1, h2, h3⟩
  · exact .inl h
  · exact .inr ⟨b, o, e, h1, h2, fun i hi => (h3 i hi).below hb hB (by omega)⟩
theorem GrsIn.wide {lo hi lo' hi' : Nat} {w : World} {a : Option Addr} {G : List Gr} (h : GrsIn lo hi w a G) (h1 : lo' ≤ lo) (h2 : hi ≤ hi') : GrsIn lo' hi' w a G := by
  rcases h with h | ⟨b, o, e, h3, h4, h5⟩
  · exact .inl h
  · refine .inr ⟨b, o, e, by omega, by omega, fun i hi => ?_⟩
    obtain ⟨ai, ci, g1, g2, g3⟩ := h5 i hi
    exact ⟨ai, ci, g1, g2, g3.wide h1 h2⟩
theorem GrsIn.graph {lo hi : Nat} {w : World} {a : Option Addr} {G : List Gr} (h : GrsIn lo hi w a G) {k : Nat} (hk : k < G.length) : ∃ b o, a = some ⟨b, o, none⟩ ∧ b < hi ∧ GrAt lo hi w b (o + k * 2) (gat G k) := by
  rcases h with rfl | ⟨b, o, e, h1, h2, h3⟩
  · simp at hk
  · exact ⟨b, o, e, h2, h3 k hk⟩

/-- edges put one behind the other -/
def putOn (acc l : List Ed) : List Ed := l.foldl putE acc
theorem putOn_srt (l : List Ed) : ∀ acc, SrtE acc → SrtE (putOn acc l) := by
  induction l with
  | nil => exact fun acc h => h
  | cons x l ih => exact fun acc h => ih _ (srt_putE h x)
theorem putOn_mem (l : List Ed) : ∀ acc x, x ∈ putOn acc l ↔ x ∈ acc ∨ x ∈ l := by
  induction l with
  | nil => simp [putOn]
  | cons y l ih =>
    intro acc x
    show x ∈ putOn (putE acc y) l ↔ _
    rw [ih, mem_putE, List.mem_cons]
    constructor
    · rintro ((h | h) | h)
      · exact .inr (.inl h)
      · exact .inl h
      · exact .inr (.inr h)
    · rintro (h | h | h)
      · exact .inl (.inr h)
      · exact .inl (.inl h)
      · exact .inr h
theorem putOn_len (l : List Ed) : ∀ acc, (putOn acc l).length ≤ acc.length + l.length := by
  induction l with
  | nil => simp [putOn]
  | cons y l ih =>
    intro acc
    have h1 := ih (putE acc y)
    have h2 := putE_len acc y
    show (putOn (putE acc y) l).length ≤ _
    rw [List.length_cons]
    omega
theorem putOn_app (acc l l' : List Ed) : putOn acc (l ++ l') = putOn (putOn acc l) l' := List.foldl_append
theorem putOn_step (acc : List Ed) {l : List Ed} {k : Nat} (h : k < l.length) : putOn acc (l.take (k + 1)) = putE (putOn acc (l.take k)) (eat l k) := by
  rw [take_snocE l h, putOn_app]; rfl
/-- what all tell, as far as graph k -/
def catTo (G : List Gr) (k : Nat) : List Ed := (G.take k).flatMap (·.2)
theorem catTo_step {G : List Gr} {k : Nat} (h : k < G.length) : catTo G (k + 1) = catTo G k ++ (gat G k).2 := by
  unfold catTo
  rw [List.take_succ_eq_append_getElem h, List.flatMap_append, gat_get h]
  simp
theorem catTo_len {G : List Gr} : ∀ (j : Nat) {k : Nat}, k + j ≤ G.length → (catTo G k).length ≤ (catTo G (k + j)).length
  | 0, _, _ => Nat.le_refl _
  | j + 1, k, h => by
    have h1 := catTo_len (G := G) j (k := k) (by omega)
    rw [← Nat.add_assoc, catTo_step (G := G) (k := k + j) (by omega), List.length_append]
    omega
theorem catTo_le {G : List Gr} {k : Nat} (h : k ≤ G.length) : (catTo G k).length ≤ (catTo G G.length).length := by
  have := catTo_len (G := G) (G.length - k) (k := k) (by omega)
  rwa [show k + (G.length - k) = G.length by omega] at this
theorem dedL_is {l L : List Ed} (hp : L.Perm l) (hs : L.Pairwise fun x y => ltE y x = false) : dedL L = putOn [] l :=
  srtE_ext (dedL_srt hs) (putOn_srt l [] List.Pairwise.nil) (fun x => by rw [dedL_mem, putOn_mem, hp.mem_iff]; simp)
/-- all graphs together are right, edges of all of them, and of which Size -/
def togL (G : List Gr) : List Ed := putOn [] (catTo G G.length)
def togGood (G : List Gr) : Bool := G.all (fun g => okG g.1 g.2 && decide (g.1 = (gat G 0).1))
def togB (G : List Gr) : Bool := decide (G ≠ []) && togGood G && okG (gat G 0).1 (togL G)
def togS (G : List Gr) : Int := if togB G = true then (gat G 0).1 else 0
def togE (G : List Gr) : List Ed := if togB G = true then togL G else []
theorem togB_none : togB [] = false := rfl
theorem togB_bad {G : List Gr} {k : Nat} (hk : k < G.length) (h : okG (gat G k).1 (gat G k).2 = false ∨ (gat G k).1 ≠ (gat G 0).1) : togB G = false := by
  have : togGood G = false := by
    unfold togGood
    rw [Bool.eq_false_iff]
    intro ha
    have := List.all_eq_true.1 ha (gat G k) (gat_mem hk)
    simp only [Bool.and_eq_true, decide_eq_true_eq] at this
    rcases h with h | h
    · rw [this.1] at h; cases h
    · exact h this.2
  unfold togB
  rw [this]; simp
theorem togB_good {G : List Gr} (h0 : 0 < G.length) (h : ∀ i, i < G.length → okG (gat G i).1 (gat G i).2 = true ∧ (gat G i).1 = (gat G 0).1) : togB G = okG (gat G 0).1 (togL G) := by
  have : togGood G = true := by
    unfold togGood
    rw [List.all_eq_true]
    intro x hx
    obtain ⟨i, hi, rfl⟩ := List.getElem_of_mem hx
    have := h i hi
    rw [gat_get hi] at this
    rw [Bool.and_eq_true, decide_eq_true_eq]
    exact this
  unfold togB
  rw [this]
  have hne : G ≠ [] := by intro e; subst e; simp at h0
  simp [hne]
theorem togS_no {G : List Gr} (h : togB G = false) : togS G = 0 := by unfold togS; rw [if_neg (by rw [h]; decide)]
theorem togE_no {G : List Gr} (h : togB G = false) : togE G = [] := by unfold togE; rw [if_neg (by rw [h]; decide)]
theorem togS_yes {G : List Gr} (h : togB G = true) : togS G = (gat G 0).1 := by unfold togS; rw [if_pos h]
theorem togE_yes {G : List Gr} (h : togB G = true) : togE G = togL G := by unfold togE; rw [if_pos h]
theorem togE_len (G : List Gr) : (togE G).length ≤ (catTo G G.length).length := by
  unfold togE
  split
  · have := putOn_len (catTo G G.length) []
    simpa [togL] using this
  · simp

theorem ecells_nil : ecells [] = [] := rfl
theorem ecells_app (l1 l2 : List Ed) : ecells (l1 ++ l2) = ecells l1 ++ ecells l2 := by
  induction l2 generalizing l1 with
  | nil => simp [ecells_nil]
  | cons x r ih =>
    have h1 := ih (l1 ++ [x])
    have h2 := ih [x]
    have h3 : ecells [x] = [.int .i64 x.1, .int .u8 x.2.1, .int .i64 x.2.2] := by
      have := ecells_snoc [] x
      simpa [ecells_nil] using this
    rw [List.append_assoc] at h1
    simp only [List.singleton_append] at h1 h2
    rw [h1, ecells_snoc, h2, h3, List.append_assoc]
theorem owns_capE {B n cap : Nat} {w : World} {a : Option Addr} {xs : List Value} (h : w.ownsRow B 37 3 (.slice a n cap) n xs) : n ≤ cap := by
  rcases h.2 with ⟨h1, h2⟩ | ⟨g, cap', cur, h1, _, _, h4, _⟩
  · omega
  · simp only [Value.slice.injEq] at h1
    obtain ⟨_, _, rfl⟩ := h1
    exact h4
theorem own_inE {M n cap : Nat} {w : World} {a : Option Addr} {L : List Ed} (h : w.ownsRow M 37 3 (.slice a n cap) n (ecells L)) (hn : L.length = n) : EdgesOwn M w.heap.size w a L := by
  obtain ⟨a2, cap2, hv, h⟩ := edges_own h hn
  simp only [Value.slice.injEq] at hv
  rw [hv.1]; exact h
theorem box_put1 {w : World} {P : Nat} {x y : Value} (h : Blk w P 2 (fun i => if i = 0 then x else y)) (u : Value) : Blk (w.setCell ⟨P, 1, none⟩ u) P 2 (fun i => if i = 0 then x else u) :=
  (h.set 1 (by omega) _).congr (fun i hi => by rcases (show i = 0 ∨ i = 1 by omega) with rfl | rfl <;> simp)
theorem owns_later {B e s n : Nat} {w w' : World} {v : Value} {xs : List Value} (ho : w.ownsRow B e s v n xs) (hb : Below w.heap.size w w') : w'.ownsRow B e s v n xs :=
  owns_upto (M := w.heap.size) ho (fun k hk => (ho.lt k hk).2) (fun k _ h => hb.block k h)
/-- a loop that fills a graph in box B + 1, its answer's box is B -/
structure TI (w wr : World) (B : Nat) (s0 : Int) (a : Option Addr) (m cap : Nat) (X : List Ed) : Prop where
  bel : Below w.heap.size w wr
  res : Blk wr B 2 (fun i => if i = 0 then .int .i64 0 else .slice none 0 0)
  box : Blk wr (B + 1) 2 (fun i => if i = 0 then .int .i64 s0 else .slice a m cap)
  row : wr.ownsRow (B + 2) 37 3 (.slice a m cap) m (ecells X)
  len : X.length = m
  lt : w.heap.size = B ∧ B + 2 ≤ wr.heap.size
theorem TI.below {w wr w1 : World} {B : Nat} {s0 : Int} {a : Option Addr} {m cap : Nat} {X : List Ed} (h : TI w wr B s0 a m cap X) (hb : Below wr.heap.size wr w1) : TI w w1 B s0 a m cap X :=
  ⟨h.bel.trans (hb.mono h.bel.size), h.res.of_block (hb.block _ h.res.lt), h.box.of_block (hb.block _ h.box.lt), owns_later h.row hb, h.len, ⟨h.lt.1, Nat.le_trans h.lt.2 hb.size⟩⟩
theorem TI.put {w wr w4 : World} {B : Nat} {s0 : Int} {a a4 : Option Addr} {m cap m4 cap4 : Nat} {X Y : List Ed} (h : TI w wr B s0 a m cap X) (hb : Below (B + 2) wr w4) (ho : w4.ownsRow (B + 2) 37 3 (.slice a4 m4 cap4) m4 (ecells Y)) (hl : Y.length = m4) :
    TI w (w4.setCell ⟨B + 1, 1, none⟩ (.slice a4 m4 cap4)) B s0 a4 m4 cap4 Y := by
  obtain ⟨h1, h2⟩ := h.lt
  refine ⟨?_, ?_, ?_, ?_, hl, ⟨h1, by have := hb.size; simp; omega⟩⟩
  · exact (h.bel.trans (hb.mono (by omega))).setCell (p := ⟨B + 1, 1, none⟩) (by show w.heap.size ≤ B + 1; omega) _
  · exact (h.res.of_block (hb.block _ (by omega))).of_block (Below.heap_setCell _ ⟨B + 1, 1, none⟩ _ B (by show B ≠ B + 1; omega))
  · exact box_put1 (h.box.of_block (hb.block _ (by omega))) _
  · exact owns_set ho (by omega)
theorem TI.own {w wr : World} {B : Nat} {s0 : Int} {a : Option Addr} {m cap : Nat} {X : List Ed} (h : TI w wr B s0 a m cap X) : EdgesOwn (B + 2) wr.heap.size wr a X := own_inE h.row h.len
end Go.Proofs.YtigojleieihdoaaDoor
