/-
  impl.ReadGraph.
-/
import Derived.Test.YtfeimdlkpiacoaaEdC
import Derived.Test.YtfeimdlkpiacoaaApp
namespace Go.Proofs.Ytfeimdlkpiacoaa
open Go.RowKit

/-- the cells of a list of edges, as a list -/
def ecells (l : List Ed) : List Value := (List.range (l.length * 3)).map (ef l)
theorem ecells_len (l : List Ed) : (ecells l).length = l.length * 3 := by simp [ecells]
theorem eat_app {l : List Ed} {x : Ed} {i : Nat} (h : i < l.length) : eat (l ++ [x]) i = eat l i := by simp [eat, List.getD, List.getElem?_append_left h]
theorem eat_last (l : List Ed) (x : Ed) : eat (l ++ [x]) l.length = x := by simp [eat, List.getD]
theorem ecells_snoc (l : List Ed) (x : Ed) : ecells (l ++ [x]) = ecells l ++ [.int .i64 x.1, .int .u8 x.2.1, .int .i64 x.2.2] := by
  unfold ecells
  rw [List.length_append, List.length_singleton, show (l.length + 1) * 3 = l.length * 3 + 1 + 1 + 1 by omega, List.range_succ, List.range_succ, List.range_succ]
  simp only [List.map_append, List.append_assoc]
  congr 1
  · refine List.map_congr_left fun j hj => ?_
    have hj' := List.mem_range.1 hj
    unfold ef
    rw [eat_app (by omega)]
  · simp only [List.map_cons, List.map_nil, ef0, ef1, ef2, eat_last]
    rfl
/-- edges that are owned, out of their row -/
theorem edges_own {B n : Nat} {w : World} {v : Value} {l : List Ed} (h : w.ownsRow B 37 3 v n (ecells l)) (hn : l.length = n) : ∃ a cap, v = .slice a n cap ∧ EdgesOwn B w.heap.size w a l := by
  rcases h.2 with ⟨rfl, h0⟩ | ⟨g, cap, cur, rfl, hg, hb, _⟩
  · exact ⟨none, 0, by rw [h0], .inl (List.length_eq_zero_iff.1 (by omega))⟩
  · refine ⟨_, cap, rfl, .inr ⟨g, rfl, hg, (Array.getElem?_eq_some_iff.1 hb).1, ?_⟩⟩
    unfold EBlk
    rw [hn]
    exact (blk_own h).congr fun i hi => by simp [ecells, List.getD, hn, hi]
theorem news_three (w2 : World) (x y z : Value) (T : TypeId) : ∀ j u, [x, y, z][j]? = some u → (w2.alloc (.cells #[x, y, z] T)).cell? ((⟨w2.heap.size, 0, none⟩ : Addr).add j) = some u := by
  obtain ⟨h0, h1, h2⟩ := box_cells w2 x y z T _ rfl
  intro j u hu
  rw [add_none, Nat.zero_add]
  rcases j with _ | _ | _ | j
  · simp at hu; subst hu; exact h0
  · simp at hu; subst hu; exact h1
  · simp at hu; subst hu; exact h2
  · simp at hu

theorem owns_upto {B M e s n : Nat} {w w' : World} {v : Value} {xs : List Value} (ho : w.ownsRow B e s v n xs) (hv : ∀ k, v.ownBlock = some k → k < M) (hb : ∀ k, B ≤ k → k < M → w'.heap[k]? = w.heap[k]?) : w'.ownsRow B e s v n xs := by
  refine ⟨ho.1, ?_⟩
  rcases ho.2 with hn | ⟨g, cap, cur, rfl, hg, hh, r⟩
  · exact .inl hn
  · exact .inr ⟨g, cap, cur, rfl, hg, by rw [hb g hg (hv g rfl)]; exact hh, r⟩
theorem owns_at {w9 : World} {P n : Nat} {v' u : Value} {xs : List Value} (ho : w9.ownsRow (P + 1) 37 3 v' n xs) : (w9.setCell ⟨P, 1, none⟩ u).ownsRow (P + 1) 37 3 v' n xs :=
  owns_upto (M := w9.heap.size) ho (fun k hk => (ho.lt k hk).2) (fun k h1 _ => Below.heap_setCell _ _ _ _ (by simp; omega))
theorem blk_three_set {w : World} {b : Nat} {x y z : Value} (h : Blk w b 3 (fun i => if i = 0 then x else if i = 1 then y else z)) : w.cell? ⟨b, 0, none⟩ = some x ∧ w.cell? ⟨b, 1, none⟩ = some y ∧ w.cell? ⟨b, 2, none⟩ = some z :=
  ⟨h.cell (i := 0) (by omega), h.cell (i := 1) (by omega), h.cell (i := 2) (by omega)⟩
theorem Blk.put0 {w : World} {b : Nat} {x y z : Value} (h : Blk w b 3 (fun i => if i = 0 then x else if i = 1 then y else z)) (u : Value) : Blk (w.setCell ⟨b, 0, none⟩ u) b 3 (fun i => if i = 0 then u else if i = 1 then y else z) :=
  (Blk.set h 0 (by omega) u).congr (fun i hi => by rcases (show i = 0 ∨ i = 1 ∨ i = 2 by omega) with rfl | rfl | rfl <;> simp)
theorem Blk.put1 {w : World} {b : Nat} {x y z : Value} (h : Blk w b 3 (fun i => if i = 0 then x else if i = 1 then y else z)) (u : Value) : Blk (w.setCell ⟨b, 1, none⟩ u) b 3 (fun i => if i = 0 then x else if i = 1 then u else z) :=
  (Blk.set h 1 (by omega) u).congr (fun i hi => by rcases (show i = 0 ∨ i = 1 ∨ i = 2 by omega) with rfl | rfl | rfl <;> simp)
theorem Blk.put2 {w : World} {b : Nat} {x y z : Value} (h : Blk w b 3 (fun i => if i = 0 then x else if i = 1 then y else z)) (u : Value) : Blk (w.setCell ⟨b, 2, none⟩ u) b 3 (fun i => if i = 0 then x else if i = 1 then y else u) :=
  (Blk.set h 2 (by omega) u).congr (fun i hi => by rcases (show i = 0 ∨ i = 1 ∨ i = 2 by omega) with rfl | rfl | rfl <;> simp)

theorem cell_set {w : World} {b o c j : Nat} {v : Value} (h : w.cell? ⟨b, o, none⟩ = some v) (u : Value) (hne : b ≠ c) : (w.setCell ⟨c, j, none⟩ u).cell? ⟨b, o, none⟩ = some v := by
  rw [← h]; unfold World.cell?; rw [Below.heap_setCell w ⟨c, j, none⟩ u b (by simpa using hne)]
theorem KeptBut.toP {g : Nat} {w w1 : World} (h : KeptBut g w w1) : KeptP (fun c => c = g) w w1 := ⟨h.os, h.tape, h.output, h.size, fun k hk hn => h.block k hk hn⟩

theorem take_snocE (l : List Ed) {k : Nat} (h : k < l.length) : l.take (k + 1) = l.take k ++ [eat l k] := by
  rw [List.take_add_one]; simp [eat, List.getD, h]

end Go.Proofs.Ytfeimdlkpiacoaa
