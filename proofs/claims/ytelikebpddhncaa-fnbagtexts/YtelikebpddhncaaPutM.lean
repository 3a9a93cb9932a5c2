/-
  A row put into a bag: the plain mathematics of it as the model does it, and what its walk keeps at hand.
-/
import Derived.Test.YtelikebpddhncaaSRd
namespace Go.Proofs.Ytelikebpddhncaa
open Go.RowKit

/-- a row put into a bag -/
def putL (r : List Int) (t : Int) : List It → List It
  | [] => [(r, t)]
  | x :: xs => if x.1 = r then (x.1, min (x.2 + t) 1000000) :: xs else if rowLt r x.1 = true then (r, t) :: x :: xs else x :: putL r t xs
theorem drop_at {l : List It} {k : Nat} (h : k < l.length) : l.drop k = at' l k :: l.drop (k + 1) := by
  rw [List.drop_eq_getElem_cons h]; simp [at', List.getD, h]
theorem putL_same {r : List Int} {t : Int} {l : List It} {k : Nat} (h : k < l.length) (h1 : (at' l k).1 = r) : putL r t (l.drop k) = ((at' l k).1, min ((at' l k).2 + t) 1000000) :: l.drop (k + 1) := by
  rw [drop_at h]; simp only [putL]; rw [if_pos h1]
theorem putL_less {r : List Int} {t : Int} {l : List It} {k : Nat} (h : k < l.length) (h1 : (at' l k).1 ≠ r) (h2 : rowLt r (at' l k).1 = true) : putL r t (l.drop k) = (r, t) :: at' l k :: l.drop (k + 1) := by
  rw [drop_at h]; simp only [putL]; rw [if_neg h1, if_pos h2]
theorem putL_more {r : List Int} {t : Int} {l : List It} {k : Nat} (h : k < l.length) (h1 : (at' l k).1 ≠ r) (h2 : rowLt r (at' l k).1 = false) : putL r t (l.drop k) = at' l k :: putL r t (l.drop (k + 1)) := by
  rw [drop_at h]; simp only [putL]; rw [if_neg h1, if_neg (by rw [h2]; simp)]
theorem putL_end {r : List Int} {t : Int} {l : List It} {k : Nat} (h : l.length ≤ k) : putL r t (l.drop k) = [(r, t)] := by
  rw [List.drop_eq_nil_of_le h]; rfl

/-- a row that lies in lo .. hi or in B .. M -/
def RowP (lo hi B M : Nat) (w : World) (a : Option Addr) (r : List Int) : Prop :=
  r = [] ∨ ∃ b o, a = some ⟨b, o, none⟩ ∧ ((lo ≤ b ∧ b < hi) ∨ (B ≤ b ∧ b < M)) ∧ ∀ i, i < r.length → w.cell? ⟨b, o + i, none⟩ = some (.int .i64 (r.getD i 0))
theorem RowP.old {lo hi B M : Nat} {w : World} {a : Option Addr} {r : List Int} (h : RowIn lo hi w a r) : RowP lo hi B M w a r := by
  rcases h with h | ⟨b, o, e, h1, h2, h3⟩
  · exact .inl h
  · exact .inr ⟨b, o, e, .inl ⟨h1, h2⟩, h3⟩
theorem RowP.new {lo hi B M : Nat} {w : World} {a : Option Addr} {r : List Int} (h : RowIn B M w a r) : RowP lo hi B M w a r := by
  rcases h with h | ⟨b, o, e, h1, h2, h3⟩
  · exact .inl h
  · exact .inr ⟨b, o, e, .inr ⟨h1, h2⟩, h3⟩
theorem RowP.upto {lo hi B M : Nat} {w w' : World} {a : Option Addr} {r : List Int} (h : RowP lo hi B M w a r) (hb : ∀ k, (lo ≤ k ∧ k < hi) ∨ (B ≤ k ∧ k < M) → w'.heap[k]? = w.heap[k]?) : RowP lo hi B M w' a r := by
  rcases h with h | ⟨b, o, e, h1, h3⟩
  · exact .inl h
  · exact .inr ⟨b, o, e, h1, fun i hi => by rw [← h3 i hi]; unfold World.cell?; rw [hb b h1]⟩
theorem RowP.wide {lo hi B M M' : Nat} {w : World} {a : Option Addr} {r : List Int} (h : RowP lo hi B M w a r) (hM : M ≤ M') : RowP lo hi B M' w a r := by
  rcases h with h | ⟨b, o, e, h1, h3⟩
  · exact .inl h
  · exact .inr ⟨b, o, e, by omega, h3⟩
theorem RowP.toIn {lo hi B M : Nat} {w : World} {a : Option Addr} {r : List Int} (h : RowP lo hi B M w a r) (h1 : lo ≤ B) (h2 : hi ≤ M) : RowIn lo M w a r := by
  rcases h with h | ⟨b, o, e, h1, h3⟩
  · exact .inl h
  · exact .inr ⟨b, o, e, by omega, by omega, h3⟩

/-- the items that a call has laid one behind the other, their rows old or new -/
def LaidP (lo hi B M : Nat) (w : World) (v : Value) (l : List It) : Prop :=
  ∃ (f : Nat → Value) (R : Nat → Option Addr) (C : Nat → Nat), w.ownsRow B 77 2 v l.length ((List.range (l.length * 2)).map f) ∧
    ∀ i, i < l.length → (f (i * 2) = .slice (R i) (at' l i).1.length (C i) ∧ f (i * 2 + 1) = .int .i64 (at' l i).2) ∧ RowP lo hi B M w (R i) (at' l i).1 ∧ Off v (R i) (at' l i).1
theorem LaidP.nil (lo hi B M : Nat) (w : World) : LaidP lo hi B M w (.slice none 0 0) [] :=
  ⟨fun _ => .int .i64 0, fun _ => none, fun _ => 0, by simpa using World.ownsRow_nil w B 77 2, fun i hi => absurd hi (by simp)⟩
theorem LaidP.upto {lo hi B M : Nat} {w w' : World} {v : Value} {l : List It} (h : LaidP lo hi B M w v l) (hv : ∀ k, v.ownBlock = some k → k < M) (hb : ∀ k, (lo ≤ k ∧ k < hi) ∨ (B ≤ k ∧ k < M) → w'.heap[k]? = w.heap[k]?) : LaidP lo hi B M w' v l := by
  obtain ⟨f, R, C, h1, h2⟩ := h
  refine ⟨f, R, C, ?_, fun i hi => ⟨(h2 i hi).1, (h2 i hi).2.1.upto hb, (h2 i hi).2.2⟩⟩
  refine ⟨h1.1, ?_⟩
  rcases h1.2 with h3 | ⟨g, cap, cur, rfl, h3, h4, h5⟩
  · exact .inl h3
  · exact .inr ⟨g, cap, cur, rfl, h3, by rw [hb g (.inr ⟨h3, hv g rfl⟩)]; exact h4, h5⟩
theorem LaidP.wide {lo hi B M M' : Nat} {w : World} {v : Value} {l : List It} (h : LaidP lo hi B M w v l) (hM : M ≤ M') : LaidP lo hi B M' w v l := by
  obtain ⟨f, R, C, h1, h2⟩ := h
  exact ⟨f, R, C, h1, fun i hi => ⟨(h2 i hi).1, (h2 i hi).2.1.wide hM, (h2 i hi).2.2⟩⟩
theorem LaidP.toIn {lo hi B M : Nat} {w : World} {v : Value} {l : List It} (h : LaidP lo hi B M w v l) (h1 : lo ≤ B) (h2 : hi ≤ M) (h3 : M ≤ w.heap.size) : ∃ a cap, v = .slice a l.length cap ∧ BagIn lo w.heap.size w a l := by
  obtain ⟨f, R, C, ho, hr⟩ := h
  rcases ho.2 with ⟨rfl, h0⟩ | ⟨g, cap, cur, rfl, hg, hb, _⟩
  · exact ⟨none, 0, by rw [h0], .inl (List.length_eq_zero_iff.1 h0)⟩
  · refine ⟨_, cap, rfl, .inr ⟨g, 0, rfl, by omega, (Array.getElem?_eq_some_iff.1 hb).1, fun i hi => ?_⟩⟩
    have hk := blk_own ho
    obtain ⟨⟨e1, e2⟩, e3, _⟩ := hr i hi
    refine ⟨R i, C i, ?_, (e3.toIn h1 h2).wide (Nat.le_refl _) h3, ?_⟩
    · rw [Nat.zero_add, hk.cell (i := i * 2) (by omega)]
      simp [List.getD, show i * 2 < l.length * 2 by omega, e1, at']
    · rw [Nat.zero_add, hk.cell (i := i * 2 + 1) (by omega)]
      simp [List.getD, show i * 2 + 1 < l.length * 2 by omega, e2, at']
theorem LaidP.snoc {lo hi B M M' : Nat} {w w1 : World} {v v' : Value} {l : List It} {x : It} {f : Nat → Value} {R : Nat → Option Addr} {C : Nat → Nat} {ra : Option Addr} {rc : Nat}
    (h2 : ∀ i, i < l.length → (f (i * 2) = .slice (R i) (at' l i).1.length (C i) ∧ f (i * 2 + 1) = .int .i64 (at' l i).2) ∧ RowP lo hi B M w (R i) (at' l i).1 ∧ Off v (R i) (at' l i).1)
    (hr : RowP lo hi B M' w ra x.1) (hra : Off v ra x.1) (hhi : hi ≤ w.heap.size) (hMM : M ≤ M') (hMw : M' ≤ w.heap.size) (hg : w.grownBy w1 v.ownBlock) (hloc : v'.ownBlock = v.ownBlock ∨ v'.ownBlock = some w.heap.size)
    (ho : w1.ownsRow B 77 2 v' (l.length + 1) ((List.range (l.length * 2)).map f ++ [.slice ra x.1.length rc, .int .i64 x.2])) : LaidP lo hi B M' w1 v' (l ++ [x]) := by
  have keep : ∀ {a : Option Addr} {r : List Int}, RowP lo hi B M' w a r → Off v a r → RowP lo hi B M' w1 a r ∧ Off v' a r := by
    intro a r ha hne
    by_cases h0 : r = []
    · exact ⟨.inl h0, fun h => absurd h0 h⟩
    · rcases ha with h | ⟨c, o, e, h3, h5⟩
      · exact absurd h h0
      · refine ⟨.inr ⟨c, o, e, h3, fun i hi => ?_⟩, fun _ c2 o2 e2 => ?_⟩
        · rw [← h5 i hi]; unfold World.cell?; rw [hg.block c (by omega) (fun e2 => hne h0 c o e e2.symm)]
        · rw [e] at e2
          simp only [Option.some.injEq, Addr.mk.injEq] at e2
          obtain ⟨rfl, _⟩ := e2
          rcases hloc with h | h
          · rw [h]; exact hne h0 c o e
          · rw [h]; simp; omega
  have hat : ∀ i, i < l.length → at' (l ++ [x]) i = at' l i := fun i hi => by simp [at', List.getD, List.getElem?_append_left hi]
  have hlast : at' (l ++ [x]) l.length = x := by simp [at', List.getD]
  refine ⟨fun j => if j < l.length * 2 then f j else if j = l.length * 2 then .slice ra x.1.length rc else .int .i64 x.2, fun i => if i < l.length then R i else ra, fun i => if i < l.length then C i else rc, ?_, fun i hi => ?_⟩
  · have e1 : (l ++ [x]).length = l.length + 1 := by simp
    rw [e1]
    have e2 : (List.range ((l.length + 1) * 2)).map (fun j => if j < l.length * 2 then f j else if j = l.length * 2 then Value.slice ra x.1.length rc else .int .i64 x.2) = (List.range (l.length * 2)).map f ++ [.slice ra x.1.length rc, .int .i64 x.2] := by
      rw [show (l.length + 1) * 2 = l.length * 2 + 1 + 1 by omega, List.range_succ, List.range_succ]
      simp only [List.map_append, List.append_assoc]
      congr 1
      · exact List.map_congr_left fun j hj => by simp [List.mem_range.1 hj]
      · simp
        intro h
        omega
    rw [e2]; exact ho
  · simp at hi
    rcases Nat.lt_or_ge i l.length with h | h
    · rw [hat i h]
      obtain ⟨⟨e1, e2⟩, e3, e4⟩ := h2 i h
      simp only [h, if_true]
      exact ⟨⟨by rw [if_pos (by omega)]; exact e1, by rw [if_pos (by omega)]; exact e2⟩, keep (e3.wide hMM) e4⟩
    · obtain rfl : i = l.length := by omega
      rw [hlast]
      simp only [Nat.lt_irrefl, if_false]
      exact ⟨⟨by simp, by rw [if_neg (by omega), if_neg (by omega)]⟩, keep hr hra⟩

/-- what the walk keeps at hand -/
structure PutAt (lo hi B M : Nat) (w wi : World) (bv v : Value) (L : List It) : Prop where
  box : Blk wi B 1 (fun _ => bv)
  res : Blk wi (B + 1) 1 (fun _ => .slice none 0 0)
  out : Blk wi (B + 1 + 1) 1 (fun _ => v)
  laid : LaidP lo hi (B + 1 + 1 + 1) M wi v L
  bel : Below B w wi
  old : hi ≤ B
  low : B + 1 + 1 + 1 ≤ M
  size : M ≤ wi.heap.size
  vlt : ∀ k, v.ownBlock = some k → k < M
theorem PutAt.over {lo hi B M : Nat} {w wi w' : World} {bv v : Value} {L : List It} (h : PutAt lo hi B M w wi bv v L) (hb : Below M wi w') : PutAt lo hi B M w w' bv v L :=
  have hl := h.low
  have ho := h.old
  ⟨h.box.of_block (hb.block _ (by omega)), h.res.of_block (hb.block _ (by omega)), h.out.of_block (hb.block _ (by omega)), h.laid.upto h.vlt (fun k hk => hb.block k (by omega)), h.bel.trans (hb.mono (by omega)), h.old, h.low, Nat.le_trans h.size hb.size, h.vlt⟩
theorem PutAt.wide {lo hi B M M' : Nat} {w wi : World} {bv v : Value} {L : List It} (h : PutAt lo hi B M w wi bv v L) (h1 : M ≤ M') (h2 : M' ≤ wi.heap.size) : PutAt lo hi B M' w wi bv v L :=
  ⟨h.box, h.res, h.out, h.laid.wide h1, h.bel, h.old, Nat.le_trans h.low h1, h2, fun k hk => Nat.lt_of_lt_of_le (h.vlt k hk) h1⟩
theorem PutAt.push {lo hi B M : Nat} {w w8 w9 : World} {bv v v' : Value} {L : List It} {x : It} {f : Nat → Value} {R : Nat → Option Addr} {C : Nat → Nat} {ra : Option Addr} {rc : Nat} (h : PutAt lo hi B M w w8 bv v L)
    (h2 : ∀ i, i < L.length → (f (i * 2) = .slice (R i) (at' L i).1.length (C i) ∧ f (i * 2 + 1) = .int .i64 (at' L i).2) ∧ RowP lo hi (B + 1 + 1 + 1) M w8 (R i) (at' L i).1 ∧ Off v (R i) (at' L i).1)
    (hr : RowP lo hi (B + 1 + 1 + 1) w8.heap.size w8 ra x.1) (hra : Off v ra x.1) (hg : w8.grownBy w9 v.ownBlock) (hloc : v'.ownBlock = v.ownBlock ∨ v'.ownBlock = some w8.heap.size)
    (ho : w9.ownsRow (B + 1 + 1 + 1) 77 2 v' (L.length + 1) ((List.range (L.length * 2)).map f ++ [.slice ra x.1.length rc, .int .i64 x.2])) : PutAt lo hi B w9.heap.size w (w9.setCell ⟨B + 1 + 1, 0, none⟩ v') bv v' (L ++ [x]) := by
  have hl := h.low
  have hs := h.size
  have hold := h.old
  have hb : Below (B + 1 + 1 + 1) w8 w9 := (Below.refl _ _).grown hg (by omega) (fun k hk => by
    obtain ⟨f', R', C', h1, _⟩ := h.laid
    exact (h1.lt k hk).1)
  have hz := hb.size
  have hd : LaidP lo hi (B + 1 + 1 + 1) w8.heap.size w9 v' (L ++ [x]) := LaidP.snoc (M := M) (M' := w8.heap.size) h2 hr hra (by omega) hs (Nat.le_refl _) hg hloc ho
  have hvlt : ∀ k, v'.ownBlock = some k → k < w9.heap.size := fun k hk => (ho.lt k hk).2
  refine ⟨?_, ?_, ?_, ?_, ?_, hold, by omega, by simp, hvlt⟩
  · exact (h.box.of_block (hb.block _ (by omega))).of_block (Below.heap_setCell _ _ _ _ (by simp; omega))
  · exact (h.res.of_block (hb.block _ (by omega))).of_block (Below.heap_setCell _ _ _ _ (by simp))
  · exact ((h.out.of_block (hb.block _ (by omega))).set 0 (by omega) _).congr (fun i hi => by simp [show i = 0 by omega])
  · exact (hd.wide hz).upto hvlt (fun k h1 => Below.heap_setCell _ _ _ _ (by simp; omega))
  · exact (h.bel.trans (hb.mono (by omega))).setCell (by simp; omega) _
theorem off_old {lo hi B e s n : Nat} {w : World} {v : Value} {xs : List Value} {a : Option Addr} {r : List Int} {w' : World} (ho : w.ownsRow B e s v n xs) (hr : RowIn lo hi w' a r) (hh : hi ≤ B) : Off v a r := by
  intro hne c o e hc
  rcases hr with h | ⟨b, o', e', _, h2, _⟩
  · exact hne h
  · rw [e] at e'
    simp only [Option.some.injEq, Addr.mk.injEq] at e'
    have := (ho.lt c hc).1
    omega
theorem off_new {lo hi M : Nat} {v : Value} {a : Option Addr} {r : List Int} {w' : World} (hr : RowIn lo hi w' a r) (hh : M ≤ lo) (hv : ∀ k, v.ownBlock = some k → k < M) : Off v a r := by
  intro hne c o e hc
  rcases hr with h | ⟨b, o', e', h1, _, _⟩
  · exact hne h
  · rw [e] at e'
    simp only [Option.some.injEq, Addr.mk.injEq] at e'
    have := hv c hc
    omega
end Go.Proofs.Ytelikebpddhncaa
