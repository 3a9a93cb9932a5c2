/-
  impl.BagEach; the model's l03Copy and BagEach.
-/
import Derived.Test.YtelikebpddhncaaCopy
namespace Go.Proofs.Ytelikebpddhncaa
open Go.RowKit

/-- a row's block is not that of the list -/
def Off (v : Value) (ra : Option Addr) (r : List Int) : Prop := r ≠ [] → ∀ c o, ra = some ⟨c, o, none⟩ → v.ownBlock ≠ some c

/-- the items that a call has laid one behind the other -/
def Laid (B : Nat) (w : World) (v : Value) (l : List It) : Prop :=
  ∃ (f : Nat → Value) (R : Nat → Option Addr) (C : Nat → Nat), w.ownsRow B 77 2 v l.length ((List.range (l.length * 2)).map f) ∧
    ∀ i, i < l.length → (f (i * 2) = .slice (R i) (at' l i).1.length (C i) ∧ f (i * 2 + 1) = .int .i64 (at' l i).2) ∧ RowIn B w.heap.size w (R i) (at' l i).1 ∧ Off v (R i) (at' l i).1

theorem Laid.toIn {B : Nat} {w : World} {v : Value} {l : List It} (h : Laid B w v l) : ∃ a cap, v = .slice a l.length cap ∧ BagIn B w.heap.size w a l := by
  obtain ⟨f, R, C, h1, h2⟩ := h
  rcases h1.2 with ⟨rfl, h0⟩ | ⟨g, cap, cur, rfl, hg, hb, _⟩
  · exact ⟨none, 0, by rw [h0], .inl (List.length_eq_zero_iff.1 h0)⟩
  · refine ⟨_, cap, rfl, .inr ⟨g, 0, rfl, hg, (Array.getElem?_eq_some_iff.1 hb).1, fun i hi => ?_⟩⟩
    have hk := blk_own h1
    obtain ⟨⟨e1, e2⟩, e3, _⟩ := h2 i hi
    refine ⟨R i, C i, ?_, e3, ?_⟩
    · rw [Nat.zero_add, hk.cell (by omega)]; simp [List.getD, show i * 2 < l.length * 2 by omega, e1]
    · rw [Nat.zero_add, hk.cell (by omega)]; simp [List.getD, show i * 2 + 1 < l.length * 2 by omega, e2]

theorem Laid.nil (B : Nat) (w : World) : Laid B w (.slice none 0 0) [] :=
  ⟨fun _ => .int .i64 0, fun _ => none, fun _ => 0, by simpa using World.ownsRow_nil w B 77 2, fun i hi => absurd hi (by simp)⟩

/-- what lies there lies there when new blocks come, or others are written -/
theorem Laid.kept {B : Nat} {w w' : World} {v : Value} {l : List It} {p : Nat → Prop} (h : Laid B w v l) (hb : KeptP p w w') (hp : ∀ k, p k → k < B) : Laid B w' v l := by
  obtain ⟨f, R, C, h1, h2⟩ := h
  refine ⟨f, R, C, ?_, fun i hi => ⟨(h2 i hi).1, ((h2 i hi).2.1.kept hb (Nat.le_refl _) (fun k hk _ hpk => by have := hp k hpk; omega)).wide (Nat.le_refl _) hb.size, (h2 i hi).2.2⟩⟩
  refine ⟨h1.1, ?_⟩
  rcases h1.2 with h3 | ⟨g, cap, cur, e, h3, h4, h5⟩
  · exact .inl h3
  · exact .inr ⟨g, cap, cur, e, h3, by rw [hb.block g (Array.getElem?_eq_some_iff.1 h4).1 (fun hpk => by have := hp g hpk; omega)]; exact h4, h5⟩
theorem Laid.below {B : Nat} {w w' : World} {v : Value} {l : List It} (h : Laid B w v l) (hb : Below w.heap.size w w') : Laid B w' v l :=
  h.kept (p := fun _ => False) (KeptP.of_below hb (fun _ hk _ => hk)) (fun _ h => h.elim)

theorem owns_below {w w' : World} {B : Nat} {e : TypeId} {s : Nat} {v : Value} {n : Nat} {xs : List Value} (h : w.ownsRow B e s v n xs) (hb : Below w.heap.size w w') : w'.ownsRow B e s v n xs := by
  refine ⟨h.1, ?_⟩
  rcases h.2 with hn | ⟨g, cap, cur, rfl, hg, hh, r⟩
  · exact .inl hn
  · exact .inr ⟨g, cap, cur, rfl, hg, by rw [hb.block g (Array.getElem?_eq_some_iff.1 hh).1]; exact hh, r⟩

/-- one item more behind what lies there -/
theorem Laid.snoc {B : Nat} {w w1 : World} {v v' : Value} {l : List It} {x : It} {f : Nat → Value} {R : Nat → Option Addr} {C : Nat → Nat} {ra : Option Addr} {rc : Nat}
    (h2 : ∀ i, i < l.length → (f (i * 2) = .slice (R i) (at' l i).1.length (C i) ∧ f (i * 2 + 1) = .int .i64 (at' l i).2) ∧ RowIn B w.heap.size w (R i) (at' l i).1 ∧ Off v (R i) (at' l i).1)
    (hr : RowIn B w.heap.size w ra x.1) (hra : Off v ra x.1) (hg : w.grownBy w1 v.ownBlock) (hloc : v'.ownBlock = v.ownBlock ∨ v'.ownBlock = some w.heap.size)
    (ho : w1.ownsRow B 77 2 v' (l.length + 1) ((List.range (l.length * 2)).map f ++ [.slice ra x.1.length rc, .int .i64 x.2])) : Laid B w1 v' (l ++ [x]) := by
  have keep : ∀ {a : Option Addr} {r : List Int}, RowIn B w.heap.size w a r → Off v a r → RowIn B w1.heap.size w1 a r ∧ Off v' a r := by
    intro a r ha hne
    by_cases h0 : r = []
    · exact ⟨.inl h0, fun h => absurd h0 h⟩
    · rcases ha with h | ⟨c, o, e, h3, h4, h5⟩
      · exact absurd h h0
      · refine ⟨.inr ⟨c, o, e, h3, Nat.lt_of_lt_of_le h4 hg.size, fun i hi => ?_⟩, fun _ c2 o2 e2 => ?_⟩
        · rw [← h5 i hi]; unfold World.cell?; rw [hg.block c h4 (fun e2 => hne h0 c o e e2.symm)]
        · rw [e] at e2
          simp only [Option.some.injEq, Addr.mk.injEq] at e2
          obtain ⟨rfl, _⟩ := e2
          rcases hloc with h | h
          · rw [h]; exact hne h0 c o e
          · rw [h]; simp; omega
  have hat : ∀ i, i < l.length → at' (l ++ [x]) i = at' l i := fun i hi => by simp [at', List.getD, List.getElem?_append_left hi]
  have hlast : at' (l ++ [x]) l.length = x := by simp [at', List.getD]
  refine ⟨fun j => if j < l.length * 2 then f j else if j = l.length * 2 then .slice ra x.1.length rc else .int .i64 x.2, fun i => if i < l.length then R i else ra, fun i => if i < l.length then C i else rc, ?_, fun i hi => ?_⟩
  · have e1 : (l ++ [x]).length = l.length + 1 := by simp
    rw [e1]
    have e2 : (List.range ((l.length + 1) * 2)).map (fun j => if j < l.length * 2 then f j else if j = l.length * 2 then Value.slice ra x.1.length rc else .int .i64 x.2) = (List.range (l.length * 2)).map f ++ [.slice ra x.1.length rc, .int .i64 x.2] := by
      rw [show (l.length + 1) * 2 = l.length * 2 + 1 + 1 by omega, List.range_succ, List.range_succ]
      simp only [List.map_append, List.append_assoc]
      congr 1
      · exact List.map_congr_left fun j hj => by simp [List.mem_range.1 hj]
      · simp
        intro h
        omega
    rw [e2]; exact ho
  · simp at hi
    rcases Nat.lt_or_ge i l.length with h | h
    · rw [hat i h]
      obtain ⟨⟨e1, e2⟩, e3, e4⟩ := h2 i h
      simp only [h, if_true]
      exact ⟨⟨by rw [if_pos (by omega)]; exact e1, by rw [if_pos (by omega)]; exact e2⟩, keep e3 e4⟩
    · obtain rfl : i = l.length := by omega
      rw [hlast]
      simp only [Nat.lt_irrefl, if_false]
      exact ⟨⟨by simp, by rw [if_neg (by omega), if_neg (by omega)]⟩, keep hr hra⟩
end Go.Proofs.Ytelikebpddhncaa
