/-
  A list of tables of truth that grows (for the model's l06Full).
-/
import Derived.Test.YtdbogikcmfnpdaaBmB
import Derived.Test.YtdbogikcmfnpdaaTnS
namespace Go.Proofs.Ytdbogikcmfnpdaa
open Go.RowKit

/-- tables of truth, one for each piece; none of them lies in the list's own block -/
def AllIn (M n : Nat) (w : World) (v : Value) (k : Nat) (rs : List Rl) : Prop :=
  ∃ (xs : List Value) (P C : Nat → Nat), w.ownsRow M 81 1 v k xs ∧ ∀ i, i < k → xs[i]? = some (.slice (some ⟨P i, 0, none⟩) (n * n) (C i)) ∧ v.ownBlock ≠ some (P i) ∧ BM w (P i) n (rs.getD i noR)
theorem AllIn.below {M n k : Nat} {w w' : World} {v : Value} {rs : List Rl} (h : AllIn M n w v k rs) (hb : Below w.heap.size w w') : AllIn M n w' v k rs := by
  obtain ⟨xs, P, C, h1, h2⟩ := h
  refine ⟨xs, P, C, owns_upto (M := w.heap.size) h1 (fun k hk => (h1.lt k hk).2) (fun k _ h => hb.block k h), fun i hi => ?_⟩
  obtain ⟨e1, e2, e3⟩ := h2 i hi
  exact ⟨e1, e2, e3.of (hb.block _ e3.lt)⟩
theorem AllIn.own {M n k : Nat} {w : World} {v : Value} {rs : List Rl} (h : AllIn M n w v k rs) {g : Nat} (hg : v.ownBlock = some g) : g < w.heap.size := by
  obtain ⟨xs, P, C, h1, _⟩ := h
  exact (h1.lt g hg).2
theorem AllIn.wide {M M' n k : Nat} {w : World} {v : Value} {rs : List Rl} (h : AllIn M n w v k rs) (hM : M' ≤ M) : AllIn M' n w v k rs := by
  obtain ⟨xs, P, C, h1, h2⟩ := h
  refine ⟨xs, P, C, ⟨h1.1, ?_⟩, h2⟩
  rcases h1.2 with h3 | ⟨g, cap, cur, e, h4, h5⟩
  · exact .inl h3
  · exact .inr ⟨g, cap, cur, e, by omega, h5⟩
/-- the table of a piece ahead, and where the list tells it -/
theorem AllIn.at {M n k : Nat} {w : World} {v : Value} {rs : List Rl} (h : AllIn M n w v k rs) {i : Nat} (hi : i < k) : ∃ g cap p c, v = .slice (some ⟨g, 0, none⟩) k cap ∧ g < w.heap.size ∧ w.cell? ⟨g, i, none⟩ = some (.slice (some ⟨p, 0, none⟩) (n * n) c) ∧ BM w p n (rs.getD i noR) := by
  obtain ⟨xs, P, C, h1, h2⟩ := h
  obtain ⟨e1, e2, e3⟩ := h2 i hi
  rcases h1.2 with ⟨_, h0⟩ | ⟨g, cap, cur, rfl, hg, hb, _⟩
  · omega
  · refine ⟨g, cap, P i, C i, rfl, (Array.getElem?_eq_some_iff.1 hb).1, ?_, e3⟩
    have := h1.cells (g := g) rfl i _ e1
    rw [Addr.add_mid, Nat.zero_add] at this
    exact this
theorem AllIn.snoc {M n k : Nat} {w w1 : World} {v : Value} {rs : List Rl} {R : Rl} {p c g cap : Nat} {xs : List Value} {P C : Nat → Nat}
    (hlen : xs.length = k) (hrs : rs.length = k) (h2 : ∀ i, i < k → xs[i]? = some (.slice (some ⟨P i, 0, none⟩) (n * n) (C i)) ∧ v.ownBlock ≠ some (P i) ∧ BM w (P i) n (rs.getD i noR))
    (hp : BM w p n R) (hpv : v.ownBlock ≠ some p) (hg : w.grownBy w1 v.ownBlock) (hloc : v.ownBlock = some g ∨ w.heap.size ≤ g)
    (ho : w1.ownsRow M 81 1 (.slice (some ⟨g, 0, none⟩) (k + 1) cap) (k + 1) (xs ++ [.slice (some ⟨p, 0, none⟩) (n * n) c])) :
    AllIn M n w1 (.slice (some ⟨g, 0, none⟩) (k + 1) cap) (k + 1) (rs ++ [R]) := by
  have keep : ∀ {q : Nat} {S : Rl}, BM w q n S → v.ownBlock ≠ some q → BM w1 q n S := fun {q S} hq hne => hq.of (hg.block q hq.lt (fun e => hne e.symm))
  have hoff : ∀ q, q < w.heap.size → v.ownBlock ≠ some q → (Value.slice (some ⟨g, 0, none⟩) (k + 1) cap).ownBlock ≠ some q := by
    intro q hq hne e
    have e2 : g = q := by simpa [Value.ownBlock] using e
    subst e2
    rcases hloc with h | h
    · exact hne h
    · omega
  refine ⟨_, fun i => if i = k then p else P i, fun i => if i = k then c else C i, ho, fun i hi => ?_⟩
  by_cases e : i = k
  · subst e
    refine ⟨by simp [← hlen], by simpa using hoff p hp.lt hpv, ?_⟩
    have : (rs ++ [R]).getD i noR = R := by simp [List.getD, ← hrs]
    rw [this]
    simpa using keep hp hpv
  · obtain ⟨e1, e2, e3⟩ := h2 i (by omega)
    refine ⟨?_, by simpa [e] using hoff _ e3.lt e2, ?_⟩
    · rw [List.getElem?_append_left (by omega), e1]; simp [e]
    · have : (rs ++ [R]).getD i noR = rs.getD i noR := by simp [List.getD, List.getElem?_append_left (show i < rs.length by omega)]
      rw [this]
      simpa [e] using keep e3 e2
theorem AllIn.nil {M n : Nat} {w : World} {v : Value} (h : w.ownsRow M 81 1 v 0 []) : AllIn M n w v 0 [] := ⟨[], fun _ => 0, fun _ => 0, h, fun i hi => absurd hi (by omega)⟩
theorem Try.info81 : (Try.prog.info? 81).map (fun i => (i.zero, i.size, i.bytes)) = some (some (.slice none 0 0), 1, 24) := by kernel_rfl
/-- a truth is put for each edge of a label -/
theorem stepR_snoc (l : List Ed) (e : Ed) (c : Int) (i j : Nat) : stepR (l ++ [e]) c i j = (stepR l c i j || decide (e = ((i : Int), c, (j : Int)))) := by
  rw [Bool.eq_iff_iff, stepR_iff]
  simp only [List.mem_append, List.mem_singleton, Bool.or_eq_true, stepR_iff, decide_eq_true_eq]
  constructor
  · rintro (h | h)
    · exact .inl h
    · exact .inr h.symm
  · rintro (h | h)
    · exact .inl h
    · exact .inr h.symm
end Go.Proofs.Ytdbogikcmfnpdaa
