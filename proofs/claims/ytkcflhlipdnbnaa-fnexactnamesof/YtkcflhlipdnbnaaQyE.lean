/-
  A question that came in, out of its reading.
-/
import Derived.Test.YtkcflhlipdnbnaaQyC
import Derived.Test.YtkcflhlipdnbnaaEdC
import Derived.Deep.Strs
import Derived.ProofKit
import Derived.OpenShut
import Derived.ChangeOld
namespace Go.Proofs.Ytkcflhlipdnbnaa
open Go.RowKit

open Go.ChangeShapes Go.WideShapes Go.ChangeAt Go.Deep in
theorem trod_struct4 {H : Type} {enc : TypeId × Value → H} {P : Program} {w : World} {base : Nat} {spare : Nat → Bool} {held : Bool} {t : TypeId} {f0 f1 f2 f3 : Field} {fuel : Nat} {cs : List Value} {x : DataW H × List MemPlace} (ht : P.underlying t = some (.struct #[f0, f1, f2, f3])) (h : DataW.trod enc P w base spare held fuel t cs = some x) :
    ∃ y0 y1 y2 y3 n, cs.length = P.cellsOf t ∧ DataW.trod enc P w base spare held n f0.type ((cs.drop f0.offset).take (P.cellsOf f0.type)) = some y0 ∧
      DataW.trod enc P w base spare held n f1.type ((cs.drop f1.offset).take (P.cellsOf f1.type)) = some y1 ∧ DataW.trod enc P w base spare held n f2.type ((cs.drop f2.offset).take (P.cellsOf f2.type)) = some y2 ∧ DataW.trod enc P w base spare held n f3.type ((cs.drop f3.offset).take (P.cellsOf f3.type)) = some y3 := by
  obtain ⟨xs, n, _, rfl, hl, hlen, hf⟩ := DataW.trod_struct ht h
  match xs, hlen with
  | [y0, y1, y2, y3], _ => exact ⟨y0, y1, y2, y3, n, hl, by simpa using hf 0 f0 rfl, by simpa using hf 1 f1 rfl, by simpa using hf 2 f2 rfl, by simpa using hf 3 f3 rfl⟩

open Go.ChangeShapes Go.WideShapes Go.ChangeAt Go.Deep in
set_option maxRecDepth 100000 in
theorem texts_trod {H : Type} {enc : TypeId × Value → H} {W : World} {fuel : Nat} {v : Value} {x : DataW H × List MemPlace}
    (hf : DataW.trod enc Try.prog W 0 (fun _ => true) true fuel 42 [v] = some x) : ∃ (ao : Option Addr) (n cap : Nat) (l : List Tx), v = .slice ao n cap ∧ n ≤ maxLen ∧ l.length = n ∧ (∀ i, i < n → (tat l i).size ≤ maxLen) ∧ FlIn 1 0 W.heap.size W ao n (tC l) := by
  rcases open_strs Try.underlying42 Try.underlying9 (by kernel_rfl) hf with ⟨hcs, _⟩ | ⟨a, len, cap, m, Sx, hcs, _, hl, hm, hmm, _, hx⟩
  · simp at hcs
    subst hcs
    exact ⟨none, 0, 0, [], rfl, Nat.zero_le _, rfl, fun i hi => absurd hi (Nat.not_lt_zero _), .inl rfl⟩
  · simp at hcs
    subst hcs
    have hlm : len ≤ m := by rw [hmm]; simp; exact hl
    have hgd : ∀ i, i < len → tat ((List.range len).map Sx) i = Sx i := fun i hi => by simp [tat, List.getD, hi]
    refine ⟨some a, len, cap, (List.range len).map Sx, rfl, by omega, by simp, fun i hi => by rw [hgd i hi]; exact (hx i (by omega)).2, ?_⟩
    by_cases h0 : len = 0
    · exact .inl h0
    · obtain ⟨b, off, spot⟩ := a
      have c0 := (hx 0 (by omega)).1
      obtain rfl := spot_none c0
      rw [add_none] at c0
      refine .inr ⟨b, off, rfl, Nat.zero_le _, lt_of_cell c0, fun j hj => ?_⟩
      have ck := (hx j (by omega)).1
      rw [add_none] at ck
      rw [ck]
      unfold tC
      rw [hgd j (by omega)]

open Go.ChangeShapes Go.WideShapes Go.ChangeAt Go.Deep in
set_option maxRecDepth 100000 in
theorem atoms_trod {H : Type} {enc : TypeId × Value → H} {W : World} {fuel : Nat} {v : Value} {x : DataW H × List MemPlace}
    (hf : DataW.trod enc Try.prog W 0 (fun _ => true) true fuel 43 [v] = some x) : ∃ (ao : Option Addr) (n cap : Nat) (l : List At), v = .slice ao n cap ∧ n ≤ maxLen ∧ l.length = n ∧ (∀ i, i < n → (aat l i).1.size ≤ maxLen ∧ (aat l i).2.1.size ≤ maxLen ∧ (aat l i).2.2.size ≤ maxLen) ∧ FlIn 3 0 W.heap.size W ao n (aC l) := by
  rcases open_slice Try.underlying43 hf with ⟨hcs, _⟩ | ⟨a, len, cap, m, n, D, Pl, hcs, _, hl, hm, hmm, _, hx⟩
  · simp at hcs
    subst hcs
    exact ⟨none, 0, 0, [], rfl, Nat.zero_le _, rfl, fun i hi => absurd hi (Nat.not_lt_zero _), .inl rfl⟩
  · simp at hcs
    subst hcs
    have ce : Try.prog.cellsOf 156 = 3 := by kernel_rfl
    have hlm : len ≤ m := by rw [hmm]; simp; exact hl
    have each : ∀ i, i < len → ∃ q : At, W.cell? (a.add (i * 3)) = some (.string q.1) ∧ W.cell? (a.add (i * 3 + 1)) = some (.string q.2.1) ∧ W.cell? (a.add (i * 3 + 2)) = some (.string q.2.2) ∧ (q.1.size ≤ maxLen ∧ q.2.1.size ≤ maxLen ∧ q.2.2.size ≤ maxLen) := by
      intro i hi
      obtain ⟨cs', h1, h2⟩ := hx i (by omega)
      rw [ce] at h1
      obtain ⟨_, hlen, hcell⟩ := World.cells?_some h1
      obtain ⟨y0, y1, y2, k, _, _, g0, g1, g2⟩ := trod_struct3 Try.underlying156 h2
      match cs', hlen with
      | [v0, v1, v2], _ =>
        have c9 : Try.prog.cellsOf 9 = 1 := by kernel_rfl
        simp only [c9, List.drop_zero, List.drop_succ_cons, List.take_succ_cons, List.take_zero] at g0 g1 g2
        obtain ⟨z0, e0, _, s0⟩ := DataW.trod_string Try.underlying9 g0
        obtain ⟨z1, e1, _, s1⟩ := DataW.trod_string Try.underlying9 g1
        obtain ⟨z2, e2, _, s2⟩ := DataW.trod_string Try.underlying9 g2
        simp at e0 e1 e2
        have q0 := hcell 0 (by omega)
        have q1 := hcell 1 (by omega)
        have q2 := hcell 2 (by omega)
        rw [add_add] at q0 q1 q2
        subst e0 e1 e2
        exact ⟨(z0, z1, z2), by simpa using q0, by simpa using q1, by simpa using q2, s0, s1, s2⟩
    obtain ⟨f, hfn⟩ := choose_lt each
    have hgd : ∀ i, i < len → aat ((List.range len).map f) i = f i := fun i hi => by simp [aat, List.getD, hi]
    refine ⟨some a, len, cap, (List.range len).map f, rfl, by omega, by simp, fun i hi => by rw [hgd i hi]; exact (hfn i hi).2.2.2, ?_⟩
    by_cases h0 : len = 0
    · exact .inl h0
    · obtain ⟨b, off, spot⟩ := a
      have c0 := (hfn 0 (by omega)).1
      obtain rfl := spot_none (by simpa using c0)
      rw [add_none] at c0
      refine .inr ⟨b, off, rfl, Nat.zero_le _, lt_of_cell c0, fun j hj => ?_⟩
      obtain ⟨c0, c1, c2, _⟩ := hfn (j / 3) (by omega)
      rw [add_none] at c0 c1 c2
      unfold aC
      rw [hgd (j / 3) (by omega)]
      rcases (show j = j / 3 * 3 ∨ j = j / 3 * 3 + 1 ∨ j = j / 3 * 3 + 2 by omega) with h | h | h
      · rw [if_pos (by omega), ← c0, ← h]
      · rw [if_neg (by omega), if_pos (by omega), ← c1, ← h]
      · rw [if_neg (by omega), if_neg (by omega), ← c2, ← h]

open Go.ChangeShapes Go.WideShapes Go.ChangeAt Go.Deep in
set_option maxRecDepth 100000 in
theorem filters_trod {H : Type} {enc : TypeId × Value → H} {W : World} {fuel : Nat} {v : Value} {x : DataW H × List MemPlace}
    (hf : DataW.trod enc Try.prog W 0 (fun _ => true) true fuel 44 [v] = some x) : ∃ (ao : Option Addr) (n cap : Nat) (l : List Fl), v = .slice ao n cap ∧ n ≤ maxLen ∧ l.length = n ∧ (∀ i, i < n → (fat l i).1.size ≤ maxLen ∧ (fat l i).2.2.1.size ≤ maxLen) ∧ FlIn 4 0 W.heap.size W ao n (fC l) := by
  rcases open_slice Try.underlying44 hf with ⟨hcs, _⟩ | ⟨a, len, cap, m, n, D, Pl, hcs, _, hl, hm, hmm, _, hx⟩
  · simp at hcs
    subst hcs
    exact ⟨none, 0, 0, [], rfl, Nat.zero_le _, rfl, fun i hi => absurd hi (Nat.not_lt_zero _), .inl rfl⟩
  · simp at hcs
    subst hcs
    have ce : Try.prog.cellsOf 158 = 4 := by kernel_rfl
    have hlm : len ≤ m := by rw [hmm]; simp; exact hl
    have each : ∀ i, i < len → ∃ q : Fl, W.cell? (a.add (i * 4)) = some (.string q.1) ∧ W.cell? (a.add (i * 4 + 1)) = some (.int .i64 q.2.1) ∧ W.cell? (a.add (i * 4 + 2)) = some (.string q.2.2.1) ∧ W.cell? (a.add (i * 4 + 3)) = some (.int .i64 q.2.2.2) ∧ (q.1.size ≤ maxLen ∧ q.2.2.1.size ≤ maxLen) := by
      intro i hi
      obtain ⟨cs', h1, h2⟩ := hx i (by omega)
      rw [ce] at h1
      obtain ⟨_, hlen, hcell⟩ := World.cells?_some h1
      obtain ⟨y0, y1, y2, y3, k, _, g0, g1, g2, g3⟩ := trod_struct4 Try.underlying158 h2
      match cs', hlen with
      | [v0, v1, v2, v3], _ =>
        have c9 : Try.prog.cellsOf 9 = 1 := by kernel_rfl
        have c3 : Try.prog.cellsOf 3 = 1 := by kernel_rfl
        simp only [c9, c3, List.drop_zero, List.drop_succ_cons, List.take_succ_cons, List.take_zero] at g0 g1 g2 g3
        obtain ⟨z0, e0, _, s0⟩ := DataW.trod_string Try.underlying9 g0
        obtain ⟨z1, e1, _, _⟩ := DataW.trod_int Try.underlying3 g1
        obtain ⟨z2, e2, _, s2⟩ := DataW.trod_string Try.underlying9 g2
        obtain ⟨z3, e3, _, _⟩ := DataW.trod_int Try.underlying3 g3
        simp at e0 e1 e2 e3
        have q0 := hcell 0 (by omega)
        have q1 := hcell 1 (by omega)
        have q2 := hcell 2 (by omega)
        have q3 := hcell 3 (by omega)
        rw [add_add] at q0 q1 q2 q3
        subst e0 e1 e2 e3
        exact ⟨(z0, z1, z2, z3), by simpa using q0, by simpa using q1, by simpa using q2, by simpa using q3, s0, s2⟩
    obtain ⟨f, hfn⟩ := choose_lt each
    have hgd : ∀ i, i < len → fat ((List.range len).map f) i = f i := fun i hi => by simp [fat, List.getD, hi]
    refine ⟨some a, len, cap, (List.range len).map f, rfl, by omega, by simp, fun i hi => by rw [hgd i hi]; exact (hfn i hi).2.2.2.2, ?_⟩
    by_cases h0 : len = 0
    · exact .inl h0
    · obtain ⟨b, off, spot⟩ := a
      have c0 := (hfn 0 (by omega)).1
      obtain rfl := spot_none (by simpa using c0)
      rw [add_none] at c0
      refine .inr ⟨b, off, rfl, Nat.zero_le _, lt_of_cell c0, fun j hj => ?_⟩
      obtain ⟨c0, c1, c2, c3, _⟩ := hfn (j / 4) (by omega)
      rw [add_none] at c0 c1 c2 c3
      unfold fC
      rw [hgd (j / 4) (by omega)]
      rcases (show j = j / 4 * 4 ∨ j = j / 4 * 4 + 1 ∨ j = j / 4 * 4 + 2 ∨ j = j / 4 * 4 + 3 by omega) with h | h | h | h
      · rw [if_pos (by omega), ← c0, ← h]
      · rw [if_neg (by omega), if_pos (by omega), ← c1, ← h]
      · rw [if_neg (by omega), if_neg (by omega), if_pos (by omega), ← c2, ← h]
      · rw [if_neg (by omega), if_neg (by omega), if_neg (by omega), ← c3, ← h]

theorem cellsQ : Try.prog.cellsOf 46 = 4 := by kernel_rfl
open Go.ChangeShapes Go.WideShapes Go.ChangeAt Go.Deep in
set_option maxRecDepth 100000 in
/-- a question that came in, out of its reading -/
theorem query_in {H : Type} {enc : TypeId × Value → H} {W : World} {r : Reach} {b0 : Nat} {v : Value} {d : DataW H} {ps : List MemPlace} (hv : Value.okWide Try.prog W r b0 46 v)
    (h : DataW.Trod enc Try.prog W 0 (fun _ => true) true 46 v d ps) : ∃ (e : Bool) (a : Option Addr) (n x : Nat) (b : Option Addr) (m y : Nat) (c : Option Addr) (k z : Nat) (o : List Tx) (t : List At) (f : List Fl), v = qv e a n x b m y c k z ∧ (o.length = n ∧ t.length = m ∧ f.length = k) ∧ QLe maxLen n m k o t f ∧ QIn 0 W.heap.size W a b c n m k (tC o) (aC t) (fC f) := by
  obtain ⟨cs, rfl, hsz⟩ := okWide_struct Try.underlying46 hv
  have h1 : cs.size = 4 := hsz.trans cellsQ
  obtain ⟨v0, v1, v2, v3, rfl⟩ : ∃ v0 v1 v2 v3, cs = #[v0, v1, v2, v3] := by
    refine ⟨cs[0], cs[1], cs[2], cs[3], ?_⟩
    apply Array.ext (by simpa using h1)
    intro i hi hi'
    simp at hi'
    rcases (show i = 0 ∨ i = 1 ∨ i = 2 ∨ i = 3 by omega) with rfl | rfl | rfl | rfl <;> rfl
  obtain ⟨fuel, hf⟩ := h
  obtain ⟨y0, y1, y2, y3, n, _, g0, g1, g2, g3⟩ := trod_struct4 Try.underlying46 hf
  have c4 : Try.prog.cellsOf 4 = 1 := by kernel_rfl
  have k1 : Try.prog.cellsOf 42 = 1 := by kernel_rfl
  have k2 : Try.prog.cellsOf 43 = 1 := by kernel_rfl
  have k3 : Try.prog.cellsOf 44 = 1 := by kernel_rfl
  have h0' : DataW.trod enc Try.prog W 0 (fun _ => true) true n 4 [v0] = some y0 := by simpa [Value.cells, c4] using g0
  have h1' : DataW.trod enc Try.prog W 0 (fun _ => true) true n 42 [v1] = some y1 := by simpa [Value.cells, k1] using g1
  have h2' : DataW.trod enc Try.prog W 0 (fun _ => true) true n 43 [v2] = some y2 := by simpa [Value.cells, k2] using g2
  have h3' : DataW.trod enc Try.prog W 0 (fun _ => true) true n 44 [v3] = some y3 := by simpa [Value.cells, k3] using g3
  obtain ⟨e, ee, _⟩ := DataW.trod_bool Try.underlying4 h0'
  simp at ee
  obtain ⟨a1, n1, c1, l1, rfl, hm1, hl1, hs1, hr1⟩ := texts_trod h1'
  obtain ⟨a2, n2, c2, l2, rfl, hm2, hl2, hs2, hr2⟩ := atoms_trod h2'
  obtain ⟨a3, n3, c3, l3, rfl, hm3, hl3, hs3, hr3⟩ := filters_trod h3'
  subst ee
  exact ⟨e, a1, n1, c1, a2, n2, c2, a3, n3, c3, l1, l2, l3, rfl, ⟨hl1, hl2, hl3⟩, ⟨⟨hm1, hm2, hm3⟩, hs1, hs2, hs3⟩, hr1, hr2, hr3⟩
end Go.Proofs.Ytkcflhlipdnbnaa
