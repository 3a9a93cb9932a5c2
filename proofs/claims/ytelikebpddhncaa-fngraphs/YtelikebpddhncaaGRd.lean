/-
  The plain mathematics of reading a graph: a byte, an edge, edges; what is read is what was written; the model reads what the program reads.
-/
import Derived.Test.YtelikebpddhncaaRd
import Derived.Test.YtelikebpddhncaaGTxt
namespace Go.Proofs.Ytelikebpddhncaa
open Go.RowKit sp

/-- the next byte -/
def rb : St → Nat × St
  | none => (0, none)
  | some [] => (0, none)
  | some (c :: r) => (c.toNat, some r)
theorem rb_none : rb none = (0, none) := rfl
theorem rb_iff {r r' : List UInt8} {n : Nat} : rb (some r) = (n, some r') ↔ ∃ c : UInt8, n = c.toNat ∧ r = c :: r' := by
  cases r with
  | nil => simp [rb]
  | cons c r => simp only [rb, Prod.mk.injEq, Option.some.injEq, List.cons.injEq]; constructor
                · rintro ⟨rfl, rfl⟩; exact ⟨c, rfl, rfl, rfl⟩
                · rintro ⟨d, rfl, rfl, rfl⟩; exact ⟨rfl, rfl⟩
/-- an edge, its numbers at most so much -/
def readEdge (most : Nat) (st : St) : Ed × St :=
  ((((rn st most).1 : Int), ((rb (rn st most).2).1 : Int), ((rn (rb (rn st most).2).2 most).1 : Int)), (rn (rb (rn st most).2).2 most).2)
def readEdges : Nat → St → List Ed × St
  | 0, st => ([], st)
  | m + 1, st => ((readEdge 12 st).1 :: (readEdges m (readEdge 12 st).2).1, (readEdges m (readEdge 12 st).2).2)
/-- the model stops where it has failed -/
def sEdges : Nat → St → List Ed × St
  | 0, st => ([], st)
  | _ + 1, none => ([], none)
  | m + 1, some r => ((readEdge 1000000000 (some r)).1 :: (sEdges m (readEdge 1000000000 (some r)).2).1, (sEdges m (readEdge 1000000000 (some r)).2).2)
/-- a graph as the program reads it -/
def implReadG (s : List UInt8) : (Int × List Ed) × Bool :=
  let a := rn (some s) 12
  let b := rn a.2 40
  let y := readEdges b.1 b.2
  (((a.1 : Int), y.1), decide (y.2 = some []) && okG (a.1 : Int) y.1)
/-- as the model reads it -/
def specReadG (s : List UInt8) : (Int × List Ed) × Bool :=
  let a := rn (some s) 1000000000
  let b := rn a.2 1000000000
  let y := sEdges (min b.1 50) b.2
  (((a.1 : Int), y.1), decide (y.2 ≠ none) && okG (a.1 : Int) y.1 && decide (gtxtTo (a.1 : Int) y.1 y.1.length = s))
theorem readEdges_len (m : Nat) (st : St) : (readEdges m st).1.length = m := by
  induction m generalizing st with
  | zero => rfl
  | succ m ih => simp [readEdges, ih]
theorem readEdge_fail (most : Nat) : (readEdge most none).2 = none := rfl
theorem readEdges_fail (m : Nat) : (readEdges m none).2 = none := by
  induction m with
  | zero => rfl
  | succ m ih => simp only [readEdges, readEdge_fail]; exact ih
theorem sEdges_none (m : Nat) : sEdges m none = ([], none) := by cases m <;> rfl
theorem sEdges_zero (st : St) : sEdges 0 st = ([], st) := by cases st <;> rfl
theorem sEdges_succ (m : Nat) {st : St} (h : st ≠ none) : sEdges (m + 1) st = ((readEdge 1000000000 st).1 :: (sEdges m (readEdge 1000000000 st).2).1, (sEdges m (readEdge 1000000000 st).2).2) := by
  cases st with
  | none => exact absurd rfl h
  | some r => rfl
theorem readEdge_is {most : Nat} (hm : most ≤ 1000000000) {r r' : List UInt8} {x : Ed} (h : readEdge most (some r) = (x, some r')) : r = edgeTxt x ++ r' := by
  unfold readEdge at h
  simp only [Prod.mk.injEq] at h
  obtain ⟨rfl, h2⟩ := h
  have hne2 : (rb (rn (some r) most).2).2 ≠ none := by intro e; rw [e] at h2; cases h2
  have hne1 : (rn (some r) most).2 ≠ none := by intro e; rw [e] at hne2; exact hne2 rfl
  obtain ⟨r1, hr1⟩ := some_of_ne hne1
  rw [hr1] at h2 hne2 ⊢
  obtain ⟨r2, hr2⟩ := some_of_ne hne2
  rw [hr2] at h2 ⊢
  have a1 := ((rn_iff hm).1 (show rn (some r) most = ((rn (some r) most).1, some r1) by rw [← hr1])).2
  obtain ⟨c, e1, e2⟩ := rb_iff.1 (show rb (some r1) = ((rb (some r1)).1, some r2) by rw [← hr2])
  have a3 := ((rn_iff hm).1 (show rn (some r2) most = ((rn (some r2) most).1, some r') by rw [← h2])).2
  unfold edgeTxt
  simp only [vb_nat, Int.toNat_natCast]
  rw [e1, List.append_assoc, List.append_assoc, ← a3]
  have : UInt8.ofNat c.toNat = c := by simp
  rw [this, List.singleton_append, ← e2]
  exact a1
theorem okE_nums {s : Int} {x : Ed} (h : okE s x = true) : (0 ≤ x.1 ∧ x.1 < s) ∧ (0 ≤ x.2.2 ∧ x.2.2 < s) ∧ 97 ≤ x.2.1 ∧ x.2.1 ≤ 100 := by
  unfold okE inV at h
  simp only [Bool.and_eq_true, decide_eq_true_eq] at h
  omega
theorem readEdge_back {most : Nat} (hm : most ≤ 1000000000) {s : Int} (hs : s ≤ most) {x : Ed} (hx : okE s x = true) (r' : List UInt8) : readEdge most (some (edgeTxt x ++ r')) = (x, some r') := by
  obtain ⟨x0, x1, x2⟩ := x
  obtain ⟨⟨h0, h1⟩, ⟨h2, h3⟩, h4, h5⟩ := okE_nums hx
  dsimp only at h0 h1 h2 h3 h4 h5
  obtain ⟨n0, rfl⟩ := Int.eq_ofNat_of_zero_le h0
  obtain ⟨n1, rfl⟩ := Int.eq_ofNat_of_zero_le (show 0 ≤ x1 by omega)
  obtain ⟨n2, rfl⟩ := Int.eq_ofNat_of_zero_le h2
  have e0 : edgeTxt ((n0 : Int), (n1 : Int), (n2 : Int)) ++ r' = varB 9 n0 ++ (UInt8.ofNat n1 :: (varB 9 n2 ++ r')) := by unfold edgeTxt; simp [vb_nat]
  have a1 : rn (some (edgeTxt ((n0 : Int), (n1 : Int), (n2 : Int)) ++ r')) most = (n0, some (UInt8.ofNat n1 :: (varB 9 n2 ++ r'))) := by rw [e0]; exact (rn_iff hm).2 ⟨by omega, rfl⟩
  have a2 : rb (some (UInt8.ofNat n1 :: (varB 9 n2 ++ r'))) = (n1, some (varB 9 n2 ++ r')) := rb_iff.2 ⟨UInt8.ofNat n1, by simp; omega, rfl⟩
  have a3 : rn (some (varB 9 n2 ++ r')) most = (n2, some r') := (rn_iff hm).2 ⟨by omega, rfl⟩
  unfold readEdge
  rw [a1]; simp only []
  rw [a2]; simp only []
  rw [a3]
theorem readEdges_is {m : Nat} {r r' : List UInt8} {l : List Ed} (h : readEdges m (some r) = (l, some r')) : r = l.flatMap edgeTxt ++ r' := by
  induction m generalizing r l with
  | zero => simp [readEdges] at h; obtain ⟨rfl, rfl⟩ := h; simp
  | succ m ih =>
    simp only [readEdges, Prod.mk.injEq] at h
    obtain ⟨rfl, h2⟩ := h
    have hne : (readEdge 12 (some r)).2 ≠ none := by intro e; rw [e, readEdges_fail] at h2; cases h2
    obtain ⟨r1, hr1⟩ := some_of_ne hne
    have a1 := readEdge_is (most := 12) (by omega) (show readEdge 12 (some r) = ((readEdge 12 (some r)).1, some r1) by rw [← hr1])
    rw [hr1] at h2 ⊢
    have h4 := ih (l := (readEdges m (some r1)).1) (r := r1) (by rw [← h2])
    rw [List.flatMap_cons, List.append_assoc, ← h4]
    exact a1
theorem readEdges_back {s : Int} (hs : s ≤ 12) (l : List Ed) (hl : ∀ x ∈ l, okE s x = true) (r' : List UInt8) : readEdges l.length (some (l.flatMap edgeTxt ++ r')) = (l, some r') := by
  induction l with
  | nil => simp [readEdges]
  | cons x xs ih =>
    rw [List.flatMap_cons, List.append_assoc]
    simp only [List.length_cons, readEdges, readEdge_back (most := 12) (by omega) hs (hl x (List.mem_cons_self ..))]
    rw [ih (fun y hy => hl y (List.mem_cons_of_mem _ hy))]
theorem sEdges_back {s : Int} (hs : s ≤ 12) (l : List Ed) (hl : ∀ x ∈ l, okE s x = true) (r' : List UInt8) : sEdges l.length (some (l.flatMap edgeTxt ++ r')) = (l, some r') := by
  induction l with
  | nil => simp [sEdges]
  | cons x xs ih =>
    rw [List.flatMap_cons, List.append_assoc, List.length_cons, sEdges_succ _ (by simp), readEdge_back (most := 1000000000) (by omega) (s := s) (by omega) (hl x (List.mem_cons_self ..))]
    simp only []
    rw [ih (fun y hy => hl y (List.mem_cons_of_mem _ hy))]
theorem gtxt_all (s : Int) (l : List Ed) : gtxtTo s l l.length = vb s ++ (varB 9 l.length ++ l.flatMap edgeTxt) := by unfold gtxtTo; rw [vb_nat, List.take_length, List.append_assoc]
/-- the program reads just the texts of right graphs -/
theorem implG_yes {s : List UInt8} (h : (implReadG s).2 = true) : okG (implReadG s).1.1 (implReadG s).1.2 = true ∧ s = gtxtTo (implReadG s).1.1 (implReadG s).1.2 (implReadG s).1.2.length := by
  simp only [implReadG, Bool.and_eq_true, decide_eq_true_eq] at h ⊢
  obtain ⟨h1, h2⟩ := h
  have hne2 : (rn (rn (some s) 12).2 40).2 ≠ none := by intro e; rw [e, readEdges_fail] at h1; cases h1
  have hne1 : (rn (some s) 12).2 ≠ none := by intro e; rw [e] at hne2; exact hne2 rfl
  obtain ⟨r1, hr1⟩ := some_of_ne hne1
  have a1 := ((rn_iff (most := 12) (by omega)).1 (show rn (some s) 12 = ((rn (some s) 12).1, some r1) by rw [← hr1])).2
  rw [hr1] at h1 h2 hne2 ⊢
  obtain ⟨r2, hr2⟩ := some_of_ne hne2
  have a2 := ((rn_iff (most := 40) (by omega)).1 (show rn (some r1) 40 = ((rn (some r1) 40).1, some r2) by rw [← hr2])).2
  rw [hr2] at h1 h2 ⊢
  have a3 := readEdges_is (show readEdges (rn (some r1) 40).1 (some r2) = ((readEdges (rn (some r1) 40).1 (some r2)).1, some []) by rw [← h1])
  refine ⟨h2, ?_⟩
  rw [gtxt_all, readEdges_len, vb_nat]
  rw [List.append_nil] at a3
  rw [← a3, ← a2]
  exact a1
theorem implG_back {s : Int} {l : List Ed} (h : okG s l = true) : implReadG (gtxtTo s l l.length) = ((s, l), true) := by
  obtain ⟨⟨h1, h2⟩, h3, h4, _⟩ := okG_iff.1 h
  obtain ⟨n, rfl⟩ := Int.eq_ofNat_of_zero_le (show 0 ≤ s by omega)
  have a1 : rn (some (gtxtTo (n : Int) l l.length)) 12 = (n, some (varB 9 l.length ++ l.flatMap edgeTxt)) := by rw [gtxt_all, vb_nat]; exact (rn_iff (by omega)).2 ⟨by omega, rfl⟩
  have a2 : rn (some (varB 9 l.length ++ l.flatMap edgeTxt)) 40 = (l.length, some (l.flatMap edgeTxt)) := (rn_iff (by omega)).2 ⟨by omega, rfl⟩
  have a3 : readEdges l.length (some (l.flatMap edgeTxt)) = (l, some []) := by have := readEdges_back h2 l h4 []; rwa [List.append_nil] at this
  simp only [implReadG]
  rw [a1]; simp only []
  rw [a2]; simp only []
  rw [a3]; simp [h]
theorem specG_back {s : Int} {l : List Ed} (h : okG s l = true) : specReadG (gtxtTo s l l.length) = ((s, l), true) := by
  obtain ⟨⟨h1, h2⟩, h3, h4, _⟩ := okG_iff.1 h
  obtain ⟨n, rfl⟩ := Int.eq_ofNat_of_zero_le (show 0 ≤ s by omega)
  have a1 : rn (some (gtxtTo (n : Int) l l.length)) 1000000000 = (n, some (varB 9 l.length ++ l.flatMap edgeTxt)) := by rw [gtxt_all, vb_nat]; exact (rn_iff (by omega)).2 ⟨by omega, rfl⟩
  have a2 : rn (some (varB 9 l.length ++ l.flatMap edgeTxt)) 1000000000 = (l.length, some (l.flatMap edgeTxt)) := (rn_iff (by omega)).2 ⟨by omega, rfl⟩
  have a3 : sEdges l.length (some (l.flatMap edgeTxt)) = (l, some []) := by have := sEdges_back h2 l h4 []; rwa [List.append_nil] at this
  simp only [specReadG]
  rw [a1]; simp only []
  rw [a2]; simp only []
  rw [show min l.length 50 = l.length by omega, a3]; simp [h]
theorem specG_yes {s : List UInt8} (h : (specReadG s).2 = true) : implReadG s = ((specReadG s).1, true) := by
  simp only [specReadG, Bool.and_eq_true, decide_eq_true_eq] at h ⊢
  obtain ⟨⟨_, h2⟩, h3⟩ := h
  have := implG_back h2
  rwa [h3] at this
theorem specG_no {s : List UInt8} (h : (specReadG s).2 = false) : (implReadG s).2 = false := by
  rcases hv : (implReadG s).2 with _ | _
  · rfl
  · obtain ⟨h1, h2⟩ := implG_yes hv
    have h3 := specG_back h1
    rw [← h2] at h3
    rw [h3] at h; cases h
end Go.Proofs.Ytelikebpddhncaa
