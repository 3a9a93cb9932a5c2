/-
  impl.TurnedPath.
-/
import Derived.Test.YtdbogikcmfnpdaaRev
import Derived.Test.YtdbogikcmfnpdaaShpB
namespace Go.Proofs.Ytdbogikcmfnpdaa
open Go.RowKit

/-- a piece the other way round -/
def turnPc (x : Pc) : Pc := if x.1 = 2 then (x.1, x.2.1, x.2.2.reverse) else x
/-- the path that leads back; as it is where it is not right -/
def turnP (l : List Pc) : List Pc := if okP l = true then l.map turnPc else l
def turnTo (l : List Pc) (k : Nat) : List Pc := (List.range l.length).map fun i => if i < k then turnPc (pat l i) else pat l i
theorem turnTo_len (l : List Pc) (k : Nat) : (turnTo l k).length = l.length := by simp [turnTo]
theorem turnTo_at {l : List Pc} {k i : Nat} (h : i < l.length) : pat (turnTo l k) i = if i < k then turnPc (pat l i) else pat l i := by simp [turnTo, pat, List.getD, h]
theorem turnTo_zero (l : List Pc) : turnTo l 0 = l := by
  refine pat_ext (turnTo_len l 0) fun i hi => ?_
  rw [turnTo_at (by rw [turnTo_len] at hi; exact hi)]; simp
theorem turnTo_all (l : List Pc) : turnTo l l.length = l.map turnPc := by
  refine pat_ext (by simp [turnTo]) fun i hi => ?_
  have h2 : i < l.length := by rw [turnTo_len] at hi; exact hi
  rw [turnTo_at h2, if_pos h2]
  simp [pat, List.getD, h2]
theorem turnPc_len (x : Pc) : (turnPc x).2.2.length = x.2.2.length := by unfold turnPc; split <;> simp
theorem turnP_len (l : List Pc) : (turnP l).length = l.length := by unfold turnP; split <;> simp
theorem turnP_at {l : List Pc} {i : Nat} (h : i < l.length) : pat (turnP l) i = if okP l = true then turnPc (pat l i) else pat l i := by
  unfold turnP
  split
  · simp [pat, List.getD, h]
  · rfl
theorem turnP_row {l : List Pc} {i : Nat} (h : i < l.length) : (pat (turnP l) i).2.2.length = (pat l i).2.2.length := by
  rw [turnP_at h]; split
  · exact turnPc_len _
  · rfl
theorem turnP_kids {l : List Pc} : ∀ {k : Nat}, k ≤ l.length → kidsLen (turnP l) k = kidsLen l k
  | 0, _ => rfl
  | k + 1, h => by simp only [kidsLen]; rw [turnP_kids (by omega), turnP_row (by omega)]
theorem turnP_yes {l : List Pc} (h : okP l = true) : turnP l = l.map turnPc := by unfold turnP; rw [if_pos h]
theorem turnP_no {l : List Pc} (h : okP l = false) : turnP l = l := by unfold turnP; rw [if_neg (by rw [h]; decide)]

/-- kids of one piece changed in place -/
theorem PartPc.kids {lo hi b n k : Nat} {w w1 : World} {l l' : List Pc} {f : Nat → Value} {R : Nat → Option Addr} {C : Nat → Nat} {r' : List Int}
    (h1 : Blk w b (n * 3) f)
    (h2 : ∀ i, i < n → f (i * 3) = .int .i64 (pat l i).1 ∧ f (i * 3 + 1) = .int .u8 (pat l i).2.1 ∧ f (i * 3 + 2) = .slice (R i) (pat l i).2.2.length (C i) ∧ RowOwn lo hi w (R i) (pat l i).2.2 ∧ ((pat l i).2.2 ≠ [] → (∀ c, R i = some ⟨c, 0, none⟩ → c ≠ b) ∧ ∀ j, j < i → (pat l j).2.2 ≠ [] → R j ≠ R i))
    (hk : k < n) (hK : KeptP (fun c => (pat l k).2.2 ≠ [] ∧ R k = some ⟨c, 0, none⟩) w w1) (hr : RowOwn lo hi w1 (R k) r') (hl : r'.length = (pat l k).2.2.length)
    (e1 : pat l' k = ((pat l k).1, (pat l k).2.1, r')) (e2 : ∀ i, i < n → i ≠ k → pat l' i = pat l i) : PartPc lo hi w1 b l' n n := by
  have hrow : ∀ i, i < n → (pat l' i).2.2.length = (pat l i).2.2.length := by
    intro i hi
    by_cases e : i = k
    · subst e; rw [e1]; exact hl
    · rw [e2 i hi e]
  have hne : ∀ i, i < n → ((pat l' i).2.2 ≠ [] ↔ (pat l i).2.2 ≠ []) := fun i hi => ne_nil_len (hrow i hi)
  have hb1 := hK.blk h1 (fun ⟨h3, h4⟩ => ((h2 k hk).2.2.2.2 h3).1 b h4 rfl)
  refine ⟨f, R, C, hb1, fun i hin => ?_⟩
  obtain ⟨p0, p1, p2, p3, p4⟩ := h2 i hin
  refine ⟨?_, ?_, by rw [p2, hrow i hin], ?_, ?_⟩
  · by_cases e : i = k
    · subst e; rw [e1]; exact p0
    · rw [p0, e2 i hin e]
  · by_cases e : i = k
    · subst e; rw [e1]; exact p1
    · rw [p1, e2 i hin e]
  · by_cases e : i = k
    · subst e; rw [e1]; exact hr
    · rw [e2 i hin e]
      by_cases hi0 : (pat l i).2.2 = []
      · exact .inl hi0
      · rcases p3 with h | ⟨c, ec, h5, h6, h7⟩
        · exact absurd h hi0
        · refine .inr ⟨c, ec, h5, h6, hK.blk h7 (fun ⟨h9, h10⟩ => ?_)⟩
          rcases Nat.lt_or_ge i k with h | h
          · exact ((h2 k hk).2.2.2.2 h9).2 i h hi0 (by rw [ec, h10])
          · exact (p4 hi0).2 k (by omega) h9 (by rw [ec, h10])
  · intro h3
    have h4 := p4 ((hne i hin).1 h3)
    exact ⟨h4.1, fun j hj hj0 => h4.2 j hj ((hne j (by omega)).1 hj0)⟩
theorem PartPc.same {lo hi b n k : Nat} {w : World} {l l' : List Pc} (h : PartPc lo hi w b l n k) (e : ∀ i, i < k → pat l' i = pat l i) : PartPc lo hi w b l' n k := by
  obtain ⟨f, R, C, h1, h2⟩ := h
  refine ⟨f, R, C, h1, fun i hi => ?_⟩
  obtain ⟨p0, p1, p2, p3, p4⟩ := h2 i hi
  rw [e i hi]
  exact ⟨p0, p1, p2, p3, fun hne => ⟨(p4 hne).1, fun j hj hnj => (p4 hne).2 j hj (by rw [← e j (by omega)]; exact hnj)⟩⟩

end Go.Proofs.Ytdbogikcmfnpdaa
