/-
  Where pieces lead, in plain mathematics.
-/
import Derived.Test.YtdbogikcmfnpdaaLdD
namespace Go.Proofs.Ytdbogikcmfnpdaa
open Go.RowKit

def getR (all : List Rl) (k : Int) : Rl := all.getD k.toNat noR
def rowR (n : Nat) (all : List Rl) : List Int → Rl
  | [] => noR
  | k :: r => r.foldl (fun A k => behR n A (getR all k)) (getR all k)
def altR (all : List Rl) (ks : List Int) : Rl := ks.foldl (fun A k => orR A (getR all k)) noR
/-- where a piece leads, when it is known where those ahead of it do -/
def pcR (n : Nat) (l : List Ed) (all : List Rl) (x : Pc) : Rl :=
  if x.1 = 1 then stepR l x.2.1
  else if x.1 = 2 then rowR n all x.2.2
  else if x.1 = 3 then altR all x.2.2
  else if x.1 = 4 then starR n (getR all (x.2.2.getD 0 0))
  else if x.1 = 5 then plusR n (getR all (x.2.2.getD 0 0))
  else orR (getR all (x.2.2.getD 0 0)) idR
/-- where the pieces ahead of place k lead -/
def relTo (n : Nat) (l : List Ed) (ps : List Pc) : Nat → List Rl
  | 0 => []
  | k + 1 => relTo n l ps k ++ [pcR n l (relTo n l ps k) (pat ps k)]
theorem relTo_len (n : Nat) (l : List Ed) (ps : List Pc) : ∀ k, (relTo n l ps k).length = k
  | 0 => rfl
  | k + 1 => by simp [relTo, relTo_len n l ps k]
theorem relTo_last (n : Nat) (l : List Ed) (ps : List Pc) (k : Nat) : (relTo n l ps (k + 1)).getD k noR = pcR n l (relTo n l ps k) (pat ps k) := by
  have := relTo_len n l ps k
  simp only [relTo, List.getD]
  rw [List.getElem?_append_right (by omega), this]
  simp
theorem relTo_old {n : Nat} {l : List Ed} {ps : List Pc} {k i : Nat} (h : i < k) : (relTo n l ps (k + 1)).getD i noR = (relTo n l ps k).getD i noR := by
  have := relTo_len n l ps k
  simp only [relTo, List.getD]
  rw [List.getElem?_append_left (by omega)]
/-- where a whole path leads -/
def ldR (n : Nat) (l : List Ed) (ps : List Pc) : Rl := (relTo n l ps ps.length).getD (ps.length - 1) noR
/-- the ends of it, ascending -/
def endsL (n : Nat) (R : Rl) (i : Nat) : List Int := ((List.range n).filter (R i)).map fun (j : Nat) => (j : Int)
/-- the program's way through a row -/
def rowI (n : Nat) (all : List Rl) (ks : List Int) : Rl := ks.foldl (fun A k => behR n A (getR all k)) idR
theorem fold_beh_congr {n : Nat} {all : List Rl} : ∀ (ks : List Int) {A B : Rl}, (∀ i j, i < n → j < n → A i j = B i j) → ∀ i j, i < n → j < n → ks.foldl (fun A k => behR n A (getR all k)) A i j = ks.foldl (fun A k => behR n A (getR all k)) B i j
  | [], _, _, h, i, j, hi, hj => h i j hi hj
  | k :: ks, A, B, h, i, j, hi, hj => by
    rw [List.foldl_cons, List.foldl_cons]
    refine fold_beh_congr ks (fun i j hi hj => ?_) i j hi hj
    rw [Bool.eq_iff_iff, behR_iff, behR_iff]
    constructor
    · rintro ⟨m, hm, h1, h2⟩; exact ⟨m, hm, by rw [← h i m hi hm]; exact h1, h2⟩
    · rintro ⟨m, hm, h1, h2⟩; exact ⟨m, hm, by rw [h i m hi hm]; exact h1, h2⟩
theorem rowI_row {n : Nat} {all : List Rl} {ks : List Int} (hne : ks ≠ []) {i j : Nat} (hi : i < n) (hj : j < n) : rowI n all ks i j = rowR n all ks i j := by
  match ks, hne with
  | k :: r, _ =>
    unfold rowI rowR
    rw [List.foldl_cons]
    refine fold_beh_congr r (fun i j hi hj => ?_) i j hi hj
    rw [Bool.eq_iff_iff, behR_iff]
    constructor
    · rintro ⟨m, hm, h1, h2⟩; obtain rfl := idR_iff.1 h1; exact h2
    · intro h; exact ⟨i, hi, idR_iff.2 rfl, h⟩
/-- words of bits for each piece ahead -/
def AhIn (w : World) (v : Value) (k : Nat) (fs : Nat → Nat → Nat) : Prop :=
  k = 0 ∨ ∃ g cap, v = .slice (some ⟨g, 0, none⟩) k cap ∧ g < w.heap.size ∧ ∀ i, i < k → w.rangeAt g (i * 13) (lcells (fs i))
theorem range_of {w w' : World} {g o : Nat} {cs : List Value} (h : w.rangeAt g o cs) (e : w'.heap[g]? = w.heap[g]?) : w'.rangeAt g o cs := by
  intro j v hv
  rw [← h j v hv]
  unfold World.cell?
  rw [e]
theorem AhIn.below {w w' : World} {v : Value} {k : Nat} {fs : Nat → Nat → Nat} (h : AhIn w v k fs) (hb : Below w.heap.size w w') : AhIn w' v k fs := by
  rcases h with h | ⟨g, cap, e, h1, h2⟩
  · exact .inl h
  · exact .inr ⟨g, cap, e, Nat.lt_of_lt_of_le h1 hb.size, fun i hi => range_of (h2 i hi) (hb.block g h1)⟩
theorem AhIn.at {w : World} {v : Value} {k : Nat} {fs : Nat → Nat → Nat} (h : AhIn w v k fs) {i : Nat} (hi : i < k) : ∃ g cap, v = .slice (some ⟨g, 0, none⟩) k cap ∧ g < w.heap.size ∧ w.rangeAt g (i * 13) (lcells (fs i)) := by
  rcases h with h | ⟨g, cap, e, h1, h2⟩
  · omega
  · exact ⟨g, cap, e, h1, h2 i hi⟩
/-- bits that tell where each piece ahead leads -/
structure Ahead (N : Nat) (all : List Rl) (k : Nat) (fs : Nat → Nat → Nat) : Prop where
  len : all.length = k
  rep : ∀ i, i < k → Rep N (fs i) (all.getD i noR)
  lt : ∀ i, i < k → ∀ j, j < 13 → fs i j < 65536
theorem Ahead.kid {N : Nat} {all : List Rl} {k : Nat} {fs : Nat → Nat → Nat} (h : Ahead N all k fs) {z : Int} (h0 : 0 ≤ z) (h1 : z < (k : Int)) : Rep N (fs z.toNat) (getR all z) := h.rep z.toNat (by omega)
end Go.Proofs.Ytdbogikcmfnpdaa
