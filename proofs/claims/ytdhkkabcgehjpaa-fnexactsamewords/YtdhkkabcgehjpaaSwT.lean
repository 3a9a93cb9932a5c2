/-
  Texts as words: runs of a text are runs of its letters.
-/
import Derived.Test.YtdhkkabcgehjpaaSwG
namespace Go.Proofs.Ytdhkkabcgehjpaa
open Go.RowKit

/-- a text's letters -/
def TW (T : ByteArray) (W : List Nat) : Prop := T.size = W.length ∧ ∀ i, i < W.length → bt T i = 97 + W.getD i 0
theorem take_snocN (W : List Nat) {k : Nat} (h : k < W.length) : W.take (k + 1) = W.take k ++ [W.getD k 0] := by
  rw [List.take_add_one, List.getD, List.getElem?_eq_getElem h]
  rfl
theorem run_TW (l : List Ed) {T : ByteArray} {W : List Nat} (h : TW T W) : ∀ k, k ≤ W.length → runL l T k = runW l (W.take k)
  | 0, _ => by simp [runL, runW]
  | k + 1, hk => by
    rw [take_snocN W (by omega), runW_snoc, ← run_TW l h k (by omega), ← h.2 k (by omega)]
    rfl
theorem takes_TW {s : Int} {l : List Ed} {m : Nat} {es : List Bool} (hok : okN s l m = true) {T : ByteArray} {W : List Nat} (h : TW T W) (h12 : W.length ≤ 12) : takesN s l m es T T.size = endTo (endM es) (runW l W) 24 := by
  unfold takesN
  rw [hok, h.1, run_TW l h W.length (Nat.le_refl _), List.take_length]
  simp [h12]
theorem goes_TW {s : Int} {l : List Ed} {m : Nat} (hok : okN s l m = true) {T : ByteArray} {W : List Nat} (h : TW T W) (h12 : W.length ≤ 12) : takesN s l m (allE m) T T.size = goesW l m W := by
  rw [takes_TW hok h h12]
  have h24 := okN_size hok
  unfold endTo goesW
  rw [Bool.eq_iff_iff, List.any_eq_true, List.any_eq_true]
  constructor
  · rintro ⟨j, _, h1⟩
    rw [Bool.and_eq_true] at h1
    exact ⟨j, List.mem_range.2 (run_low hok W h1.1), h1.1⟩
  · rintro ⟨j, hj, h1⟩
    have hj' := List.mem_range.1 hj
    refine ⟨j, List.mem_range.2 (by omega), ?_⟩
    unfold endM
    rw [h1, allE_get hj']; rfl
/-- one letter more -/
theorem TW.snoc {T U : ByteArray} {W : List Nat} {i : Nat} (h : TW T W) (hs : U.size = T.size + 1) (hl : ∀ k, k < T.size → bt U k = bt T k) (hc : bt U T.size = 97 + i) : TW U (W ++ [i]) := by
  refine ⟨by rw [hs, h.1]; simp, fun k hk => ?_⟩
  simp at hk
  by_cases e : k < W.length
  · rw [hl k (by rw [h.1]; exact e), h.2 k e]
    simp [List.getD, List.getElem?_append_left e]
  · obtain rfl : k = W.length := by omega
    rw [← h.1, hc]
    simp [List.getD, h.1]
theorem TW.nil {T : ByteArray} (h : T.size = 0) : TW T [] := ⟨by simpa using h, fun i hi => absurd hi (by simp)⟩
/-- the same text has the same letters -/
theorem TW.uniq {T : ByteArray} {W V : List Nat} (h : TW T W) (h' : TW T V) : W = V := by
  apply List.ext_getElem (by rw [← h.1, ← h'.1])
  intro i h1 h2
  have e1 := h.2 i h1
  have e2 := h'.2 i h2
  rw [e1] at e2
  simp only [List.getD, List.getElem?_eq_getElem h1, List.getElem?_eq_getElem h2, Option.getD_some] at e2
  omega
end Go.Proofs.Ytdhkkabcgehjpaa
