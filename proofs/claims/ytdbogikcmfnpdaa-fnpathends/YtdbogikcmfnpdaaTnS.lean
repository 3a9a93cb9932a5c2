/-
  spec.TurnedPath.
-/
import Derived.Test.YtdbogikcmfnpdaaTnI
namespace Go.Proofs.Ytdbogikcmfnpdaa
open Go.RowKit

/-- as it was but for a box and what is new -/
abbrev Off (P M : Nat) (w w' : World) : Prop := KeptP (fun c => c = P ∨ M ≤ c) w w'
theorem turn_kid {r : Bool} {x y : Int} {ks : List Int} {TR : List Int} {m : Nat} (h : TR = (if r = true then turnPc (x, y, ks) else (x, y, ks)).2.2) (hm : m < ks.length) : TR.getD m 0 = if r = true ∧ x = 2 then ks.getD (ks.length - 1 - m) 0 else ks.getD m 0 := by
  rw [h]
  by_cases hr : r = true
  · rw [if_pos hr]
    unfold turnPc
    dsimp only
    by_cases hx : x = 2
    · rw [if_pos hx, if_pos ⟨hr, hx⟩]
      simp only [List.getD]
      rw [List.getElem?_reverse hm]
    · rw [if_neg hx, if_neg (fun h => hx h.2)]
  · rw [if_neg hr, if_neg (fun h => hr h.1)]

end Go.Proofs.Ytdbogikcmfnpdaa
