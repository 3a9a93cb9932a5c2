/-
  What both packages answer of a text, behind letters: Sealed and Unsealed answer the same.
-/
import Derived.Test.YtaaohmeabgopfaaDoorSeal
namespace Go.Proofs.YtaaohmeabgopfaaDoor
open Go.RowKit

/-- function f answers this text and this flag of the text s -/
def Tells (f : Nat) (s r : ByteArray) (b : Bool) (w : World) : Prop :=
  Calls Tryd.prog f #[.string s] w fun e w' => e = .returned (.tuple #[.string r, .bool b]) ∧ Below w.heap.size w w'

theorem sealed_same (s : ByteArray) : ∃ (r : ByteArray) (b : Bool), (∀ w, Tells 17 s r b w) ∧ ∀ w, FT w → Tells 11 s r b w := by
  by_cases h : s.size ≤ 20000
  · exact ⟨_, _, fun w => sSealed_yes s w h, fun w ht => Sealed_yes s w h ht⟩
  · exact ⟨_, _, fun w => sSealed_no s w (by omega), fun w _ => Sealed_no s w (by omega)⟩
theorem unsealed_same (s : ByteArray) (hs : s.size ≤ 1048576) : ∃ (r : ByteArray) (b : Bool), (∀ w, Tells 18 s r b w) ∧ ∀ w, FT w → Tells 12 s r b w := by
  by_cases h : s.size < 4 ∨ 20004 < s.size
  · exact ⟨_, _, fun w => sUnsealed_no s w hs h, fun w _ => Unsealed_no s w hs h⟩
  · have h1 : s.size - 4 + 4 = s.size := by omega
    obtain ⟨r, b, e⟩ : ∃ r b, unRes s = .tuple #[.string r, .bool b] := by
      unfold unRes
      split <;> exact ⟨_, _, rfl⟩
    refine ⟨r, b, fun w => ?_, fun w ht => ?_⟩
    · have := sUnsealed_mid s (s.size - 4) w h1 (by omega)
      rw [e] at this
      exact this
    · have := Unsealed_mid s (s.size - 4) w h1 (by omega) ht
      rw [e] at this
      exact this
end Go.Proofs.YtaaohmeabgopfaaDoor
