/-
  spec.BagText.
-/
import Derived.Deep.DeepCutAuto
import Derived.Test.YtfeimdlkpiacoaaTxt
namespace Go.Proofs.Ytfeimdlkpiacoaa
open Go.RowKit

theorem l01Var_let (x : Int) (w : World) (h0 : 0 ≤ x) (h1 : x ≤ 1000000000) :
    Calls Try.prog 48 #[.int .i64 x] w fun e w' => ∃ t : ByteArray, e = .returned (.string t) ∧ Hid (t.data.toList = vb x) ∧ Hid (Below w.heap.size w w') := by
  obtain ⟨n, rfl⟩ := Int.eq_ofNat_of_zero_le h0
  refine (sp.l01Var_any n w (by omega)).mono ?_
  rintro e w' ⟨rfl, hb⟩
  exact ⟨_, rfl, by simp [vb, Hid], hb⟩

theorem RowIn.cellAt {lo hi i : Nat} {w : World} {a : Option Addr} {l : List Int} (h : RowIn lo hi w a l) (hi' : i < l.length) : ∃ b o, a = some ⟨b, o, none⟩ ∧ b < hi ∧ w.cell? ⟨b, o + i, none⟩ = some (.int .i64 (l.getD i 0)) := by
  rcases h with rfl | ⟨b, o, e, _, h2, h3⟩
  · simp at hi'
  · exact ⟨b, o, e, h2, h3 i hi'⟩
theorem cat_list (s t : ByteArray) : (s ++ t).data.toList = s.data.toList ++ t.data.toList := by simp

end Go.Proofs.Ytfeimdlkpiacoaa
