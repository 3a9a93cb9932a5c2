/-
  Whole arrays stored, the results of a box: of LdA and LdF what stands without leads.
-/
import Derived.Test.YtdhkkabcgehjpaaRowD
import Derived.Test.YtdhkkabcgehjpaaOk
import Derived.Test.YtdhkkabcgehjpaaEdB
import Derived.Test.YtdhkkabcgehjpaaEdC
import Derived.Test.YtdhkkabcgehjpaaHeld
import Derived.Deep.MidRow
namespace Go.Proofs.Ytdhkkabcgehjpaa
open Go.RowKit

theorem size_setCells (b : Nat) : ∀ (vs : List Value) (o : Nat) (w : World), (w.setCells b o vs).heap.size = w.heap.size
  | [], _, _ => rfl
  | v :: r, o, w => by rw [World.setCells, size_setCells b r]; simp
theorem block_setCells {b c : Nat} (h : c ≠ b) : ∀ (vs : List Value) (o : Nat) (w : World), (w.setCells b o vs).heap[c]? = w.heap[c]?
  | [], _, _ => rfl
  | v :: r, o, w => by rw [World.setCells, block_setCells h r, Below.heap_setCell w ⟨b, o, none⟩ v c (by simpa using h)]
theorem Below.setCells {B b : Nat} (hb : B ≤ b) : ∀ (vs : List Value) (o : Nat) {w w1 : World}, Below B w w1 → Below B w (w1.setCells b o vs)
  | [], _, _, _, h => h
  | v :: r, o, _, _, h => Below.setCells hb r (o + 1) (h.setCell hb v)
theorem KeptP.setCells {p : Nat → Prop} {g : Nat} (hg : p g) {w : World} : ∀ (vs : List Value) (o : Nat) {w1 : World}, KeptP p w w1 → KeptP p w (w1.setCells g o vs)
  | [], _, _, h => h
  | v :: r, o, _, h => KeptP.setCells hg r (o + 1) (h.setCell hg v)
theorem Blk.setRange {b n : Nat} : ∀ (vs : List Value) (o : Nat) {w : World} {f : Nat → Value}, Blk w b n f → o + vs.length ≤ n → Blk (w.setCells b o vs) b n (fun i => if o ≤ i ∧ i < o + vs.length then vs.getD (i - o) (.int .i64 0) else f i)
  | [], o, w, f, h, _ => h.congr fun i hi => by simp; intro h1 h2; omega
  | v :: r, o, w, f, h, hl => by
    simp only [List.length_cons] at hl
    have h2 := Blk.setRange r (o + 1) (h.set o (by omega) v) (by omega)
    refine h2.congr fun i hi => ?_
    by_cases e : i = o
    · subst e
      rw [if_neg (by omega), if_pos rfl, if_pos (by simp only [List.length_cons]; omega)]
      simp
    · by_cases e2 : o + 1 ≤ i ∧ i < o + 1 + r.length
      · rw [if_pos e2, if_pos (by simp only [List.length_cons]; omega)]
        obtain ⟨d, rfl⟩ : ∃ d, i = o + 1 + d := ⟨i - (o + 1), by omega⟩
        rw [show o + 1 + d - (o + 1) = d by omega, show o + 1 + d - o = d + 1 by omega]
        simp
      · rw [if_neg e2, if_neg e, if_neg (by simp only [List.length_cons]; omega)]
/-- an answer that lies in a block -/
theorem results_row {P : Program} {F : Func} {tmps : Array Value} {w : World} {k t b : Nat} {v : Value} (hr : F.results = #[.cell k t]) (hk : tmps[k]? = some (.pointer (some ⟨b, 0, none⟩))) (hl : (loadVar t ⟨b, 0, none⟩).run P w = .ok v w) : (results F tmps).run P w = .ok v w := by
  have e : (#[ResultVar.cell k t] : Array ResultVar) = [ResultVar.cell k t].toArray := rfl
  simp [results, hr, hk, asAddr, hl]
theorem results_row2 {P : Program} {F : Func} {tmps : Array Value} {w : World} {k m t b : Nat} {v u : Value} (hr : F.results = #[.cell k t, .tmp m]) (hk : tmps[k]? = some (.pointer (some ⟨b, 0, none⟩))) (hm : tmps[m]? = some u) (hl : (loadVar t ⟨b, 0, none⟩).run P w = .ok v w) : (results F tmps).run P w = .ok (.tuple #[v, u]) w := by
  have hm' : tmps[m]?.getD undef = u := by rw [hm]; rfl
  simp [results, hr, hk, asAddr, hl, hm]
theorem take_snocE (l : List Ed) {k : Nat} (h : k < l.length) : l.take (k + 1) = l.take k ++ [eat l k] := by
  rw [List.take_add_one]; simp [eat, List.getD, h]
end Go.Proofs.Ytdhkkabcgehjpaa
