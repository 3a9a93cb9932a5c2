/-
  Keys of the shelf: arrays of four numbers; what a map keyed by them reads as.
-/
import Derived.Test.YtijbngdafgmpaaaRow
import Derived.Maps.Own
import Derived.Maps.OwnOps
import Derived.Maps.OwnSet
import Derived.Maps.RangeWalk
import Derived.DeepKeys4
namespace Go.Proofs.Ytijbngdafgmpaaa
open Go.RowKit Go.Maps

theorem laidOut : laidOutB Try.prog = true := by kernel_rfl
theorem Try.cells106 : Try.prog.cellsOf 106 = 4 := by kernel_rfl
theorem Try.cells3 : Try.prog.cellsOf 3 = 1 := by kernel_rfl
theorem Try.types : ∃ d, Try.prog.types.size = d + 1 := ⟨Try.prog.types.size - 1, by kernel_rfl⟩
theorem Try.keyType106 : Try.prog.keyType 106 = true := by kernel_rfl
theorem Try.wide106 : (match Try.prog.underlying 106 with | some (.array _ _) | some (.struct _) => true | _ => false) = true := by rw [Try.underlying106]
set_option maxRecDepth 100000 in
theorem keyLaw : Keyed Try.prog 106 := Keyed.of_law (deep_law_laid laidOut (m := 2) (by omega) (of_decide_eq_true (by kernel_rfl)) (by kernel_rfl) Try.wide106)
theorem zero3 (w : World) : (zeroValue 3).run Try.prog w = .ok (.int .i64 0) w := by kernel_rfl

/-- a key -/
def keyV (x : Int × Int × Int × Int) : Value := .agg #[.int .i64 x.1, .int .i64 x.2.1, .int .i64 x.2.2.1, .int .i64 x.2.2.2]
/-- what a key reads as -/
def keyL (x : Int × Int × Int × Int) : Lit := .string (keyBytes [.int .i64 x.1, .int .i64 x.2.1, .int .i64 x.2.2.1, .int .i64 x.2.2.2])
/-- its numbers are ints -/
def keyW (x : Int × Int × Int × Int) : Prop := (Lit.int .i64 x.1).wf = true ∧ (Lit.int .i64 x.2.1).wf = true ∧ (Lit.int .i64 x.2.2.1).wf = true ∧ (Lit.int .i64 x.2.2.2).wf = true

set_option maxRecDepth 100000 in
theorem keyLits_int (d : Nat) (v : Value) (ls : List Lit) (h : Try.prog.keyLits (d + 1) 3 [v] = some ls) : ∃ x, v = .int .i64 x ∧ (Lit.int .i64 x).wf = true ∧ ls = [.int .i64 x] := by
  unfold Program.keyLits at h
  rw [Try.underlying3] at h
  cases v <;> simp at h
  obtain ⟨⟨rfl, hw⟩, rfl⟩ := h
  exact ⟨_, rfl, hw, rfl⟩
set_option maxRecDepth 100000 in
theorem keyLits_int_mk (d : Nat) {x : Int} (h : (Lit.int .i64 x).wf = true) : Try.prog.keyLits (d + 1) 3 [.int .i64 x] = some [.int .i64 x] := by
  unfold Program.keyLits
  rw [Try.underlying3]
  simp [h]

set_option maxRecDepth 100000 in
theorem key_mk {x : Int × Int × Int × Int} (h : keyW x) : keyOf Try.prog 106 (keyV x) = some (keyL x) := by
  obtain ⟨x0, x1, x2, x3⟩ := x
  obtain ⟨h0, h1, h2, h3⟩ := h
  obtain ⟨d, hd⟩ := Try.types
  unfold keyOf
  rw [Try.underlying106]
  simp only [Try.keyType106, Bool.true_and]
  have hf : (keyV (x0, x1, x2, x3)).formed Try.prog 106 = true := by simp [keyV, Value.formed, Try.underlying106, Try.cells106]
  rw [hf, hd]
  simp only [if_true]
  unfold Program.keyLits
  rw [Try.underlying106]
  simp only [keyV, Value.cells, Try.cells106, Try.cells3]
  simp only [List.length_cons, List.length_nil, if_true, List.range, List.range.loop, List.mapM_cons, List.mapM_nil, Nat.mul_one, List.drop, List.take, keyLits_int_mk d h0, keyLits_int_mk d h1, keyLits_int_mk d h2, keyLits_int_mk d h3]
  rfl

set_option maxRecDepth 100000 in
theorem key_inv {v : Value} {kl : Lit} (h : keyOf Try.prog 106 v = some kl) : ∃ x, v = keyV x ∧ keyW x ∧ kl = keyL x := by
  obtain ⟨xs, L, rfl, hL, rfl⟩ := keyOf_top Try.wide106 h
  obtain ⟨d, hd⟩ := Try.types
  rw [hd] at hL
  unfold Program.keyLits at hL
  rw [Try.underlying106] at hL
  simp only [Try.cells106, Try.cells3] at hL
  split at hL
  · rename_i hlen
    obtain ⟨xs⟩ := xs
    match xs, hlen, hL with
    | [v0, v1, v2, v3], _, hL =>
      simp only [List.range, List.range.loop, List.mapM_cons, List.mapM_nil, Nat.mul_one, List.drop, List.take] at hL
      rcases e0 : Try.prog.keyLits (d + 1) 3 [v0] with _ | l0
      · rw [e0] at hL; simp at hL
      rcases e1 : Try.prog.keyLits (d + 1) 3 [v1] with _ | l1
      · rw [e0, e1] at hL; simp at hL
      rcases e2 : Try.prog.keyLits (d + 1) 3 [v2] with _ | l2
      · rw [e0, e1, e2] at hL; simp at hL
      rcases e3 : Try.prog.keyLits (d + 1) 3 [v3] with _ | l3
      · rw [e0, e1, e2, e3] at hL; simp at hL
      rw [e0, e1, e2, e3] at hL
      obtain ⟨x0, rfl, w0, rfl⟩ := keyLits_int d _ _ e0
      obtain ⟨x1, rfl, w1, rfl⟩ := keyLits_int d _ _ e1
      obtain ⟨x2, rfl, w2, rfl⟩ := keyLits_int d _ _ e2
      obtain ⟨x3, rfl, w3, rfl⟩ := keyLits_int d _ _ e3
      simp at hL
      subst hL
      exact ⟨(x0, x1, x2, x3), rfl, ⟨w0, w1, w2, w3⟩, rfl⟩
  · cases hL
theorem key_eq {x y : Int × Int × Int × Int} (hx : keyW x) (hy : keyW y) (h : keyL x = keyL y) : x = y := by
  have e := keyLaw.inj (key_mk hx) (by rw [h]; exact key_mk hy)
  obtain ⟨x0, x1, x2, x3⟩ := x
  obtain ⟨y0, y1, y2, y3⟩ := y
  simp [keyV] at e
  obtain ⟨rfl, rfl, rfl, rfl⟩ := e
  rfl
end Go.Proofs.Ytijbngdafgmpaaa
