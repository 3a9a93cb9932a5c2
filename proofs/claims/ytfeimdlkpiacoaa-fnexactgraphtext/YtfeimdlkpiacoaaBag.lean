/-
  Bags: how one lies in the world (BagIn), one that is owned (BagOwn); rows and bags that came in, out of their readings.
-/
import Derived.Test.YtfeimdlkpiacoaaRowD
import Derived.ProofKit
import Derived.OpenShut
import Derived.ChangeOld
import Derived.Deep.SlicePairs
namespace Go.Proofs.Ytfeimdlkpiacoaa
open Go.ChangeShapes Go.WideShapes Go.ChangeAt Go.RowKit Go.Deep

/-- a row and how often it is there -/
abbrev It := List Int × Int

/-- an item that lies at a place: its row's slice, its Times -/
def ItemAt (lo hi : Nat) (w : World) (b o : Nat) (x : It) : Prop :=
  ∃ ra rc, w.cell? ⟨b, o, none⟩ = some (.slice ra x.1.length rc) ∧ RowIn lo hi w ra x.1 ∧ w.cell? ⟨b, o + 1, none⟩ = some (.int .i64 x.2)

/-- the items of a bag, that are reached by a slice; blocks are of lo .. hi - 1 -/
def BagIn (lo hi : Nat) (w : World) (a : Option Addr) (l : List It) : Prop :=
  l = [] ∨ ∃ b o, a = some ⟨b, o, none⟩ ∧ lo ≤ b ∧ b < hi ∧ ∀ i, i < l.length → ItemAt lo hi w b (o + i * 2) (l.getD i ([], 0))

theorem ItemAt.below {lo hi B : Nat} {w w' : World} {b o : Nat} {x : It} (h : ItemAt lo hi w b o x) (hb : Below B w w') (hB : hi ≤ B) (hl : b < hi) : ItemAt lo hi w' b o x := by
  obtain ⟨ra, rc, h1, h2, h3⟩ := h
  exact ⟨ra, rc, cell_below h1 hb (by omega), h2.below hb hB, cell_below h3 hb (by omega)⟩
theorem BagIn.below {lo hi B : Nat} {w w' : World} {a : Option Addr} {l : List It} (h : BagIn lo hi w a l) (hb : Below B w w') (hB : hi ≤ B) : BagIn lo hi w' a l := by
  rcases h with h | ⟨b, o, e, h1, h2, h3⟩
  · exact .inl h
  · exact .inr ⟨b, o, e, h1, h2, fun i hi => (h3 i hi).below hb hB h2⟩
theorem ItemAt.wide {lo hi lo' hi' : Nat} {w : World} {b o : Nat} {x : It} (h : ItemAt lo hi w b o x) (h1 : lo' ≤ lo) (h2 : hi ≤ hi') : ItemAt lo' hi' w b o x := by
  obtain ⟨ra, rc, h3, h4, h5⟩ := h
  exact ⟨ra, rc, h3, h4.wide h1 h2, h5⟩
theorem BagIn.wide {lo hi lo' hi' : Nat} {w : World} {a : Option Addr} {l : List It} (h : BagIn lo hi w a l) (h1 : lo' ≤ lo) (h2 : hi ≤ hi') : BagIn lo' hi' w a l := by
  rcases h with h | ⟨b, o, e, h3, h4, h5⟩
  · exact .inl h
  · exact .inr ⟨b, o, e, by omega, by omega, fun i hi => (h5 i hi).wide h1 h2⟩
theorem ItemAt.kept {lo hi : Nat} {p : Nat → Prop} {w w' : World} {b o : Nat} {x : It} (h : ItemAt lo hi w b o x) (hk : KeptP p w w') (hh : hi ≤ w.heap.size) (hp : ∀ k, lo ≤ k → k < hi → ¬ p k) (h1 : lo ≤ b) (h2 : b < hi) : ItemAt lo hi w' b o x := by
  obtain ⟨ra, rc, h3, h4, h5⟩ := h
  exact ⟨ra, rc, hk.cell h3 (by omega) (hp b h1 h2), h4.kept hk hh hp, hk.cell h5 (by omega) (hp b h1 h2)⟩
theorem BagIn.kept {lo hi : Nat} {p : Nat → Prop} {w w' : World} {a : Option Addr} {l : List It} (h : BagIn lo hi w a l) (hk : KeptP p w w') (hh : hi ≤ w.heap.size) (hp : ∀ k, lo ≤ k → k < hi → ¬ p k) : BagIn lo hi w' a l := by
  rcases h with h | ⟨b, o, e, h1, h2, h3⟩
  · exact .inl h
  · exact .inr ⟨b, o, e, h1, h2, fun i hi => (h3 i hi).kept hk hh hp h1 h2⟩
/-- an item of a bag -/
theorem BagIn.item {lo hi : Nat} {w : World} {a : Option Addr} {l : List It} (h : BagIn lo hi w a l) {k : Nat} (hk : k < l.length) : ∃ b o, a = some ⟨b, o, none⟩ ∧ lo ≤ b ∧ b < hi ∧ ItemAt lo hi w b (o + k * 2) (l.getD k ([], 0)) := by
  rcases h with rfl | ⟨b, o, e, h1, h2, h3⟩
  · simp at hk
  · exact ⟨b, o, e, h1, h2, h3 k hk⟩

theorem spot_none {w : World} {b off : Nat} {spot : Option Nat} {v : Value} (h : w.cell? ((⟨b, off, spot⟩ : Addr).add 0) = some v) : spot = none := by
  simpa [Addr.add] using World.cell?_spot h
theorem add_none (b off k : Nat) : (⟨b, off, none⟩ : Addr).add k = ⟨b, off + k, none⟩ := by unfold Addr.add; split <;> simp_all
theorem lt_of_cell {w : World} {b o : Nat} {v : Value} (h : w.cell? ⟨b, o, none⟩ = some v) : b < w.heap.size := by
  unfold World.cell? at h
  rcases Nat.lt_or_ge b w.heap.size with h1 | h1
  · exact h1
  · simp [Array.getElem?_eq_none h1] at h

/-- a row that came in, out of its reading -/
theorem row_trod {H : Type} {enc : TypeId × Value → H} {W : World} {fuel : Nat} {ao : Option Addr} {n cap : Nat} {x : DataW H × List MemPlace}
    (hf : DataW.trod enc Try.prog W 0 (fun _ => true) true fuel 41 [.slice ao n cap] = some x) : ∃ l : List Int, l.length = n ∧ RowIn 0 W.heap.size W ao l ∧ n ≤ maxLen := by
  rcases open_ints Try.underlying41 Try.underlying3 (by kernel_rfl) hf with ⟨hcs, _⟩ | ⟨x, l, c, zs, hcs, _, hl, hm, hz, _, hcell, hwz⟩
  · simp at hcs
    obtain ⟨rfl, rfl, rfl⟩ := hcs
    exact ⟨[], rfl, .inl rfl, Nat.zero_le _⟩
  · simp at hcs
    obtain ⟨rfl, rfl, rfl⟩ := hcs
    have hzl : zs.length = cap := by simpa using hz
    refine ⟨zs.take n, by simp; omega, ?_, by omega⟩
    by_cases h0 : n = 0
    · exact .inl (by subst h0; simp)
    · obtain ⟨b, off, spot⟩ := x
      have c0 := hcell 0 (by omega)
      obtain rfl := spot_none c0
      rw [add_none] at c0
      refine .inr ⟨b, off, rfl, Nat.zero_le _, lt_of_cell c0, fun i hi => ?_⟩
      have hi' : i < n := by simp at hi; omega
      have ck := hcell i (by omega)
      rw [add_none] at ck
      rw [ck]
      simp [List.getD, List.getElem?_take_of_lt hi']

theorem row_in {H : Type} {enc : TypeId × Value → H} {W : World} {ao : Option Addr} {n cap : Nat} {d : DataW H} {ps : List MemPlace}
    (h : DataW.Trod enc Try.prog W 0 (fun _ => true) true 41 (.slice ao n cap) d ps) : ∃ l : List Int, l.length = n ∧ RowIn 0 W.heap.size W ao l := by
  obtain ⟨fuel, hf⟩ := h
  obtain ⟨l, h1, h2, _⟩ := row_trod hf
  exact ⟨l, h1, h2⟩

end Go.Proofs.Ytfeimdlkpiacoaa
