/-
  Bags: how one lies in the world (BagIn), one that is owned (BagOwn); rows and bags that came in, out of their readings.
-/
import Derived.Test.YtijbngdafgmpaaaRowD
import Derived.ProofKit
import Derived.OpenShut
import Derived.ChangeOld
import Derived.Deep.SlicePairs
namespace Go.Proofs.Ytijbngdafgmpaaa
open Go.ChangeShapes Go.WideShapes Go.ChangeAt Go.RowKit Go.Deep

/-- a row and how often it is there -/
abbrev It := List Int × Int

/-- an item that lies at a place: its row's slice, its Times -/
def ItemAt (lo hi : Nat) (w : World) (b o : Nat) (x : It) : Prop :=
  ∃ ra rc, w.cell? ⟨b, o, none⟩ = some (.slice ra x.1.length rc) ∧ RowIn lo hi w ra x.1 ∧ w.cell? ⟨b, o + 1, none⟩ = some (.int .i64 x.2)

/-- the items of a bag, that are reached by a slice; blocks are of lo .. hi - 1 -/
def BagIn (lo hi : Nat) (w : World) (a : Option Addr) (l : List It) : Prop :=
  l = [] ∨ ∃ b o, a = some ⟨b, o, none⟩ ∧ lo ≤ b ∧ b < hi ∧ ∀ i, i < l.length → ItemAt lo hi w b (o + i * 2) (l.getD i ([], 0))

theorem ItemAt.below {lo hi B : Nat} {w w' : World} {b o : Nat} {x : It} (h : ItemAt lo hi w b o x) (hb : Below B w w') (hB : hi ≤ B) (hl : b < hi) : ItemAt lo hi w' b o x := by
  obtain ⟨ra, rc, h1, h2, h3⟩ := h
  exact ⟨ra, rc, cell_below h1 hb (by omega), h2.below hb hB, cell_below h3 hb (by omega)⟩
theorem BagIn.below {lo hi B : Nat} {w w' : World} {a : Option Addr} {l : List It} (h : BagIn lo hi w a l) (hb : Below B w w') (hB : hi ≤ B) : BagIn lo hi w' a l := by
  rcases h with h | ⟨b, o, e, h1, h2, h3⟩
  · exact .inl h
  · exact .inr ⟨b, o, e, h1, h2, fun i hi => (h3 i hi).below hb hB h2⟩
theorem ItemAt.wide {lo hi lo' hi' : Nat} {w : World} {b o : Nat} {x : It} (h : ItemAt lo hi w b o x) (h1 : lo' ≤ lo) (h2 : hi ≤ hi') : ItemAt lo' hi' w b o x := by
  obtain ⟨ra, rc, h3, h4, h5⟩ := h
  exact ⟨ra, rc, h3, h4.wide h1 h2, h5⟩
theorem BagIn.wide {lo hi lo' hi' : Nat} {w : World} {a : Option Addr} {l : List It} (h : BagIn lo hi w a l) (h1 : lo' ≤ lo) (h2 : hi ≤ hi') : BagIn lo' hi' w a l := by
  rcases h with h | ⟨b, o, e, h3, h4, h5⟩
  · exact .inl h
  · exact .inr ⟨b, o, e, by omega, by omega, fun i hi => (h5 i hi).wide h1 h2⟩
theorem ItemAt.kept {lo hi : Nat} {p : Nat → Prop} {w w' : World} {b o : Nat} {x : It} (h : ItemAt lo hi w b o x) (hk : KeptP p w w') (hh : hi ≤ w.heap.size) (hp : ∀ k, lo ≤ k → k < hi → ¬ p k) (h1 : lo ≤ b) (h2 : b < hi) : ItemAt lo hi w' b o x := by
  obtain ⟨ra, rc, h3, h4, h5⟩ := h
  exact ⟨ra, rc, hk.cell h3 (by omega) (hp b h1 h2), h4.kept hk hh hp, hk.cell h5 (by omega) (hp b h1 h2)⟩
theorem BagIn.kept {lo hi : Nat} {p : Nat → Prop} {w w' : World} {a : Option Addr} {l : List It} (h : BagIn lo hi w a l) (hk : KeptP p w w') (hh : hi ≤ w.heap.size) (hp : ∀ k, lo ≤ k → k < hi → ¬ p k) : BagIn lo hi w' a l := by
  rcases h with h | ⟨b, o, e, h1, h2, h3⟩
  · exact .inl h
  · exact .inr ⟨b, o, e, h1, h2, fun i hi => (h3 i hi).kept hk hh hp h1 h2⟩
/-- an item of a bag -/
theorem BagIn.item {lo hi : Nat} {w : World} {a : Option Addr} {l : List It} (h : BagIn lo hi w a l) {k : Nat} (hk : k < l.length) : ∃ b o, a = some ⟨b, o, none⟩ ∧ lo ≤ b ∧ b < hi ∧ ItemAt lo hi w b (o + k * 2) (l.getD k ([], 0)) := by
  rcases h with rfl | ⟨b, o, e, h1, h2, h3⟩
  · simp at hk
  · exact ⟨b, o, e, h1, h2, h3 k hk⟩

theorem spot_none {w : World} {b off : Nat} {spot : Option Nat} {v : Value} (h : w.cell? ((⟨b, off, spot⟩ : Addr).add 0) = some v) : spot = none := by
  simpa [Addr.add] using World.cell?_spot h
theorem add_none (b off k : Nat) : (⟨b, off, none⟩ : Addr).add k = ⟨b, off + k, none⟩ := by unfold Addr.add; split <;> simp_all
theorem lt_of_cell {w : World} {b o : Nat} {v : Value} (h : w.cell? ⟨b, o, none⟩ = some v) : b < w.heap.size := by
  unfold World.cell? at h
  rcases Nat.lt_or_ge b w.heap.size with h1 | h1
  · exact h1
  · simp [Array.getElem?_eq_none h1] at h

/-- a row that came in, out of its reading -/
theorem row_trod {H : Type} {enc : TypeId × Value → H} {W : World} {fuel : Nat} {ao : Option Addr} {n cap : Nat} {x : DataW H × List MemPlace}
    (hf : DataW.trod enc Try.prog W 0 (fun _ => true) true fuel 29 [.slice ao n cap] = some x) : ∃ l : List Int, l.length = n ∧ RowIn 0 W.heap.size W ao l ∧ n ≤ maxLen := by
  rcases open_ints Try.underlying29 Try.underlying3 (by kernel_rfl) hf with ⟨hcs, _⟩ | ⟨x, l, c, zs, hcs, _, hl, hm, hz, _, hcell, hwz⟩
  · simp at hcs
    obtain ⟨rfl, rfl, rfl⟩ := hcs
    exact ⟨[], rfl, .inl rfl, Nat.zero_le _⟩
  · simp at hcs
    obtain ⟨rfl, rfl, rfl⟩ := hcs
    have hzl : zs.length = cap := by simpa using hz
    refine ⟨zs.take n, by simp; omega, ?_, by omega⟩
    by_cases h0 : n = 0
    · exact .inl (by subst h0; simp)
    · obtain ⟨b, off, spot⟩ := x
      have c0 := hcell 0 (by omega)
      obtain rfl := spot_none c0
      rw [add_none] at c0
      refine .inr ⟨b, off, rfl, Nat.zero_le _, lt_of_cell c0, fun i hi => ?_⟩
      have hi' : i < n := by simp at hi; omega
      have ck := hcell i (by omega)
      rw [add_none] at ck
      rw [ck]
      simp [List.getD, List.getElem?_take_of_lt hi']

theorem row_in {H : Type} {enc : TypeId × Value → H} {W : World} {ao : Option Addr} {n cap : Nat} {d : DataW H} {ps : List MemPlace}
    (h : DataW.Trod enc Try.prog W 0 (fun _ => true) true 29 (.slice ao n cap) d ps) : ∃ l : List Int, l.length = n ∧ RowIn 0 W.heap.size W ao l := by
  obtain ⟨fuel, hf⟩ := h
  obtain ⟨l, h1, h2, _⟩ := row_trod hf
  exact ⟨l, h1, h2⟩

/-- the items that came in, out of their reading -/
theorem items_trod {H : Type} {enc : TypeId × Value → H} {W : World} {fuel : Nat} {v : Value} {x : DataW H × List MemPlace}
    (hf : DataW.trod enc Try.prog W 0 (fun _ => true) true fuel 50 [v] = some x) : ∃ (ao : Option Addr) (n cap : Nat) (l : List It), v = .slice ao n cap ∧ n ≤ maxLen ∧ (l.length = n ∧ ∀ i, i < n → (l.getD i ([], 0)).1.length ≤ maxLen) ∧ BagIn 0 W.heap.size W ao l := by
  rcases open_slice_pairs Try.underlying50 Try.underlying118 (by kernel_rfl) rfl rfl (by kernel_rfl) (by kernel_rfl) hf with ⟨hcs, _⟩ | ⟨a, len, cap, m, n, V0, V1, D0, D1, P0, P1, hcs, _, hl, hm, hmm, _, hx⟩
  · simp at hcs
    subst hcs
    exact ⟨none, 0, 0, [], rfl, Nat.zero_le _, ⟨rfl, fun i hi => absurd hi (Nat.not_lt_zero _)⟩, .inl rfl⟩
  · simp at hcs
    subst hcs
    have hlm : len ≤ m := by rw [hmm]; simp; exact hl
    have each : ∀ i, i < len → ∃ q : (Option Addr × Nat) × It, V0 i = .slice q.1.1 q.2.1.length q.1.2 ∧ RowIn 0 W.heap.size W q.1.1 q.2.1 ∧ V1 i = .int .i64 q.2.2 ∧ q.2.1.length ≤ maxLen := by
      intro i hi
      obtain ⟨c0, c1, t0, t1⟩ := hx i (by omega)
      obtain ⟨z, e1, _, _⟩ := DataW.trod_int Try.underlying3 t1
      have e0 : ∃ ra rn rc, V0 i = .slice ra rn rc := by
        rcases open_ints Try.underlying29 Try.underlying3 (by kernel_rfl) t0 with ⟨h, _⟩ | ⟨_, _, _, _, h, _⟩ <;> (simp at h; exact ⟨_, _, _, h⟩)
      obtain ⟨ra, rn, rc, e0⟩ := e0
      rw [e0] at t0
      obtain ⟨l, hl1, hl2, hl3⟩ := row_trod t0
      simp at e1
      exact ⟨((ra, rc), (l, z)), by rw [e0, hl1], hl2, e1, by rw [hl1]; exact hl3⟩
    obtain ⟨f, hfn⟩ := choose_lt each
    have hgd : ∀ i, i < len → ((List.range len).map fun i => (f i).2).getD i ([], 0) = (f i).2 := fun i hi => by simp [List.getD, hi]
    refine ⟨some a, len, cap, (List.range len).map fun i => (f i).2, rfl, by omega, ⟨by simp, fun i hi => by rw [hgd i hi]; exact (hfn i hi).2.2.2⟩, ?_⟩
    by_cases h0 : len = 0
    · exact .inl (by subst h0; rfl)
    · obtain ⟨b, off, spot⟩ := a
      have c0 := (hx 0 (by omega)).1
      obtain rfl := spot_none (by simpa using c0)
      rw [add_none] at c0
      refine .inr ⟨b, off, rfl, Nat.zero_le _, lt_of_cell c0, fun i hi => ?_⟩
      simp at hi
      obtain ⟨c0, c1, _, _⟩ := hx i (by omega)
      obtain ⟨h1, h2, h3, _⟩ := hfn i hi
      rw [add_none] at c0 c1
      rw [hgd i hi]
      exact ⟨_, _, by rw [c0, h1], h2, by rw [Nat.add_assoc, c1, h3]⟩

theorem cells52 : Try.prog.cellsOf 52 = 1 := by kernel_rfl
theorem cells50 : Try.prog.cellsOf 50 = 1 := by kernel_rfl
set_option maxRecDepth 100000 in
/-- a bag that came in, out of its reading -/
theorem bag_in {H : Type} {enc : TypeId × Value → H} {W : World} {r : Reach} {b0 : Nat} {v : Value} {d : DataW H} {ps : List MemPlace} (hv : Value.okWide Try.prog W r b0 52 v)
    (h : DataW.Trod enc Try.prog W 0 (fun _ => true) true 52 v d ps) : ∃ (ao : Option Addr) (n cap : Nat) (l : List It), v = .agg #[.slice ao n cap] ∧ n ≤ maxLen ∧ (l.length = n ∧ ∀ i, i < n → (l.getD i ([], 0)).1.length ≤ maxLen) ∧ BagIn 0 W.heap.size W ao l := by
  obtain ⟨cs, rfl, hsz⟩ := okWide_struct Try.underlying52 hv
  have h1 : cs.size = 1 := hsz.trans cells52
  obtain ⟨v0, rfl⟩ : ∃ v0, cs = #[v0] := by
    refine ⟨cs[0], ?_⟩
    apply Array.ext (by simpa using h1)
    intro i hi hi'
    simp at hi'
    subst hi'
    rfl
  obtain ⟨fuel, hf⟩ := h
  obtain ⟨y0, n, hx, _, h0⟩ := trod_struct1 Try.underlying52 hf
  have h0' : DataW.trod enc Try.prog W 0 (fun _ => true) true n 50 [v0] = some y0 := by simpa [Value.cells, cells50] using h0
  obtain ⟨ao, n', cap, l, rfl, hm, hl, hb⟩ := items_trod h0'
  exact ⟨ao, n', cap, l, rfl, hm, hl, hb⟩
end Go.Proofs.Ytijbngdafgmpaaa
