/-
  Two drawn rows (spec.DrawRowLess), and FnRowsLess.
-/
import Derived.Test.YtelikebpddhncaaBig
import Derived.Test.YtelikebpddhncaaApp
namespace Go.Proofs.Ytelikebpddhncaa
open Go.RowKit

/-- the cursor, whose bytes lie ahead of it -/
def CurL (p : Nat) (ao : Option Addr) (n cap : Nat) (w : World) : Prop := Cur p ao n cap w ∧ (n = 0 ∨ ∃ b off, ao = some ⟨b, off, none⟩ ∧ b < p)
theorem CurL.below {p n cap B : Nat} {ao : Option Addr} {w w' : World} (h : CurL p ao n cap w) (hb : Below B w w') (hB : p < B) : CurL p ao n cap w' := by
  obtain ⟨⟨i, x, hc⟩, hl⟩ := h
  refine ⟨⟨i, x, (hb.block p hB).trans hc.blk, hc.le, hc.small, ?_⟩, hl⟩
  rcases hc.code with h0 | ⟨b, off, e, h1, h2, h3⟩
  · exact .inl h0
  · rcases hl with h0 | ⟨b', off', e', h4⟩
    · exact .inl h0
    · rw [e] at e'
      simp only [Option.some.injEq, Addr.mk.injEq] at e'
      obtain ⟨rfl, rfl, _⟩ := e'
      exact .inr ⟨b, off, e, h1, Nat.lt_of_lt_of_le h2 hb.size, fun k hk => by
        obtain ⟨z, z0, z1, z2⟩ := h3 k hk
        exact ⟨z, z0, z1, cell_below z2 hb (by omega)⟩⟩
theorem CurL.draw {p n cap : Nat} {ao : Option Addr} {w : World} (h : CurL p ao n cap w) (m : Int) (h0 : 0 < m) (h1 : m ≤ 1000000000) :
    Calls Try.prog 60 #[.pointer (some ⟨p, 0, none⟩), .int .i64 m] w fun e w' => ∃ x : Int, e = .returned (.int .i64 x) ∧ 0 ≤ x ∧ x < m ∧ Hid (CurL p ao n cap w') ∧ Hid (KeptBut p w w') :=
  (below_cur w p n cap ao m h0 h1 h.1).mono fun _ _ ⟨x, e, x0, x1, hc, hk⟩ => ⟨x, e, x0, x1, ⟨hc, h.2⟩, hk⟩
theorem cur_start {w : World} {ao : Option Addr} {n : Nat} (h : CodeIn w ao n) : n = 0 ∨ ∃ b off, ao = some ⟨b, off, none⟩ ∧ b < w.heap.size := by
  rcases h with h | ⟨b, off, e, h1, _⟩
  · exact .inl h
  · exact .inr ⟨b, off, e, h1⟩
theorem KeptBut.owns {g B e s n : Nat} {w w1 : World} {v : Value} {xs : List Value} (h : KeptBut g w w1) (ho : w.ownsRow B e s v n xs) (hB : g < B) : w1.ownsRow B e s v n xs := by
  refine ⟨ho.1, ?_⟩
  rcases ho.2 with hn | ⟨g', cap, cur, rfl, hg, hh, r⟩
  · exact .inl hn
  · exact .inr ⟨g', cap, cur, rfl, hg, by rw [h.block g' (Array.getElem?_eq_some_iff.1 hh).1 (by omega)]; exact hh, r⟩
theorem KeptBut.rowOwn {g lo hi : Nat} {w w1 : World} {a : Option Addr} {l : List Int} (h : KeptBut g w w1) (ho : RowOwn lo hi w a l) (hB : g < lo) : RowOwn lo hi w1 a l := by
  rcases ho with h0 | ⟨b, e, h1, h2, h3⟩
  · exact .inl h0
  · exact .inr ⟨b, e, h1, h2, h3.of_block (h.block b h3.lt (by omega))⟩
theorem RowIn.keptBut {g lo hi : Nat} {w w1 : World} {a : Option Addr} {l : List Int} (h : RowIn lo hi w a l) (hk : KeptBut g w w1) (hB : g < lo) (hh : hi ≤ w.heap.size) : RowIn lo hi w1 a l := by
  rcases h with h0 | ⟨b, o, e, h1, h2, h3⟩
  · exact .inl h0
  · exact .inr ⟨b, o, e, h1, h2, fun i hi => by rw [← h3 i hi]; unfold World.cell?; rw [hk.block b (by omega) (by omega)]⟩

theorem row_snoc {w : World} {B n : Nat} {v : Value} {l : List Int} {x : Int} (h : w.ownsRow B 3 1 v n (rowCells l ++ [.int .i64 x])) : w.ownsRow B 3 1 v n (rowCells (l ++ [x])) := by simpa [rowCells] using h

end Go.Proofs.Ytelikebpddhncaa
