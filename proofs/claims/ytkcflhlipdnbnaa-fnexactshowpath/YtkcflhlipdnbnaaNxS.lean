/-
  Small lemmas on rows: of NxS what stands without sorting.
-/
import Derived.Test.YtkcflhlipdnbnaaApp
import Derived.Test.YtkcflhlipdnbnaaEdC
namespace Go.Proofs.Ytkcflhlipdnbnaa
open Go.RowKit

theorem cell_one_new' (w : World) (x : Value) (T : TypeId) : ∀ j u, [x][j]? = some u → (w.alloc (.cells #[x] T)).cell? ((⟨w.heap.size, 0, none⟩ : Addr).add j) = some u := by
  intro j u hu
  cases j with
  | zero =>
    simp at hu; subst hu
    rw [add_none]
    exact (blk_one w _ rfl x T).cell (i := 0) (by omega)
  | succ j => simp at hu
theorem take_snocI (l : List Int) {k : Nat} (h : k < l.length) : l.take (k + 1) = l.take k ++ [l.getD k 0] := by
  rw [List.take_add_one]; simp [List.getD, h]
theorem rowCells_snoc (l : List Int) (x : Int) : rowCells (l ++ [x]) = rowCells l ++ [.int .i64 x] := by simp [rowCells]
theorem owns_cap {B n cap : Nat} {w : World} {a : Option Addr} {xs : List Value} (h : w.ownsRow B 3 1 (.slice a n cap) n xs) : n ≤ cap := by
  rcases h.2 with ⟨h1, h2⟩ | ⟨g, cap', cur, h1, _, _, h4, _⟩
  · omega
  · simp only [Value.slice.injEq] at h1
    obtain ⟨_, _, rfl⟩ := h1
    exact h4
theorem owns_row {B n : Nat} {w : World} {v : Value} {l : List Int} (h : w.ownsRow B 3 1 v n (rowCells l)) (hn : l.length = n) : ∃ a cap, v = .slice a n cap ∧ RowIn B w.heap.size w a l := by
  obtain ⟨a, cap, h1, h2⟩ := rowOwn_of h hn
  exact ⟨a, cap, h1, h2.toIn⟩
theorem filterI_step {p : Int → Bool} {l : List Int} {k : Nat} (h : k < l.length) : (l.take (k + 1)).filter p = (l.take k).filter p ++ (if p (l.getD k 0) = true then [l.getD k 0] else []) := by
  rw [take_snocI l h, List.filter_append]
  by_cases hp : p (l.getD k 0) = true
  · simp only [List.getD] at hp ⊢; simp [hp]
  · simp only [List.getD] at hp ⊢; simp [hp]
theorem filterI_len {p : Int → Bool} (l : List Int) (k : Nat) : ((l.take k).filter p).length ≤ k := Nat.le_trans (List.length_filter_le _ _) (by rw [List.length_take]; omega)
theorem RowIn.num {lo hi i : Nat} {w : World} {a : Option Addr} {l : List Int} (h : RowIn lo hi w a l) (hi' : i < l.length) : ∃ b o, a = some ⟨b, o, none⟩ ∧ w.cell? ⟨b, o + i, none⟩ = some (.int .i64 (l.getD i 0)) := by
  rcases h with rfl | ⟨b, o, e, _, _, h3⟩
  · simp at hi'
  · exact ⟨b, o, e, h3 i hi'⟩
end Go.Proofs.Ytkcflhlipdnbnaa
