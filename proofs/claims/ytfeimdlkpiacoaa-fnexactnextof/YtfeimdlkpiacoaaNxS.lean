/-
  What is next, as far as place k; spec.l04Sorted.
-/
import Derived.Test.YtfeimdlkpiacoaaGPut
import Derived.Test.YtfeimdlkpiacoaaNxM
namespace Go.Proofs.Ytfeimdlkpiacoaa
open Go.RowKit

theorem cell_one_new' (w : World) (x : Value) (T : TypeId) : ∀ j u, [x][j]? = some u → (w.alloc (.cells #[x] T)).cell? ((⟨w.heap.size, 0, none⟩ : Addr).add j) = some u := by
  intro j u hu
  cases j with
  | zero =>
    simp at hu; subst hu
    rw [add_none]
    exact (blk_one w _ rfl x T).cell (i := 0) (by omega)
  | succ j => simp at hu
theorem take_snocI (l : List Int) {k : Nat} (h : k < l.length) : l.take (k + 1) = l.take k ++ [l.getD k 0] := by
  rw [List.take_add_one]; simp [List.getD, h]
/-- what edges lead on to, as far as place k -/
def nxTo (l : List Ed) (f b8 : Int) (k : Nat) : List Int := ((l.take k).filter (fun e => decide (e.1 = f) && decide (e.2.1 = b8))).map (fun e => e.2.2)
theorem nxTo_step {l : List Ed} {f b8 : Int} {k : Nat} (h : k < l.length) : nxTo l f b8 (k + 1) = nxTo l f b8 k ++ (if (decide ((eat l k).1 = f) && decide ((eat l k).2.1 = b8)) = true then [(eat l k).2.2] else []) := by
  unfold nxTo
  rw [filter_step (p := fun e => decide (e.1 = f) && decide (e.2.1 = b8)) h, List.map_append]
  split <;> simp
theorem nxTo_len (l : List Ed) (f b8 : Int) (k : Nat) : (nxTo l f b8 k).length ≤ k := by
  unfold nxTo; rw [List.length_map]; exact filter_len l k
/-- what is next, ascending, each once -/
def nextE (l : List Ed) (f b8 : Int) : List Int := nextL (nxTo l f b8 l.length)
theorem nextE_mem {l : List Ed} {f b8 x : Int} : x ∈ nextE l f b8 ↔ (f, b8, x) ∈ l := by
  unfold nextE nxTo
  rw [nextL_mem, List.take_length, List.mem_map]
  constructor
  · rintro ⟨⟨y0, y1, y2⟩, hy, rfl⟩
    obtain ⟨h1, h2⟩ := List.mem_filter.1 hy
    simp at h2
    obtain ⟨rfl, rfl⟩ := h2
    exact h1
  · intro h
    exact ⟨(f, b8, x), List.mem_filter.2 ⟨h, by simp⟩, rfl⟩
theorem nextE_len (l : List Ed) (f b8 : Int) : (nextE l f b8).length ≤ l.length := Nat.le_trans (nextL_len _) (nxTo_len l f b8 _)
theorem rowCells_snoc (l : List Int) (x : Int) : rowCells (l ++ [x]) = rowCells l ++ [.int .i64 x] := by simp [rowCells]
theorem owns_cap {B n cap : Nat} {w : World} {a : Option Addr} {xs : List Value} (h : w.ownsRow B 3 1 (.slice a n cap) n xs) : n ≤ cap := by
  rcases h.2 with ⟨h1, h2⟩ | ⟨g, cap', cur, h1, _, _, h4, _⟩
  · omega
  · simp only [Value.slice.injEq] at h1
    obtain ⟨_, _, rfl⟩ := h1
    exact h4
theorem owns_row {B n : Nat} {w : World} {v : Value} {l : List Int} (h : w.ownsRow B 3 1 v n (rowCells l)) (hn : l.length = n) : ∃ a cap, v = .slice a n cap ∧ RowIn B w.heap.size w a l := by
  obtain ⟨a, cap, h1, h2⟩ := rowOwn_of h hn
  exact ⟨a, cap, h1, h2.toIn⟩
theorem filterI_step {p : Int → Bool} {l : List Int} {k : Nat} (h : k < l.length) : (l.take (k + 1)).filter p = (l.take k).filter p ++ (if p (l.getD k 0) = true then [l.getD k 0] else []) := by
  rw [take_snocI l h, List.filter_append]
  by_cases hp : p (l.getD k 0) = true
  · simp only [List.getD] at hp ⊢; simp [hp]
  · simp only [List.getD] at hp ⊢; simp [hp]
theorem filterI_len {p : Int → Bool} (l : List Int) (k : Nat) : ((l.take k).filter p).length ≤ k := Nat.le_trans (List.length_filter_le _ _) (by rw [List.length_take]; omega)
theorem foldI_step {zs : List Int} {k : Nat} (h : k < zs.length) : nextL (zs.take (k + 1)) = putI (nextL (zs.take k)) (zs.getD k 0) := by
  unfold nextL
  rw [take_snocI zs h, List.foldl_append]
  rfl
theorem nextTake_len (zs : List Int) (k : Nat) : (nextL (zs.take k)).length ≤ k := Nat.le_trans (nextL_len _) (by rw [List.length_take]; omega)
/-- a number of a row that lies -/
theorem RowIn.num {lo hi i : Nat} {w : World} {a : Option Addr} {l : List Int} (h : RowIn lo hi w a l) (hi' : i < l.length) : ∃ b o, a = some ⟨b, o, none⟩ ∧ w.cell? ⟨b, o + i, none⟩ = some (.int .i64 (l.getD i 0)) := by
  rcases h with rfl | ⟨b, o, e, _, _, h3⟩
  · simp at hi'
  · exact ⟨b, o, e, h3 i hi'⟩

end Go.Proofs.Ytfeimdlkpiacoaa
