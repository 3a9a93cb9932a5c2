/-
  A list of graphs that grows: its graphs' edges lie off its own block.
-/
import Derived.Test.YtigojleieihdoaaDoorGp
namespace Go.Proofs.YtigojleieihdoaaDoor
open Go.RowKit

theorem EdgesIn.keptOff {lo hi : Nat} {p : Nat → Prop} {w w' : World} {a : Option Addr} {l : List Ed} (h : EdgesIn lo hi w a l) (hk : KeptP p w w') (hh : hi ≤ w.heap.size) (hp : l = [] ∨ ∃ b o, a = some ⟨b, o, none⟩ ∧ ¬ p b) : EdgesIn lo hi w' a l := by
  rcases h with h | ⟨b, o, e, h1, h2, h3⟩
  · exact .inl h
  · rcases hp with hp | ⟨b', o', e', hn⟩
    · exact .inl hp
    · rw [e] at e'
      simp only [Option.some.injEq, Addr.mk.injEq, and_true] at e'
      obtain ⟨rfl, rfl⟩ := e'
      refine .inr ⟨b, o, e, h1, h2, fun i hi => ?_⟩
      obtain ⟨c0, c1, c2⟩ := h3 i hi
      exact ⟨hk.cell c0 (by omega) hn, hk.cell c1 (by omega) hn, hk.cell c2 (by omega) hn⟩
theorem grown_kept {w w2 : World} {v : Value} (h : w.grownBy w2 v.ownBlock) : KeptP (fun c => v.ownBlock = some c) w w2 := ⟨h.os, h.tape, h.output, h.size, fun k hk hn => h.block k hk (fun e => hn e.symm)⟩
/-- a list of graphs of the call's own -/
structure PL (lo hi : Nat) (w : World) (v : Value) (k M : Nat) (T : List Pe) (G : List Gr) : Prop where
  row : w.ownsRow M 26 2 v k (pcells T)
  pts : PtsIn lo hi w T G
  off : ∀ i, i < G.length → (gat G i).2 = [] ∨ ∃ b o, (pat T i).2.1 = some ⟨b, o, none⟩ ∧ ¬ v.ownBlock = some b
  len : G.length = k
  hh : hi ≤ w.heap.size
theorem PL.below {lo hi k M : Nat} {w w' : World} {v : Value} {T : List Pe} {G : List Gr} (h : PL lo hi w v k M T G) (hb : Below w.heap.size w w') : PL lo hi w' v k M T G :=
  ⟨owns_later h.row hb, h.pts.below hb h.hh, h.off, h.len, Nat.le_trans h.hh hb.size⟩
theorem PL.keptBut {lo hi k M p : Nat} {w w' : World} {v : Value} {T : List Pe} {G : List Gr} (h : PL lo hi w v k M T G) (hb : KeptBut p w w') (h1 : p < lo) (h2 : p < M) : PL lo hi w' v k M T G :=
  ⟨hb.owns h.row h2, h.pts.kept hb.toP h.hh (fun c c1 _ e => by omega), h.off, h.len, Nat.le_trans h.hh hb.size⟩
theorem PL.made {lo hi M : Nat} {w : World} (hM : M ≤ w.heap.size) (hh : hi ≤ w.heap.size) : PL lo hi (w.alloc (.cells #[] 26)) (.slice (some ⟨w.heap.size, 0, none⟩) 0 0) 0 M [] [] := by
  refine ⟨?_, PtsIn.nil _ _ _, fun i hi => absurd hi (by simp), rfl, by simp; omega⟩
  have := World.ownsRow_made w (base := M) (e := 26) (size := 2) #[] 0 hM (Nat.zero_le _) rfl
  simpa [pcells] using this
theorem PL.app {lo hi hi2 M k g2 cap2 n c : Nat} {w1 w2 : World} {v : Value} {T : List Pe} {G : List Gr} {s : Int} {a : Option Addr} {l : List Ed} {o : Obj} (h : PL lo hi w1 v k M T G) (hl : l.length = n) (he : EdgesIn lo hi2 w1 a l) (hh2 : hi2 ≤ w1.heap.size) (hle : hi ≤ hi2)
    (hoff : l = [] ∨ ∃ b o, a = some ⟨b, o, none⟩ ∧ ¬ v.ownBlock = some b) (ho : w2.ownsRow M 26 2 (.slice (some ⟨g2, 0, none⟩) (k + 1) cap2) (k + 1) (pcells T ++ [.int .i64 s, .slice a n c])) (hg : (w1.alloc o).grownBy w2 v.ownBlock) (hc : v.ownBlock = some g2 ∨ w1.heap.size ≤ g2) :
    PL lo hi2 w2 (.slice (some ⟨g2, 0, none⟩) (k + 1) cap2) (k + 1) M (T ++ [(s, a, n, c)]) (G ++ [(s, l)]) := by
  have hk := grown_kept hg
  have hsz : w1.heap.size < w2.heap.size := by have := hk.size; simp at this; omega
  have key : ∀ (a' : Option Addr) (l' : List Ed), EdgesIn lo hi2 w1 a' l' → (l' = [] ∨ ∃ b o, a' = some ⟨b, o, none⟩ ∧ ¬ v.ownBlock = some b) → EdgesIn lo hi2 w2 a' l' ∧ (l' = [] ∨ ∃ b o, a' = some ⟨b, o, none⟩ ∧ ¬ (Value.slice (some ⟨g2, 0, none⟩) (k + 1) cap2).ownBlock = some b) := by
    intro a' l' h1 h2
    refine ⟨(h1.below (below1 w1 o) hh2).keptOff hk (by simp; omega) h2, ?_⟩
    rcases h1 with h1 | ⟨b, o', e, h3, h4, _⟩
    · exact .inl h1
    · rcases h2 with h2 | ⟨b', o'', e', hn⟩
      · exact .inl h2
      · rw [e] at e'
        simp only [Option.some.injEq, Addr.mk.injEq, and_true] at e'
        obtain ⟨rfl, rfl⟩ := e'
        refine .inr ⟨b, o', e, fun ee => ?_⟩
        have : g2 = b := by simpa [Value.ownBlock] using ee
        subst this
        rcases hc with hc | hc
        · exact hn hc
        · omega
  have hlenT : T.length = G.length := h.pts.len
  refine ⟨by rw [pcells_snoc]; exact ho, ?_, fun i hi => ?_, by rw [List.length_append, h.len]; rfl, by omega⟩
  · have hp : PtsIn lo hi2 w2 T G := ⟨hlenT, fun i hi => ⟨(h.pts.at' i hi).1, (h.pts.at' i hi).2.1, (key _ _ ((h.pts.at' i hi).2.2.wide (Nat.le_refl _) hle) (h.off i hi)).1⟩⟩
    exact hp.snoc hl (key a l he hoff).1
  · rw [List.length_append, List.length_singleton] at hi
    by_cases e : i < G.length
    · rw [pat_app (by rw [hlenT]; exact e), gat_app e]
      exact (key _ _ ((h.pts.at' i e).2.2.wide (Nat.le_refl _) hle) (h.off i e)).2
    · obtain rfl : i = G.length := by omega
      have := pat_last T (s, a, n, c)
      rw [hlenT] at this
      rw [this, gat_last]
      exact (key a l he hoff).2
/-- new edges lie off a list that was there ahead of them -/
theorem PL.fresh {lo hi k M B hi2 : Nat} {w w1 : World} {v : Value} {T : List Pe} {G : List Gr} {a : Option Addr} {l : List Ed} (h : PL lo hi w v k M T G) (hB : w.heap.size ≤ B) (he : EdgesIn B hi2 w1 a l) : l = [] ∨ ∃ b o, a = some ⟨b, o, none⟩ ∧ ¬ v.ownBlock = some b := by
  rcases he with he | ⟨b, o, e, h1, _, _⟩
  · exact .inl he
  · refine .inr ⟨b, o, e, fun hv => ?_⟩
    have := (h.row.lt b hv).2
    omega
theorem PL.grs {lo hi k M : Nat} {w : World} {v : Value} {T : List Pe} {G : List Gr} (h : PL lo hi w v k M T G) : ∃ a cap, v = .slice a k cap ∧ GrsIn 0 w.heap.size w a G := grs_of h.row h.pts h.len h.hh
end Go.Proofs.YtigojleieihdoaaDoor
