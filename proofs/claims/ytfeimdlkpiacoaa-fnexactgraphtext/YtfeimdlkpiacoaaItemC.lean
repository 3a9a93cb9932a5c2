/-
  Lists of items that are owned; made new (toItemS, toBag); held against one another (eqItemS, eqBag).
-/
import Derived.Test.YtfeimdlkpiacoaaItemB
namespace Go.Proofs.Ytfeimdlkpiacoaa
open Go.RowKit

/-- the first k of n items lie in a block, their rows in blocks of their own -/
def PartOwn (lo hi : Nat) (w : World) (b : Nat) (l : List It) (n k : Nat) : Prop :=
  ∃ (f : Nat → Value) (R : Nat → Option Addr) (C : Nat → Nat), Blk w b (n * 2) f ∧ ∀ i, i < k → f (i * 2) = .slice (R i) (at' l i).1.length (C i) ∧ f (i * 2 + 1) = .int .i64 (at' l i).2 ∧ RowOwn lo hi w (R i) (at' l i).1 ∧
    ((at' l i).1 ≠ [] → (∀ c, R i = some ⟨c, 0, none⟩ → c ≠ b) ∧ ∀ j, j < i → (at' l j).1 ≠ [] → R j ≠ R i)

/-- a list of items that is owned -/
def BagOwn (lo hi : Nat) (w : World) (a : Option Addr) (l : List It) : Prop :=
  l = [] ∨ ∃ b, a = some ⟨b, 0, none⟩ ∧ lo ≤ b ∧ b < hi ∧ PartOwn lo hi w b l l.length l.length

theorem BagOwn.toIn {lo hi : Nat} {w : World} {a : Option Addr} {l : List It} (h : BagOwn lo hi w a l) : BagIn lo hi w a l := by
  rcases h with h | ⟨b, e, h1, h2, f, R, C, hB, hp⟩
  · exact .inl h
  · refine .inr ⟨b, 0, e, h1, h2, fun i hi => ?_⟩
    obtain ⟨e1, e2, e3, _⟩ := hp i hi
    refine ⟨R i, C i, ?_, e3.toIn, ?_⟩
    · rw [Nat.zero_add, hB.cell (by omega), e1]
    · rw [Nat.zero_add, hB.cell (by omega), e2]
theorem PartOwn.below {lo hi B b : Nat} {w w' : World} {l : List It} {n k : Nat} (h : PartOwn lo hi w b l n k) (hb : Below B w w') (hB : hi ≤ B) (hl : b < B) : PartOwn lo hi w' b l n k := by
  obtain ⟨f, R, C, h1, h2⟩ := h
  refine ⟨f, R, C, h1.of_block (hb.block b hl), fun i hi => ?_⟩
  obtain ⟨e1, e2, e3, e4⟩ := h2 i hi
  exact ⟨e1, e2, e3.below hb hB, e4⟩
theorem BagOwn.below {lo hi B : Nat} {w w' : World} {a : Option Addr} {l : List It} (h : BagOwn lo hi w a l) (hb : Below B w w') (hB : hi ≤ B) : BagOwn lo hi w' a l := by
  rcases h with h | ⟨b, e, h1, h2, h3⟩
  · exact .inl h
  · exact .inr ⟨b, e, h1, h2, h3.below hb hB (by omega)⟩
theorem PartOwn.wide {lo hi lo' hi' b : Nat} {w : World} {l : List It} {n k : Nat} (h : PartOwn lo hi w b l n k) (h1 : lo' ≤ lo) (h2 : hi ≤ hi') : PartOwn lo' hi' w b l n k := by
  obtain ⟨f, R, C, h3, h4⟩ := h
  refine ⟨f, R, C, h3, fun i hi => ?_⟩
  obtain ⟨e1, e2, e3, e4⟩ := h4 i hi
  exact ⟨e1, e2, e3.wide h1 h2, e4⟩
theorem BagOwn.wide {lo hi lo' hi' : Nat} {w : World} {a : Option Addr} {l : List It} (h : BagOwn lo hi w a l) (h1 : lo' ≤ lo) (h2 : hi ≤ hi') : BagOwn lo' hi' w a l := by
  rcases h with h | ⟨b, e, h3, h4, h5⟩
  · exact .inl h
  · exact .inr ⟨b, e, by omega, by omega, h5.wide h1 h2⟩

/-- one item more, whose row is new -/
theorem PartOwn.step {lo hi hi' b g cap : Nat} {w : World} {l : List It} {n k : Nat} (h : PartOwn lo hi w b l n k) (hk : k < n) (hb : b < hi) (hr : RowOwn hi hi' w (some ⟨g, 0, none⟩) (at' l k).1) (hlo : lo ≤ hi) (hhi : hi ≤ hi') :
    PartOwn lo hi' ((w.setCell ⟨b, k * 2, none⟩ (.slice (some ⟨g, 0, none⟩) (at' l k).1.length cap)).setCell ⟨b, k * 2 + 1, none⟩ (.int .i64 (at' l k).2)) b l n (k + 1) := by
  obtain ⟨f, R, C, h1, h2⟩ := h
  have hgb : (at' l k).1 ≠ [] → hi ≤ g := by
    intro hne
    rcases hr with h | ⟨c, e, h3, _, _⟩
    · exact absurd h hne
    · simp at e; omega
  have keep : ∀ {x y : Nat} {a : Option Addr} {r : List Int}, RowOwn x y w a r → (r ≠ [] → a ≠ some ⟨b, 0, none⟩) → RowOwn x y ((w.setCell ⟨b, k * 2, none⟩ (.slice (some ⟨g, 0, none⟩) (at' l k).1.length cap)).setCell ⟨b, k * 2 + 1, none⟩ (.int .i64 (at' l k).2)) a r := by
    intro x y a r hx hne
    by_cases h0 : r = []
    · exact .inl h0
    · rcases hx with h | ⟨c, e, h3, h4, h5⟩
      · exact absurd h h0
      · have hcb : c ≠ b := by intro e2; subst e2; exact hne h0 e
        refine .inr ⟨c, e, h3, h4, (h5.of_block (Below.heap_setCell w _ _ c (by simpa using hcb))).of_block (Below.heap_setCell _ _ _ c (by simpa using hcb))⟩
  refine ⟨_, fun i => if i = k then some ⟨g, 0, none⟩ else R i, fun i => if i = k then cap else C i, (h1.set (k * 2) (by omega) _).set (k * 2 + 1) (by omega) _, fun i hi2 => ?_⟩
  by_cases e : i = k
  · subst e
    refine ⟨by simp, by simp, ?_, ?_⟩
    · simp only [if_true]
      exact keep (hr.wide hlo (Nat.le_refl _)) (fun hne e => by have := hgb hne; simp at e <;> omega)
    · intro hne
      have hge := hgb hne
      refine ⟨fun c hc => by simp at hc; omega, fun j hj hnj => ?_⟩
      have : ¬ j = i := by omega
      simp only [this, if_false, if_true]
      intro e3
      obtain ⟨_, _, e4, _⟩ := h2 j (by omega)
      rcases e4 with h | ⟨c, ec, _, hc, _⟩
      · exact hnj h
      · rw [e3] at ec; simp at ec <;> omega
  · obtain ⟨e1, e2, e3, e4⟩ := h2 i (by omega)
    have n1 : ¬ i * 2 = k * 2 + 1 := by omega
    have n2 : ¬ i * 2 = k * 2 := by omega
    have n3 : ¬ i * 2 + 1 = k * 2 + 1 := by omega
    have n4 : ¬ i * 2 + 1 = k * 2 := by omega
    refine ⟨by simp only [n1, n2, if_false, e]; exact e1, by simp only [n3, n4, if_false]; exact e2, ?_, ?_⟩
    · simp only [e, if_false]
      exact (keep e3 (fun hne he => (e4 hne).1 b he rfl)).wide (Nat.le_refl _) hhi
    · intro hne
      simp only [e, if_false]
      refine ⟨(e4 hne).1, fun j hj hnj => ?_⟩
      have : ¬ j = k := by omega
      simp only [this, if_false]
      exact (e4 hne).2 j hj hnj

theorem PartOwn.of_blocks {lo hi b : Nat} {w w' : World} {l : List It} {n k : Nat} (h : PartOwn lo hi w b l n k) (h1 : w'.heap[b]? = w.heap[b]?) (h2 : ∀ c, lo ≤ c → c < hi → w'.heap[c]? = w.heap[c]?) : PartOwn lo hi w' b l n k := by
  obtain ⟨f, R, C, h3, h4⟩ := h
  refine ⟨f, R, C, h3.of_block h1, fun i hi => ?_⟩
  obtain ⟨e1, e2, e3, e4⟩ := h4 i hi
  refine ⟨e1, e2, ?_, e4⟩
  rcases e3 with h | ⟨c, ec, h5, h6, h7⟩
  · exact .inl h
  · exact .inr ⟨c, ec, h5, h6, h7.of_block (h2 c h5 h6)⟩
theorem BagOwn.setCell {lo hi b j : Nat} {w : World} {a : Option Addr} {l : List It} (h : BagOwn lo hi w a l) (hb : b < lo) (v : Value) : BagOwn lo hi (w.setCell ⟨b, j, none⟩ v) a l := by
  rcases h with h | ⟨g, e, h1, h2, h3⟩
  · exact .inl h
  · exact .inr ⟨g, e, h1, h2, h3.of_blocks (Below.heap_setCell w ⟨b, j, none⟩ v g (by simp; omega)) (fun c h4 _ => Below.heap_setCell w ⟨b, j, none⟩ v c (by simp; omega))⟩
/-- a new block of one cell -/
theorem blk_one (w : World) (b : Nat) (hb : b = w.heap.size) (x : Value) (T : TypeId) : Blk (w.alloc (.cells #[x] T)) b 1 (fun _ => x) :=
  hb ▸ blk_new w #[x] T _ (fun i hi => by
    have hi' : i < 1 := hi
    obtain rfl : i = 0 := by omega
    rfl)

end Go.Proofs.Ytfeimdlkpiacoaa
