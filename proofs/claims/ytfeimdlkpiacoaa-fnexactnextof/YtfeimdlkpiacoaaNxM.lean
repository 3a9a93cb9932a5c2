/-
  Numbers ascending, each once: the plain mathematics; slices.Sort and slices.Compact over a row of the call's own.
-/
import Derived.Test.YtfeimdlkpiacoaaShelfT
import Derived.Test.YtfeimdlkpiacoaaGPut
namespace Go.Proofs.Ytfeimdlkpiacoaa
open Go.RowKit

/-- ascending, each once -/
def SrtI (l : List Int) : Prop := l.Pairwise (· < ·)
theorem srtI_ext : ∀ {l l' : List Int}, SrtI l → SrtI l' → (∀ x, x ∈ l ↔ x ∈ l') → l = l'
  | [], [], _, _, _ => rfl
  | [], y :: ys, _, _, h => absurd ((h y).2 (by simp)) (by simp)
  | x :: xs, [], _, _, h => absurd ((h x).1 (by simp)) (by simp)
  | x :: xs, y :: ys, h1, h2, h => by
    have a1 := List.pairwise_cons.1 h1
    have a2 := List.pairwise_cons.1 h2
    have e : x = y := by
      have hx := (h x).1 (by simp)
      have hy := (h y).2 (by simp)
      rcases List.mem_cons.1 hx with e | e
      · exact e
      · rcases List.mem_cons.1 hy with e' | e'
        · exact e'.symm
        · have := a2.1 x e; have := a1.1 y e'; omega
    subst e
    congr 1
    refine srtI_ext a1.2 a2.2 fun z => ⟨fun hz => ?_, fun hz => ?_⟩
    · rcases List.mem_cons.1 ((h z).1 (List.mem_cons_of_mem _ hz)) with e | e
      · subst e; have := a1.1 z hz; omega
      · exact e
    · rcases List.mem_cons.1 ((h z).2 (List.mem_cons_of_mem _ hz)) with e | e
      · subst e; have := a2.1 z hz; omega
      · exact e
/-- a number put into its place -/
def putI (l : List Int) (x : Int) : List Int := l.filter (fun y => decide (y < x)) ++ x :: l.filter (fun y => decide (x < y))
theorem mem_putI {l : List Int} {x y : Int} : y ∈ putI l x ↔ y = x ∨ y ∈ l := by
  unfold putI
  simp only [List.mem_append, List.mem_cons, List.mem_filter, decide_eq_true_eq]
  constructor
  · rintro (h | h | h)
    · exact .inr h.1
    · exact .inl h
    · exact .inr h.1
  · rintro (h | h)
    · exact .inr (.inl h)
    · rcases Int.lt_trichotomy y x with h1 | h1 | h1
      · exact .inl ⟨h, h1⟩
      · exact .inr (.inl h1)
      · exact .inr (.inr ⟨h, h1⟩)
theorem srt_putI {l : List Int} (h : SrtI l) (x : Int) : SrtI (putI l x) := by
  unfold putI SrtI
  rw [List.pairwise_append]
  refine ⟨List.Pairwise.filter _ h, ?_, ?_⟩
  · rw [List.pairwise_cons]
    exact ⟨fun y hy => of_decide_eq_true (List.mem_filter.1 hy).2, List.Pairwise.filter _ h⟩
  · intro y hy z hz
    have h1 : y < x := of_decide_eq_true (List.mem_filter.1 hy).2
    rcases List.mem_cons.1 hz with rfl | hz
    · exact h1
    · have h2 : x < z := of_decide_eq_true (List.mem_filter.1 hz).2
      omega
theorem putI_len (l : List Int) (x : Int) : (putI l x).length ≤ l.length + 1 := by
  unfold putI
  have h1 : (l.filter (fun y => decide (y < x))).length + (l.filter (fun y => decide (x < y))).length ≤ l.length := by
    induction l with
    | nil => simp
    | cons y ys ih =>
      rcases Int.lt_trichotomy y x with h | h | h
      · simp only [List.filter_cons, h, decide_true, if_true, show ¬ x < y by omega, decide_false]; simp; omega
      · subst h; simp; omega
      · simp only [List.filter_cons, h, decide_true, if_true, show ¬ y < x by omega, decide_false]; simp; omega
  simp; omega
/-- numbers ascending, each once -/
def nextL (zs : List Int) : List Int := zs.foldl putI []
theorem foldI_srt (zs : List Int) : ∀ acc, SrtI acc → SrtI (zs.foldl putI acc) := by
  induction zs with
  | nil => intro acc h; exact h
  | cons x xs ih => intro acc h; exact ih _ (srt_putI h _)
theorem foldI_mem (zs : List Int) : ∀ acc x, x ∈ zs.foldl putI acc ↔ x ∈ acc ∨ x ∈ zs := by
  induction zs with
  | nil => intro acc x; simp
  | cons y ys ih =>
    intro acc x
    rw [List.foldl_cons, ih, mem_putI, List.mem_cons]
    constructor
    · rintro ((h | h) | h)
      · exact .inr (.inl h)
      · exact .inl h
      · exact .inr (.inr h)
    · rintro (h | h | h)
      · exact .inl (.inr h)
      · exact .inl (.inl h)
      · exact .inr h
theorem foldI_len (zs : List Int) : ∀ acc : List Int, (zs.foldl putI acc).length ≤ acc.length + zs.length := by
  induction zs with
  | nil => intro acc; simp
  | cons x xs ih => intro acc; rw [List.foldl_cons, List.length_cons]; have := ih (putI acc x); have := putI_len acc x; omega
theorem nextL_srt (zs : List Int) : SrtI (nextL zs) := foldI_srt zs [] List.Pairwise.nil
theorem nextL_mem {zs : List Int} {x : Int} : x ∈ nextL zs ↔ x ∈ zs := by unfold nextL; rw [foldI_mem]; simp
theorem nextL_len (zs : List Int) : (nextL zs).length ≤ zs.length := by have := foldI_len zs []; simpa [nextL] using this

theorem compact_upto (zs : List Int) (h : zs.Pairwise (· ≤ ·)) : ∀ m, m ≤ zs.length → SrtI (Lib.compactUpTo zs.toArray m) ∧ (∀ x, x ∈ Lib.compactUpTo zs.toArray m ↔ ∃ j, j < m ∧ zs.toArray[j]! = x) := by
  have hat : ∀ j, j < zs.length → zs.toArray[j]! = zs.getD j 0 := fun j hj => by
    rw [getElem!_pos zs.toArray j (by simpa using hj)]; simp [List.getD, hj]
  have hle : ∀ i j, i ≤ j → j < zs.length → zs.getD i 0 ≤ zs.getD j 0 := fun i j hij hj => by
    rcases Nat.lt_or_ge i j with h1 | h1
    · have := List.pairwise_iff_getElem.1 h i j (by omega) hj h1
      simpa [List.getD, hj, show i < zs.length by omega] using this
    · have : i = j := by omega
      subst this; exact Int.le_refl _
  intro m
  induction m with
  | zero => intro _; exact ⟨List.Pairwise.nil, fun x => by simp [Lib.compactUpTo]⟩
  | succ m ih =>
    intro hm
    obtain ⟨h1, h2⟩ := ih (by omega)
    rw [Lib.compactUpTo_succ]
    by_cases hk : Lib.keeps zs.toArray m = true
    · rw [if_pos hk]
      refine ⟨?_, fun x => ?_⟩
      · unfold SrtI
        rw [List.pairwise_append]
        refine ⟨h1, by simp, fun x hx y hy => ?_⟩
        rw [List.mem_singleton] at hy
        subst hy
        obtain ⟨j, hj, rfl⟩ := (h2 x).1 hx
        have hk' := of_decide_eq_true hk
        rcases hk' with h0 | h0
        · omega
        · rw [hat m (by omega), hat (m - 1) (by omega)] at h0
          rw [hat j (by omega), hat m (by omega)]
          have e1 := hle j (m - 1) (by omega) (by omega)
          have e2 := hle (m - 1) m (by omega) (by omega)
          omega
      · rw [List.mem_append, h2]
        constructor
        · rintro (⟨j, hj, e⟩ | h)
          · exact ⟨j, by omega, e⟩
          · simp at h; exact ⟨m, by omega, by simp [h]⟩
        · rintro ⟨j, hj, e⟩
          rcases Nat.lt_or_ge j m with h3 | h3
          · exact .inl ⟨j, h3, e⟩
          · have : j = m := by omega
            subst this; exact .inr (by simpa using e.symm)
    · rw [if_neg hk, List.append_nil]
      refine ⟨h1, fun x => ?_⟩
      rw [h2]
      constructor
      · rintro ⟨j, hj, e⟩; exact ⟨j, by omega, e⟩
      · rintro ⟨j, hj, e⟩
        rcases Nat.lt_or_ge j m with h3 | h3
        · exact ⟨j, h3, e⟩
        · have hjm : j = m := by omega
          subst hjm
          have hf : ¬ (j = 0 ∨ zs.toArray[j]! ≠ zs.toArray[j - 1]!) := fun h => hk (decide_eq_true h)
          have h0 : j ≠ 0 := fun h => hf (.inl h)
          have h4 : zs.toArray[j]! = zs.toArray[j - 1]! := Decidable.byContradiction fun h => hf (.inr h)
          exact ⟨j - 1, by omega, by rw [← h4, e]⟩
/-- sorted, then each once -/
theorem compact_is {zs Z : List Int} (hp : Z.Perm zs) (hs : Z.Pairwise (· ≤ ·)) : Lib.compact Z = nextL zs := by
  obtain ⟨h1, h2⟩ := compact_upto Z hs Z.length (Nat.le_refl _)
  refine srtI_ext h1 (nextL_srt zs) fun x => ?_
  rw [nextL_mem, ← hp.mem_iff]
  unfold Lib.compact
  rw [h2]
  constructor
  · rintro ⟨j, hj, e⟩
    rw [getElem!_pos Z.toArray j (by simpa using hj)] at e
    rw [← e]; simp
  · intro hx
    obtain ⟨j, hj, e⟩ := List.getElem_of_mem hx
    exact ⟨j, hj, by rw [getElem!_pos Z.toArray j (by simpa using hj)]; simpa using e⟩

open Go.Sort in
theorem holds_row {w : World} {b : Nat} {zs : List Int} (h : Blk w b zs.length (fun i => .int .i64 (zs.getD i 0))) : Holds (Value.int .i64) w b 0 zs.toArray := by
  intro j hj
  have hj' : j < zs.length := by simpa using hj
  rw [Nat.zero_add]
  refine ⟨?_, h.frozen j⟩
  rw [h.cell hj', getElem!_pos zs.toArray j hj]
  simp [List.getD, hj']
open Go.Sort in
theorem blk_put {w : World} {b n q : Nat} {zs Z : List Int} {os : Array Obj} (h : Blk w b zs.length (fun i => .int .i64 (zs.getD i 0))) (hl : Z.length = zs.length) (hn : n ≤ Z.length) : Blk (grow (putRow (Value.int .i64) (Sort.ahead w q) b 0 Z.toArray) os) b n (fun i => .int .i64 (Z.getD i 0)) ∧ KeptP (fun k => k = b) w (grow (putRow (Value.int .i64) (Sort.ahead w q) b 0 Z.toArray) os) := by
  have hb := h.lt
  have hsz : (putRow (Value.int .i64) (Sort.ahead w q) b 0 Z.toArray).heap.size = w.heap.size := by rw [size_putRow]; rfl
  have hH : Holds (Value.int .i64) (Sort.ahead w q) b 0 zs.toArray := holds_row h
  have hH' := holds_putRow (Value.int .i64) (Sort.ahead w q) b 0 zs.toArray Z.toArray hH (by simpa using hl)
  refine ⟨?_, rfl, rfl, rfl, ?_, fun k hk hne => ?_⟩
  · obtain ⟨cur, e, hheap, _⟩ := h
    have hg : (grow (putRow (Value.int .i64) (Sort.ahead w q) b 0 Z.toArray) os).heap[b]? = some (.cells (putCells (Value.int .i64) 0 Z.toArray cur) e (0, 0)) := by
      rw [heap_grow_old _ _ (by rw [hsz]; exact hb)]
      simp [putRow, mapBlock, Sort.ahead, Array.getElem?_modify, hheap, onCells]
    refine ⟨_, e, hg, fun i hi => ?_⟩
    have h6 := (hH' i (by simp; omega)).1
    rw [Nat.zero_add, ← cell?_grow _ os _ (by rw [hsz]; exact hb), getElem!_pos Z.toArray i (by simp; omega)] at h6
    unfold World.cell? at h6
    rw [hg] at h6
    simpa [List.getD, show i < Z.length by omega] using h6
  · show w.heap.size ≤ (grow _ os).heap.size
    unfold grow
    simp only [Array.size_append, hsz]
    omega
  · rw [heap_grow_old _ _ (by rw [hsz]; exact hk)]
    simp [putRow, mapBlock, Sort.ahead, Array.getElem?_modify, Ne.symm hne]

theorem sortInts_any (lo hi n cap : Nat) (a : Option Addr) (zs : List Int) (w : World) (ho : RowOwn lo hi w a zs) (hl : zs.length = n) (hn : n ≤ 1048576) :
    Calls Try.prog 46 #[.slice a n cap] w fun e w' => e = .returned (.tuple #[]) ∧ ∃ Z : List Int, Hid (Z.Perm zs ∧ Z.Pairwise (· ≤ ·)) ∧ Hid (RowOwn lo hi w' a Z) ∧ Hid (KeptP (fun k => lo ≤ k ∧ k < hi) w w') := by
  subst hl
  rcases ho with rfl | ⟨b, rfl, h1, h2, h3⟩
  · refine (Try.slices_Sort_int_none a cap w).mono ?_
    rintro e w' ⟨rfl, rfl⟩
    exact ⟨rfl, [], ⟨List.Perm.refl _, List.Pairwise.nil⟩, .inl rfl, KeptP.refl _ _⟩
  · refine (Try.slices_Sort_int b 0 cap zs w (holds_row h3) h3.lt (by omega)).mono ?_
    rintro e w' ⟨rfl, q, os, rfl⟩
    have hp := List.mergeSort_perm zs (fun x y : Int => decide (x ≤ y))
    have hlen := hp.length_eq
    obtain ⟨g1, g2⟩ := blk_put (q := q) (os := os) (n := (zs.mergeSort fun x y : Int => decide (x ≤ y)).length) h3 hlen (Nat.le_refl _)
    refine ⟨rfl, zs.mergeSort fun x y : Int => decide (x ≤ y), ⟨hp, ?_⟩, .inr ⟨b, rfl, h1, h2, g1⟩, g2.mono (fun k hk => by rw [hk]; exact ⟨h1, h2⟩)⟩
    have := List.pairwise_mergeSort (le := fun x y : Int => decide (x ≤ y)) (fun a b c h1 h2 => by simp at *; omega) (fun a b => by simp; omega) zs
    exact this.imp fun h => by simpa using h
theorem compactInts_any (lo hi n cap : Nat) (a : Option Addr) (Z : List Int) (w : World) (ho : RowOwn lo hi w a Z) (hl : Z.length = n) (hn : n ≤ 1048576) (hc : n ≤ cap) :
    Calls Try.prog 47 #[.slice a n cap] w fun e w' => ∃ m : Nat, e = .returned (.slice a m cap) ∧ Hid ((Lib.compact Z).length = m) ∧ Hid (RowOwn lo hi w' a (Lib.compact Z)) ∧ Hid (KeptP (fun k => lo ≤ k ∧ k < hi) w w') := by
  subst hl
  rcases ho with rfl | ⟨b, rfl, h1, h2, h3⟩
  · refine (Try.slices_Compact_int_empty a cap w).mono ?_
    rintro e w' ⟨rfl, rfl⟩
    exact ⟨0, rfl, rfl, .inl rfl, KeptP.refl _ _⟩
  · refine (Try.slices_Compact_int b 0 cap Z w (holds_row h3) (by omega) hc).mono ?_
    rintro e w' ⟨rfl, q, rfl⟩
    have hle : (Lib.compact Z).length ≤ Z.length := by unfold Lib.compact Lib.compactUpTo; rw [List.length_map]; exact Nat.le_trans (List.length_filter_le _ _) (by simp)
    obtain ⟨g1, g2⟩ := blk_put (q := q) (os := #[]) (n := (Lib.compact Z).length) (Z := Lib.compact Z ++ List.replicate (Z.length - (Lib.compact Z).length) 0) h3 (by simp; omega) (by simp)
    rw [Go.Sort.grow_empty] at g1 g2
    refine ⟨_, rfl, rfl, .inr ⟨b, rfl, h1, h2, g1.congr fun i hi => ?_⟩, g2.mono (fun k hk => by rw [hk]; exact ⟨h1, h2⟩)⟩
    simp [List.getD, List.getElem?_append_left hi]
end Go.Proofs.Ytfeimdlkpiacoaa
