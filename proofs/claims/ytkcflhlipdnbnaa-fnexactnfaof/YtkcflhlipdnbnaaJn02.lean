/-
  The plain mathematics of edges in order: one is ahead or they are the same; a list in order; an edge put; edges turned; a right graph.
-/
import Derived.Test.YtkcflhlipdnbnaaJn01
import Derived.Deep.Strs
import Derived.Deep.SlicePairs
import Derived.ProofKit
import Derived.OpenShut
import Derived.ChangeOld
import Derived.Deep.MidRow
import Derived.Deep.DeepCutAuto
import Derived.Deep.CutBlock
import Derived.Laws.AppendOwnNone
import Derived.Deep.RegionHeldLaw
namespace Go.Proofs.Ytkcflhlipdnbnaa
open Go.RowKit

theorem orI_lt {a b : Int} : orI a b < 0 ↔ (a < 0 ∨ (a = 0 ∧ b < 0)) := by unfold orI; split <;> omega
theorem cmpI_lt {a b : Int} : cmpI a b < 0 ↔ a < b := by unfold cmpI; split <;> (try split) <;> omega
theorem cmpI_eq {a b : Int} : cmpI a b = 0 ↔ a = b := by unfold cmpI; split <;> (try split) <;> omega
theorem ltE_iff {x y : Ed} : ltE x y = true ↔ (x.1 < y.1 ∨ (x.1 = y.1 ∧ (x.2.1 < y.2.1 ∨ (x.2.1 = y.2.1 ∧ x.2.2 < y.2.2)))) := by
  unfold ltE cmpE
  rw [decide_eq_true_eq, orI_lt, orI_lt, cmpI_lt, cmpI_lt, cmpI_lt, cmpI_eq, cmpI_eq]
theorem ltE_irrefl (x : Ed) : ltE x x = false := by
  rcases h : ltE x x with _ | _
  · rfl
  · rw [ltE_iff] at h; omega
theorem ltE_trans {x y z : Ed} (h : ltE x y = true) (h' : ltE y z = true) : ltE x z = true := by rw [ltE_iff] at *; omega
theorem ltE_asymm {x y : Ed} (h : ltE x y = true) : ltE y x = false := by
  rcases h' : ltE y x with _ | _
  · rfl
  · rw [ltE_iff] at h h'; omega
theorem ed_ext {x y : Ed} (h0 : x.1 = y.1) (h1 : x.2.1 = y.2.1) (h2 : x.2.2 = y.2.2) : x = y := Prod.ext h0 (Prod.ext h1 h2)
theorem ltE_total {x y : Ed} (h : x ≠ y) (h1 : ltE x y = false) : ltE y x = true := by
  rw [ltE_iff]
  have h2 : ¬ ltE x y = true := by rw [h1]; simp
  rw [ltE_iff] at h2
  by_cases e : x.1 = y.1 ∧ x.2.1 = y.2.1 ∧ x.2.2 = y.2.2
  · exact absurd (ed_ext e.1 e.2.1 e.2.2) h
  · omega
theorem ltE_or (x y : Ed) : ltE x y = true ∨ x = y ∨ ltE y x = true := by
  by_cases e : x = y
  · exact .inr (.inl e)
  · rcases h : ltE x y with _ | _
    · exact .inr (.inr (ltE_total e h))
    · exact .inl rfl

/-- edges in order, each once -/
def SrtE (l : List Ed) : Prop := l.Pairwise fun x y => ltE x y = true
theorem srtE_ext : ∀ {l l' : List Ed}, SrtE l → SrtE l' → (∀ x, x ∈ l ↔ x ∈ l') → l = l'
  | [], [], _, _, _ => rfl
  | [], y :: ys, _, _, h => absurd ((h y).2 (by simp)) (by simp)
  | x :: xs, [], _, _, h => absurd ((h x).1 (by simp)) (by simp)
  | x :: xs, y :: ys, h1, h2, h => by
    have a1 := List.pairwise_cons.1 h1
    have a2 := List.pairwise_cons.1 h2
    have e : x = y := by
      have hx := (h x).1 (by simp)
      have hy := (h y).2 (by simp)
      rcases List.mem_cons.1 hx with e | e
      · exact e
      · rcases List.mem_cons.1 hy with e' | e'
        · exact e'.symm
        · have := a2.1 x e
          rw [ltE_asymm (a1.1 y e')] at this; cases this
    subst e
    congr 1
    refine srtE_ext a1.2 a2.2 fun z => ⟨fun hz => ?_, fun hz => ?_⟩
    · rcases List.mem_cons.1 ((h z).1 (List.mem_cons_of_mem _ hz)) with e | e
      · subst e; have := a1.1 z hz; rw [ltE_irrefl] at this; cases this
      · exact e
    · rcases List.mem_cons.1 ((h z).2 (List.mem_cons_of_mem _ hz)) with e | e
      · subst e; have := a2.1 z hz; rw [ltE_irrefl] at this; cases this
      · exact e
theorem SrtE.nodup {l : List Ed} (h : SrtE l) : l.Nodup := List.Pairwise.imp (fun {x y} (hxy : ltE x y = true) (e : x = y) => by subst e; rw [ltE_irrefl] at hxy; cases hxy) h
theorem srtE_of {l : List Ed} (h : l.Nodup) (h2 : l.Pairwise fun x y => ltE y x = false) : SrtE l := by
  have := h.and h2
  exact this.imp fun {x y} ⟨hne, hl⟩ => ltE_total (fun e => hne e.symm) hl

/-- an edge put into its place -/
def putE (l : List Ed) (e : Ed) : List Ed := l.filter (fun x => ltE x e) ++ e :: l.filter (fun x => ltE e x)
theorem mem_putE {l : List Ed} {e x : Ed} : x ∈ putE l e ↔ x = e ∨ x ∈ l := by
  unfold putE
  simp only [List.mem_append, List.mem_cons, List.mem_filter]
  constructor
  · rintro (h | h | h)
    · exact .inr h.1
    · exact .inl h
    · exact .inr h.1
  · rintro (h | h)
    · exact .inr (.inl h)
    · rcases ltE_or x e with h1 | h1 | h1
      · exact .inl ⟨h, h1⟩
      · exact .inr (.inl h1)
      · exact .inr (.inr ⟨h, h1⟩)
theorem srt_putE {l : List Ed} (h : SrtE l) (e : Ed) : SrtE (putE l e) := by
  unfold putE SrtE
  rw [List.pairwise_append]
  refine ⟨List.Pairwise.filter _ h, ?_, ?_⟩
  · rw [List.pairwise_cons]
    exact ⟨fun x hx => (List.mem_filter.1 hx).2, List.Pairwise.filter _ h⟩
  · intro x hx y hy
    have h1 := (List.mem_filter.1 hx).2
    rcases List.mem_cons.1 hy with rfl | hy
    · exact h1
    · exact ltE_trans h1 (List.mem_filter.1 hy).2
theorem putE_had {l : List Ed} {e : Ed} (h : SrtE l) (he : e ∈ l) : putE l e = l :=
  srtE_ext (srt_putE h e) h fun x => by rw [mem_putE]; exact ⟨fun h => h.elim (fun e => e ▸ he) id, .inr⟩
theorem putE_new {l L : List Ed} {e : Ed} (h : SrtE l) (he : ¬ e ∈ l) (hp : L.Perm (l ++ [e])) (hs : L.Pairwise fun x y => ltE y x = false) : L = putE l e := by
  have hn : (l ++ [e]).Nodup := by
    rw [List.nodup_append]
    refine ⟨h.nodup, by simp, fun x hx y hy => ?_⟩
    simp at hy; subst hy
    exact fun h2 => he (h2 ▸ hx)
  refine srtE_ext (srtE_of (hp.nodup_iff.2 hn) hs) (srt_putE h e) fun x => ?_
  rw [hp.mem_iff, mem_putE]
  simp [or_comm]
theorem putE_len (l : List Ed) (e : Ed) : (putE l e).length ≤ l.length + 1 := by
  unfold putE
  have h1 : (l.filter (fun x => ltE x e)).length + (l.filter (fun x => ltE e x)).length ≤ l.length := by
    induction l with
    | nil => simp
    | cons x xs ih =>
      rcases h : ltE x e with _ | _
      · simp only [List.filter_cons, h]
        rcases h2 : ltE e x with _ | _ <;> simp <;> omega
      · simp only [List.filter_cons, h, ltE_asymm h]
        simp; omega
  simp; omega

/-- an edge turned -/
def turnE (x : Ed) : Ed := (x.2.2, x.2.1, x.1)
theorem turnE_turnE (x : Ed) : turnE (turnE x) = x := rfl
theorem turnE_inj {x y : Ed} (h : turnE x = turnE y) : x = y := by rw [← turnE_turnE x, h, turnE_turnE]
/-- edges turned, in order -/
def turnL (l : List Ed) : List Ed := l.foldl (fun acc x => putE acc (turnE x)) []
theorem fold_srt (l : List Ed) : ∀ acc, SrtE acc → SrtE (l.foldl (fun acc x => putE acc (turnE x)) acc) := by
  induction l with
  | nil => intro acc h; exact h
  | cons x xs ih => intro acc h; exact ih _ (srt_putE h _)
theorem fold_mem (l : List Ed) : ∀ acc x, x ∈ l.foldl (fun acc x => putE acc (turnE x)) acc ↔ x ∈ acc ∨ x ∈ l.map turnE := by
  induction l with
  | nil => intro acc x; simp
  | cons y ys ih =>
    intro acc x
    rw [List.foldl_cons, ih, mem_putE, List.map_cons, List.mem_cons]
    constructor
    · rintro ((h | h) | h)
      · exact .inr (.inl h)
      · exact .inl h
      · exact .inr (.inr h)
    · rintro (h | h | h)
      · exact .inl (.inr h)
      · exact .inl (.inl h)
      · exact .inr h
theorem turnL_srt (l : List Ed) : SrtE (turnL l) := fold_srt l [] List.Pairwise.nil
theorem turnL_mem {l : List Ed} {x : Ed} : x ∈ turnL l ↔ turnE x ∈ l := by
  unfold turnL
  rw [fold_mem]
  simp only [List.not_mem_nil, false_or, List.mem_map]
  exact ⟨fun ⟨y, hy, e⟩ => by rw [← e, turnE_turnE]; exact hy, fun h => ⟨_, h, turnE_turnE x⟩⟩
theorem nodup_map {l : List Ed} (h : l.Nodup) : (l.map turnE).Nodup := by
  unfold List.Nodup at *
  rw [List.pairwise_map]
  exact h.imp fun {x y} hne e => hne (turnE_inj e)
theorem turnL_is {l L : List Ed} (h : SrtE l) (hp : L.Perm (l.map turnE)) (hs : L.Pairwise fun x y => ltE y x = false) : L = turnL l := by
  refine srtE_ext (srtE_of (hp.nodup_iff.2 (nodup_map h.nodup)) hs) (turnL_srt l) fun x => ?_
  rw [hp.mem_iff, turnL_mem, List.mem_map]
  exact ⟨fun ⟨y, hy, e⟩ => by rw [← e, turnE_turnE]; exact hy, fun h => ⟨_, h, turnE_turnE x⟩⟩
theorem turnL_turnL {l : List Ed} (h : SrtE l) : turnL (turnL l) = l :=
  srtE_ext (turnL_srt _) h fun x => by rw [turnL_mem, turnL_mem, turnE_turnE]
theorem perm_of_srt {l L : List Ed} (h : l.Nodup) (h' : L.Nodup) (hm : ∀ x, x ∈ l ↔ x ∈ L) : l.length = L.length := by
  have h1 := (List.perm_ext_iff_of_nodup h h').2 hm
  exact h1.length_eq
theorem turnL_len {l : List Ed} (h : SrtE l) : (turnL l).length = l.length := by
  have := perm_of_srt (turnL_srt l).nodup (nodup_map h.nodup) (fun x => by
    rw [turnL_mem, List.mem_map]
    exact ⟨fun h => ⟨_, h, turnE_turnE x⟩, fun ⟨y, hy, e⟩ => by rw [← e, turnE_turnE]; exact hy⟩)
  simpa using this

/-- the edge at place i is right, and comes behind the one ahead of it -/
def okGAt (s : Int) (l : List Ed) (i : Nat) : Bool := okE s (eat l i) && (decide (i = 0) || ltE (eat l (i - 1)) (eat l i))
def okGTo (s : Int) (l : List Ed) : Nat → Bool
  | 0 => true
  | k + 1 => okGTo s l k && okGAt s l k
/-- a right graph -/
def okG (s : Int) (l : List Ed) : Bool := decide (1 ≤ s) && decide (s ≤ 12) && decide (l.length ≤ 40) && okGTo s l l.length
theorem okGTo_false {s : Int} {l : List Ed} {k n : Nat} (h : k < n) (hk : okGAt s l k = false) : okGTo s l n = false := by
  induction n with
  | zero => omega
  | succ n ih =>
    simp only [okGTo]
    rcases Nat.lt_or_ge k n with h1 | h1
    · rw [ih h1]; rfl
    · obtain rfl : k = n := by omega
      rw [hk]; simp
theorem okGTo_at {s : Int} {l : List Ed} {k n : Nat} (h : okGTo s l n = true) (hk : k < n) : okGAt s l k = true := by
  rcases hv : okGAt s l k with _ | _
  · rw [okGTo_false hk hv] at h; cases h
  · rfl
theorem okG_no {s : Int} {l : List Ed} {k : Nat} (h : k < l.length) (hk : okGAt s l k = false) : okG s l = false := by unfold okG; rw [okGTo_false h hk]; simp
theorem okG_size {s : Int} {l : List Ed} (h : okG s l = true) : 1 ≤ s ∧ s ≤ 12 ∧ l.length ≤ 40 := by unfold okG at h; simp at h; omega
theorem okG_at {s : Int} {l : List Ed} (h : okG s l = true) {k : Nat} (hk : k < l.length) : okGAt s l k = true := by unfold okG at h; simp only [Bool.and_eq_true] at h; exact okGTo_at h.2 hk
theorem okGTo_all {s : Int} {l : List Ed} {n : Nat} (h : ∀ k, k < n → okGAt s l k = true) : okGTo s l n = true := by
  induction n with
  | zero => rfl
  | succ n ih => simp only [okGTo]; rw [ih (fun k hk => h k (by omega)), h n (by omega)]; rfl
theorem okG_of {s : Int} {l : List Ed} (h1 : 1 ≤ s) (h2 : s ≤ 12) (h3 : l.length ≤ 40) (h : ∀ k, k < l.length → okGAt s l k = true) : okG s l = true := by
  unfold okG; rw [okGTo_all h]; simp [h1, h2, h3]
theorem okGAt_no {s : Int} {l : List Ed} {i : Nat} (h : okE s (eat l i) = false) : okGAt s l i = false := by unfold okGAt; rw [h]; rfl
theorem okGAt_zero {s : Int} {l : List Ed} (h : okE s (eat l 0) = true) : okGAt s l 0 = true := by unfold okGAt; rw [h]; rfl
theorem okGAt_pos {s : Int} {l : List Ed} {i : Nat} (h : okE s (eat l i) = true) (hi : i ≠ 0) : okGAt s l i = ltE (eat l (i - 1)) (eat l i) := by unfold okGAt; rw [h]; simp [hi]
theorem chain_srt : ∀ {l : List Ed}, (∀ i, i + 1 < l.length → ltE (eat l i) (eat l (i + 1)) = true) → SrtE l
  | [], _ => List.Pairwise.nil
  | x :: xs, h => by
    have ih : SrtE xs := chain_srt fun i hi => by
      have := h (i + 1) (by simp; omega)
      simpa [eat, List.getD] using this
    refine List.pairwise_cons.2 ⟨fun y hy => ?_, ih⟩
    cases xs with
    | nil => simp at hy
    | cons z zs =>
      have h0 : ltE x z = true := by simpa [eat, List.getD] using h 0 (by simp)
      rcases List.mem_cons.1 hy with rfl | hy
      · exact h0
      · exact ltE_trans h0 ((List.pairwise_cons.1 ih).1 y hy)
/-- what a right graph is -/
theorem okG_iff {s : Int} {l : List Ed} : okG s l = true ↔ (1 ≤ s ∧ s ≤ 12) ∧ l.length ≤ 40 ∧ (∀ x ∈ l, okE s x = true) ∧ SrtE l := by
  constructor
  · intro h
    obtain ⟨h1, h2, h3⟩ := okG_size h
    refine ⟨⟨h1, h2⟩, h3, fun x hx => ?_, chain_srt fun i hi => ?_⟩
    · obtain ⟨i, hi, rfl⟩ := List.getElem_of_mem hx
      have := okG_at h hi
      unfold okGAt at this
      simp only [Bool.and_eq_true] at this
      rw [← eat_get hi]; exact this.1
    · have := okG_at h hi
      unfold okGAt at this
      simpa using (Bool.and_eq_true _ _ ▸ this).2
  · rintro ⟨⟨h1, h2⟩, h3, h4, h5⟩
    refine okG_of h1 h2 h3 fun k hk => ?_
    have hk4 : okE s (eat l k) = true := by rw [eat_get hk]; exact h4 _ (List.getElem_mem hk)
    by_cases h0 : k = 0
    · subst h0; exact okGAt_zero hk4
    · rw [okGAt_pos hk4 h0, eat_get hk, eat_get (by omega)]
      exact List.pairwise_iff_getElem.1 h5 (k - 1) k (by omega) hk (by omega)
theorem okE_turn {s : Int} {x : Ed} (h : okE s x = true) : okE s (turnE x) = true := by
  unfold okE turnE at *; simp only [Bool.and_eq_true] at *; exact ⟨⟨⟨h.1.1.2, h.1.1.1⟩, h.1.2⟩, h.2⟩
theorem okG_turn {s : Int} {l : List Ed} (h : okG s l = true) : okG s (turnL l) = true := by
  obtain ⟨h1, h2, h3, h4⟩ := okG_iff.1 h
  exact okG_iff.2 ⟨h1, by rw [turnL_len h4]; exact h2, fun x hx => by rw [← turnE_turnE x]; exact okE_turn (h3 _ (turnL_mem.1 hx)), turnL_srt l⟩

/-- what GraphAdd answers -/
def gaddOk (s : Int) (l : List Ed) (e : Ed) : Bool := okG s l && okG s (putE l e)
def gaddL (s : Int) (l : List Ed) (e : Ed) : List Ed := if gaddOk s l e = true then putE l e else l
/-- what Turned answers -/
def gturn (s : Int) (l : List Ed) : List Ed := if okG s l = true then turnL l else l
end Go.Proofs.Ytkcflhlipdnbnaa

/-
  Marks in all that a bag owns, and whether they are held: markItemS, markBag, heldItemS, heldBag.
-/
namespace Go.Proofs.Ytkcflhlipdnbnaa
open Go.RowKit

/-- the first mark of item i -/
def pos (K : Nat) (l : List It) (i : Nat) : Nat := K + rowsLen l i + i
/-- an item that is marked -/
def mkAt (K : Nat) (l : List It) (i : Nat) : It := (marks (pos K l i) (at' l i).1.length, ((pos K l i + (at' l i).1.length : Nat) : Int))
/-- the items ahead of place k are marked -/
def mkTo (K : Nat) (l : List It) (k : Nat) : List It := (List.range l.length).map fun i => if i < k then mkAt K l i else at' l i
theorem mkTo_len (K : Nat) (l : List It) (k : Nat) : (mkTo K l k).length = l.length := by simp [mkTo]
theorem mkTo_at {K : Nat} {l : List It} {k i : Nat} (h : i < l.length) : at' (mkTo K l k) i = if i < k then mkAt K l i else at' l i := by simp [mkTo, at', List.getD, h]
theorem mkTo_zero (K : Nat) (l : List It) : mkTo K l 0 = l := by
  apply List.ext_getElem (by simp [mkTo])
  intro i h1 h2
  simp [mkTo, at', List.getD, h2]
theorem mkAt_len (K : Nat) (l : List It) (i : Nat) : (mkAt K l i).1.length = (at' l i).1.length := by simp [mkAt, marks]
theorem mkTo_rowlen {K : Nat} {l : List It} {k i : Nat} (h : i < l.length) : (at' (mkTo K l k) i).1.length = (at' l i).1.length := by
  rw [mkTo_at h]; split
  · exact mkAt_len K l i
  · rfl
theorem pos_step (K : Nat) (l : List It) (k : Nat) : pos K l (k + 1) = pos K l k + (at' l k).1.length + 1 := by simp only [pos, rowsLen]; omega
theorem ne_nil_len {r r' : List Int} (h : r.length = r'.length) : r ≠ [] ↔ r' ≠ [] := by
  constructor
  · intro h1 h2; subst h2; exact h1 (List.length_eq_zero_iff.1 (by simpa using h))
  · intro h1 h2; subst h2; exact h1 (List.length_eq_zero_iff.1 (by simpa using h.symm))

theorem below1' (w : World) (o1 : Obj) : Below w.heap.size w (w.alloc o1) := (Below.refl _ _).alloc (Nat.le_refl _) _

/-- one item turned in place -/
theorem PartOwn.turned {lo hi b n k : Nat} {w w1 : World} {l l' : List It} {f : Nat → Value} {R : Nat → Option Addr} {C : Nat → Nat} {r' : List Int} {t' : Int}
    (h1 : Blk w b (n * 2) f)
    (h2 : ∀ i, i < n → f (i * 2) = .slice (R i) (at' l i).1.length (C i) ∧ f (i * 2 + 1) = .int .i64 (at' l i).2 ∧ RowOwn lo hi w (R i) (at' l i).1 ∧ ((at' l i).1 ≠ [] → (∀ c, R i = some ⟨c, 0, none⟩ → c ≠ b) ∧ ∀ j, j < i → (at' l j).1 ≠ [] → R j ≠ R i))
    (hk : k < n) (hK : KeptP (fun c => (at' l k).1 ≠ [] ∧ R k = some ⟨c, 0, none⟩) w w1) (hr : RowOwn lo hi w1 (R k) r') (hl : r'.length = (at' l k).1.length)
    (e1 : at' l' k = (r', t')) (e2 : ∀ i, i < n → i ≠ k → at' l' i = at' l i) : PartOwn lo hi (w1.setCell ⟨b, k * 2 + 1, none⟩ (.int .i64 t')) b l' n n := by
  have hrow : ∀ i, i < n → (at' l' i).1.length = (at' l i).1.length := by
    intro i hi
    by_cases e : i = k
    · subst e; rw [e1]; exact hl
    · rw [e2 i hi e]
  have hne : ∀ i, i < n → ((at' l' i).1 ≠ [] ↔ (at' l i).1 ≠ []) := fun i hi => ne_nil_len (hrow i hi)
  have hb1 : Blk w1 b (n * 2) f := hK.blk h1 (fun ⟨h3, h4⟩ => ((h2 k hk).2.2.2 h3).1 b h4 rfl)
  refine ⟨_, R, C, hb1.set (k * 2 + 1) (by omega) _, fun i hin => ?_⟩
  obtain ⟨p1, p2, p3, p4⟩ := h2 i hin
  have n1 : ¬ i * 2 = k * 2 + 1 := by omega
  refine ⟨by simp only [n1, if_false]; rw [p1, hrow i hin], ?_, ?_, ?_⟩
  · by_cases e : i = k
    · subst e; rw [e1]; simp
    · have n2 : ¬ i * 2 + 1 = k * 2 + 1 := by omega
      simp only [n2, if_false]; rw [p2, e2 i hin e]
  · have base : RowOwn lo hi w1 (R i) (at' l' i).1 := by
      by_cases e : i = k
      · subst e; rw [e1]; exact hr
      · rw [e2 i hin e]
        rcases p3 with h | ⟨c, ec, h5, h6, h7⟩
        · exact .inl h
        · by_cases hi0 : (at' l i).1 = []
          · exact .inl hi0
          · refine .inr ⟨c, ec, h5, h6, hK.blk h7 (fun ⟨h8, h9⟩ => ?_)⟩
            rcases Nat.lt_or_ge i k with h | h
            · exact ((h2 k hk).2.2.2 h8).2 i h hi0 (by rw [ec, h9])
            · exact (p4 hi0).2 k (by omega) h8 (by rw [ec, h9])
    by_cases hi0 : (at' l' i).1 = []
    · exact .inl hi0
    · rcases base with h | ⟨c, ec, h5, h6, h7⟩
      · exact absurd h hi0
      · have hcb : c ≠ b := (p4 ((hne i hin).1 hi0)).1 c ec
        exact .inr ⟨c, ec, h5, h6, h7.of_block (Below.heap_setCell _ _ _ c (by simpa using hcb))⟩
  · intro h3
    have h4 := p4 ((hne i hin).1 h3)
    exact ⟨h4.1, fun j hj hj0 => h4.2 j hj ((hne j (by omega)).1 hj0)⟩

end Go.Proofs.Ytkcflhlipdnbnaa

/-
  What a law keeps at hand while it goes on: what was there, the boxes of its variables. toBag, toIntS, eqBag, markBag, heldBag in these words.
-/
namespace Go.Proofs.Ytkcflhlipdnbnaa
open Go.RowKit

/-- what was there is as it was; each box holds its value -/
structure Held (w wi : World) (bx : List (Nat × Value)) : Prop where
  bel : Below w.heap.size w wi
  box : ∀ p ∈ bx, Blk wi p.1 1 (fun _ => p.2)
theorem Held.below {w wi wj : World} {bx : List (Nat × Value)} (h : Held w wi bx) (hb : Below wi.heap.size wi wj) : Held w wj bx :=
  ⟨h.bel.trans (hb.mono h.bel.size), fun p hp => (h.box p hp).of_block (hb.block _ (h.box p hp).lt)⟩
theorem Held.kept {w wi wj : World} {bx : List (Nat × Value)} {p : Nat → Prop} (h : Held w wi bx) (hk : KeptP p wi wj) (h1 : ∀ x ∈ bx, ¬ p x.1) (h2 : ∀ k, p k → w.heap.size ≤ k) : Held w wj bx :=
  ⟨h.bel.trans (hk.to_below h.bel.size h2), fun x hx => hk.blk (h.box x hx) (h1 x hx)⟩
theorem Held.more {w wi : World} {bx : List (Nat × Value)} (h : Held w wi bx) (v : Value) (T : TypeId) : Held w (wi.alloc (.cells #[v] T)) ((wi.heap.size, v) :: bx) :=
  ⟨h.bel.alloc h.bel.size _, fun p hp => by
    rcases List.mem_cons.1 hp with rfl | hp
    · exact blk_one wi _ rfl _ _
    · exact (h.box p hp).alloc _⟩
theorem Held.cell {w wi : World} {bx : List (Nat × Value)} (h : Held w wi bx) {b : Nat} {v : Value} (hm : (b, v) ∈ bx) : wi.cell? ⟨b, 0, none⟩ = some v := (h.box _ hm).cell (i := 0) (by omega)
theorem Held.lt {w wi : World} {bx : List (Nat × Value)} (h : Held w wi bx) {b : Nat} {v : Value} (hm : (b, v) ∈ bx) : b < wi.heap.size := (h.box _ hm).lt
theorem Held.start (w : World) (v : Value) (T : TypeId) : Held w (w.alloc (.cells #[v] T)) [(w.heap.size, v)] :=
  ⟨below1' w _, fun p hp => by simp at hp; subst hp; exact blk_one w _ rfl _ _⟩

theorem BagOwn.kept {lo hi : Nat} {p : Nat → Prop} {w w' : World} {a : Option Addr} {l : List It} (h : BagOwn lo hi w a l) (hk : KeptP p w w') (hh : hi ≤ w.heap.size) (hp : ∀ c, lo ≤ c → c < hi → ¬ p c) : BagOwn lo hi w' a l := by
  rcases h with h | ⟨b, e, h1, h2, h3⟩
  · exact .inl h
  · exact .inr ⟨b, e, h1, h2, h3.of_blocks (hk.block b (by omega) (hp b h1 h2)) (fun c h4 h5 => hk.block c (by omega) (hp c h4 h5))⟩
theorem RowOwn.kept {lo hi : Nat} {p : Nat → Prop} {w w' : World} {a : Option Addr} {l : List Int} (h : RowOwn lo hi w a l) (hk : KeptP p w w') (hp : ∀ c, lo ≤ c → c < hi → ¬ p c) : RowOwn lo hi w' a l := by
  rcases h with h | ⟨b, e, h1, h2, h3⟩
  · exact .inl h
  · exact .inr ⟨b, e, h1, h2, hk.blk h3 (hp b h1 h2)⟩

end Go.Proofs.Ytkcflhlipdnbnaa

/-
  Graphs that come in, that are compared, marked and held: toGraph, eqEdge, eqEdgeS, eqGraph, markEdgeS, markGraph, heldEdgeS, heldGraph; a graph out of its reading.
-/
namespace Go.Proofs.Ytkcflhlipdnbnaa
open Go.RowKit

/-- a graph as a value -/
abbrev gv (s : Int) (a : Option Addr) (n cap : Nat) : Value := .agg #[.int .i64 s, .slice a n cap]

theorem below_edge {w w' : World} {b o : Nat} {x : Ed} (h : EdgeAt w b o x) (hb : Below w.heap.size w w') : EdgeAt w' b o x := h.below hb (lt_of_cell h.1)
theorem drop_of_getD {l l' : List Ed} {n k : Nat} (h : l.length = n) (h' : l'.length = n) (hk : k < n) : (l.drop k = l'.drop k) ↔ (eat l k = eat l' k ∧ l.drop (k + 1) = l'.drop (k + 1)) := by
  rw [List.drop_eq_getElem_cons (by omega), List.drop_eq_getElem_cons (l := l') (by omega), List.cons.injEq, eat_get (by omega), eat_get (by omega)]

/-- marks from K on, three an edge -/
def marksE (K n : Nat) : List Ed := (List.range n).map fun i => (((K + i * 3 : Nat) : Int), ((K + i * 3 + 1 : Nat) : Int) % 256, ((K + i * 3 + 2 : Nat) : Int))
theorem marksE_len (K n : Nat) : (marksE K n).length = n := by simp [marksE]
theorem marksE_at {K n i : Nat} (h : i < n) : eat (marksE K n) i = (((K + i * 3 : Nat) : Int), ((K + i * 3 + 1 : Nat) : Int) % 256, ((K + i * 3 + 2 : Nat) : Int)) := by simp [marksE, eat, List.getD, h]

end Go.Proofs.Ytkcflhlipdnbnaa

/-
  Whole arrays stored, the results of a box: of LdA and LdF what stands without leads.
-/
namespace Go.Proofs.Ytkcflhlipdnbnaa
open Go.RowKit

theorem size_setCells (b : Nat) : ∀ (vs : List Value) (o : Nat) (w : World), (w.setCells b o vs).heap.size = w.heap.size
  | [], _, _ => rfl
  | v :: r, o, w => by rw [World.setCells, size_setCells b r]; simp
theorem block_setCells {b c : Nat} (h : c ≠ b) : ∀ (vs : List Value) (o : Nat) (w : World), (w.setCells b o vs).heap[c]? = w.heap[c]?
  | [], _, _ => rfl
  | v :: r, o, w => by rw [World.setCells, block_setCells h r, Below.heap_setCell w ⟨b, o, none⟩ v c (by simpa using h)]
theorem Below.setCells {B b : Nat} (hb : B ≤ b) : ∀ (vs : List Value) (o : Nat) {w w1 : World}, Below B w w1 → Below B w (w1.setCells b o vs)
  | [], _, _, _, h => h
  | v :: r, o, _, _, h => Below.setCells hb r (o + 1) (h.setCell hb v)
theorem KeptP.setCells {p : Nat → Prop} {g : Nat} (hg : p g) {w : World} : ∀ (vs : List Value) (o : Nat) {w1 : World}, KeptP p w w1 → KeptP p w (w1.setCells g o vs)
  | [], _, _, h => h
  | v :: r, o, _, h => KeptP.setCells hg r (o + 1) (h.setCell hg v)
theorem Blk.setRange {b n : Nat} : ∀ (vs : List Value) (o : Nat) {w : World} {f : Nat → Value}, Blk w b n f → o + vs.length ≤ n → Blk (w.setCells b o vs) b n (fun i => if o ≤ i ∧ i < o + vs.length then vs.getD (i - o) (.int .i64 0) else f i)
  | [], o, w, f, h, _ => h.congr fun i hi => by simp; intro h1 h2; omega
  | v :: r, o, w, f, h, hl => by
    simp only [List.length_cons] at hl
    have h2 := Blk.setRange r (o + 1) (h.set o (by omega) v) (by omega)
    refine h2.congr fun i hi => ?_
    by_cases e : i = o
    · subst e
      rw [if_neg (by omega), if_pos rfl, if_pos (by simp only [List.length_cons]; omega)]
      simp
    · by_cases e2 : o + 1 ≤ i ∧ i < o + 1 + r.length
      · rw [if_pos e2, if_pos (by simp only [List.length_cons]; omega)]
        obtain ⟨d, rfl⟩ : ∃ d, i = o + 1 + d := ⟨i - (o + 1), by omega⟩
        rw [show o + 1 + d - (o + 1) = d by omega, show o + 1 + d - o = d + 1 by omega]
        simp
      · rw [if_neg e2, if_neg e, if_neg (by simp only [List.length_cons]; omega)]
/-- an answer that lies in a block -/
theorem results_row {P : Program} {F : Func} {tmps : Array Value} {w : World} {k t b : Nat} {v : Value} (hr : F.results = #[.cell k t]) (hk : tmps[k]? = some (.pointer (some ⟨b, 0, none⟩))) (hl : (loadVar t ⟨b, 0, none⟩).run P w = .ok v w) : (results F tmps).run P w = .ok v w := by
  have e : (#[ResultVar.cell k t] : Array ResultVar) = [ResultVar.cell k t].toArray := rfl
  simp [results, hr, hk, asAddr, hl]
theorem results_row2 {P : Program} {F : Func} {tmps : Array Value} {w : World} {k m t b : Nat} {v u : Value} (hr : F.results = #[.cell k t, .tmp m]) (hk : tmps[k]? = some (.pointer (some ⟨b, 0, none⟩))) (hm : tmps[m]? = some u) (hl : (loadVar t ⟨b, 0, none⟩).run P w = .ok v w) : (results F tmps).run P w = .ok (.tuple #[v, u]) w := by
  have hm' : tmps[m]?.getD undef = u := by rw [hm]; rfl
  simp [results, hr, hk, asAddr, hl, hm]
end Go.Proofs.Ytkcflhlipdnbnaa

/-
  Sets of states, 24 bools: firstState, or.
-/
namespace Go.Proofs.Ytkcflhlipdnbnaa
open Go.RowKit

/-- the cells of n bools -/
def bcells (n : Nat) (f : Nat → Bool) : List Value := (List.range n).map fun i => .bool (f i)
/-- a set of states as a value -/
abbrev sv (f : Nat → Bool) : Value := .agg (bcells 24 f).toArray
/-- a block of n bools -/
def BBlk (w : World) (b n : Nat) (f : Nat → Bool) : Prop := Blk w b n (fun i => .bool (f i))
theorem bcells_len (n : Nat) (f : Nat → Bool) : (bcells n f).length = n := by simp [bcells]
theorem bcells_size (n : Nat) (f : Nat → Bool) : (bcells n f).toArray.size = n := by simp [bcells]
theorem bcells_one (n : Nat) (f : Nat → Bool) : (bcells n f).toArray.all (·.oneCell') = true := by simp [bcells, Value.oneCell']
theorem bcells_congr {n : Nat} {f g : Nat → Bool} (h : ∀ i, i < n → f i = g i) : bcells n f = bcells n g := List.map_congr_left fun i hi => by rw [h i (List.mem_range.1 hi)]
theorem sv_congr {f g : Nat → Bool} (h : ∀ i, i < 24 → f i = g i) : sv f = sv g := by unfold sv; rw [bcells_congr h]
theorem BBlk.range {w : World} {b n : Nat} {f : Nat → Bool} (h : BBlk w b n f) (o m : Nat) (hm : o + m ≤ n) : w.rangeAt b o (bcells m fun i => f (o + i)) := by
  intro j v hv
  have hj : j < m := by have := (List.getElem?_eq_some_iff.1 hv).1; rwa [bcells_len] at this
  simp [bcells, hj] at hv
  subst hv
  exact Blk.cell h (by omega)
theorem BBlk.all {w : World} {b n : Nat} {f : Nat → Bool} (h : BBlk w b n f) : w.rangeAt b 0 (bcells n f) := by
  have := h.range 0 n (by omega)
  simpa using this
theorem BBlk.there {w : World} {b n : Nat} {f : Nat → Bool} (h : BBlk w b n f) (o m : Nat) (hm : o + m ≤ n) : w.there b o m := by
  intro j hj
  exact ⟨by rw [Blk.cell h (by omega)]; rfl, Blk.frozen h _⟩
theorem BBlk.new (w : World) (b : Nat) (hb : b = w.heap.size) (n : Nat) (f : Nat → Bool) (T : TypeId) : BBlk (w.alloc (.cells (bcells n f).toArray T)) b n f := by
  have := blk_new w (bcells n f).toArray T (fun i => .bool (f i)) (fun i hi => by rw [bcells_size] at hi; simp [bcells, hi])
  rw [bcells_size] at this
  rw [hb]; exact this
theorem BBlk.of {w w' : World} {b n : Nat} {f : Nat → Bool} (h : BBlk w b n f) (e : w'.heap[b]? = w.heap[b]?) : BBlk w' b n f := Blk.of_block h e
theorem BBlk.lt {w : World} {b n : Nat} {f : Nat → Bool} (h : BBlk w b n f) : b < w.heap.size := Blk.lt h
theorem BBlk.congr {w : World} {b n : Nat} {f g : Nat → Bool} (h : BBlk w b n f) (e : ∀ i, i < n → f i = g i) : BBlk w b n g := Blk.congr h fun i hi => by rw [e i hi]
theorem BBlk.get {w : World} {b n k : Nat} {f : Nat → Bool} (h : BBlk w b n f) (hk : k < n) : w.cell? ⟨b, k, none⟩ = some (.bool (f k)) := Blk.cell h hk
theorem BBlk.put {w : World} {b n : Nat} {f : Nat → Bool} (h : BBlk w b n f) (g : Nat → Bool) : BBlk (w.setCells b 0 (bcells n g)) b n g := by
  refine (Blk.setRange (bcells n g) 0 h (by rw [bcells_len]; omega)).congr fun i hi => ?_
  rw [if_pos ⟨Nat.zero_le _, by rw [bcells_len]; omega⟩]
  simp [bcells, List.getD, hi]
theorem BBlk.set1 {w : World} {b n k : Nat} {f : Nat → Bool} (h : BBlk w b n f) (hk : k < n) (x : Bool) : BBlk (w.setCell ⟨b, k, none⟩ (.bool x)) b n (fun i => if i = k then x else f i) :=
  (Blk.set h k hk _).congr fun i hi => by by_cases e : i = k <;> simp [e]
theorem wpList_here' {P : Program} {ops : Array Oper} {rest : List Oper} {op : Oper} {a : Act} {w : World} {Q : Exit → Act → World → Prop} (h : wpList P ops Q (op :: rest) a w) : wpList P ops Q (op :: rest) a w := h
def noB : Nat → Bool := fun _ => false
theorem info_set : (Try.prog.info? 80).map (·.size) = some 24 := by kernel_rfl
theorem load_set {w : World} {b : Nat} {f : Nat → Bool} (h : BBlk w b 24 f) : (loadVar 80 ⟨b, 0, none⟩).run Try.prog w = .ok (sv f) w :=
  run_loadVar_mid w b 0 80 (bcells 24 f) _ h.all Try.underlying80 rfl (by rw [bcells_len]; exact info_set)
theorem BBlk.zero (w : World) (b : Nat) (hb : b = w.heap.size) (T : TypeId) : BBlk (w.alloc (.cells #[.bool false, .bool false, .bool false, .bool false, .bool false, .bool false, .bool false, .bool false, .bool false, .bool false, .bool false, .bool false, .bool false, .bool false, .bool false, .bool false, .bool false, .bool false, .bool false, .bool false, .bool false, .bool false, .bool false, .bool false] T)) b 24 noB := BBlk.new w b hb 24 noB T
theorem index_set (f : Nat → Bool) {k : Nat} (hk : k < 24) (w : World) : (Instr.index 80 (.agg (bcells 24 f).toArray) (.int .i64 (k : Int))).run Try.prog w = .ok (.bool (f k)) w := by
  have e : (bcells 24 f)[k]'(by rw [bcells_len]; exact hk) = .bool (f k) := by simp [bcells]
  simp [Instr.index, go_sem, hk, bcells_len, e]

/-- state 0 alone -/
def oneS : Nat → Bool := fun i => decide (i = 0)
set_option maxHeartbeats 2000000 in
set_option maxRecDepth 100000 in
theorem orS_any (f g : Nat → Bool) (w : World) : Calls Try.prog 99 #[sv f, sv g] w fun e w' => e = .returned (sv fun i => f i || g i) ∧ Hid (Below w.heap.size w w') := by
  obtain ⟨cf, HCF⟩ : ∃ cf, Hid (cf = (bcells 24 f).toArray) := ⟨_, rfl⟩
  obtain ⟨cg, HCG⟩ : ∃ cf, Hid (cf = (bcells 24 g).toArray) := ⟨_, rfl⟩
  have hf : cf.size = 24 := by rw [HCF.out]; simp [bcells]
  have hg : cg.size = 24 := by rw [HCG.out]; simp [bcells]
  unfold sv
  rw [← HCF.out, ← HCG.out]
  obtain ⟨B, HB⟩ : ∃ B, Hid (B = w.heap.size) := ⟨_, rfl⟩
  obtain ⟨W, HW⟩ : ∃ W, Hid (W = ((w.alloc (.cells cf 80)).alloc (.cells cg 80)).alloc (.cells #[.bool false, .bool false, .bool false, .bool false, .bool false, .bool false, .bool false, .bool false, .bool false, .bool false, .bool false, .bool false, .bool false, .bool false, .bool false, .bool false, .bool false, .bool false, .bool false, .bool false, .bool false, .bool false, .bool false, .bool false] 80)) := ⟨_, rfl⟩
  have HBW : Hid (Below w.heap.size w W) := by rw [HW.out]; exact below3 w _ _ _
  have HX : Hid (BBlk W B 24 f) := by rw [HW.out, HCF.out]; exact Blk.alloc (Blk.alloc (BBlk.new w B HB.out 24 f _) _) _
  have HY : Hid (BBlk W (B + 1) 24 g) := by rw [HW.out, HCG.out]; exact Blk.alloc (BBlk.new _ (B + 1) (by rw [HB.out]; simp) 24 g _) _
  have HZ : Hid (BBlk W (B + 1 + 1) 24 noB) := by rw [HW.out]; exact BBlk.zero _ (B + 1 + 1) (by rw [HB.out]; simp) _
  go_enter Try.func99, Try.ntmps99
  obtain ⟨FF, HFF⟩ : ∃ F : Func, Hid (F = Try.f99) := ⟨_, rfl⟩
  rw [← HFF.out]
  go_upto_region 1 with fail
  rw [← HB.out, ← HW.out]
  clear HW
  go_wp2_with (with_reducible refine wpList_here' ?_; refine wpList_load_mid rfl 80 _ rfl (B + 1) 0 rfl (bcells 24 g) _ HY.out.all Try.underlying80 rfl (by rw [bcells_len]; exact info_set) ?_)
  rw [← HCG.out]
  go_loopw [8] (fun i wr => ∃ k : Nat, i = .int .i64 k ∧ k ≤ 24 ∧ Hid (BBlk wr B 24 (fun j => if j < k then f j || g j else f j)) ∧ Hid (KeptP (fun c => c = B) W wr)) (fun i _ => 24 - (intOf i).toNat)
  case atStart => exact ⟨0, rfl, by omega, HX.out.congr (fun i _ => by simp), KeptP.refl _ _⟩
  case round =>
    obtain ⟨k, rfl, hk, HXR, HL⟩ := hrel
    by_cases hlt : k < 24
    · have hlt1 : (k : Int) < 24 := by omega
      have hlt0 : (0 : Int) ≤ (k : Int) := by omega
      obtain ⟨y, HYY⟩ : ∃ y, Hid (y = g k) := ⟨_, rfl⟩
      have hix : ∀ w, (Instr.index 80 (.agg cg) (.int .i64 (k : Int))).run Try.prog w = .ok (.bool y) w := fun w => by rw [HCG.out, HYY.out]; exact index_set g hlt w
      obtain ⟨x, HXX⟩ : ∃ x, Hid (x = f k) := ⟨_, rfl⟩
      have c0 := HXR.out.get hlt
      rw [if_neg (by omega), ← HXX.out] at c0
      have fz := Blk.frozen HXR.out k
      have HST : Hid (∀ i, i < 24 → (if i < k + 1 then f i || g i else f i) = if i = k then (x || y) else if i < k then f i || g i else f i) := by
        intro i _
        by_cases e : i = k
        · subst e; simp [HXX.out, HYY.out]
        · by_cases h2 : i < k
          · simp [e, h2, show i < k + 1 by omega]
          · simp [e, h2, show ¬ i < k + 1 by omega]
      have HNEXT : Hid (∀ u, u = (x || y) → ∃ k' : Nat, Value.int .i64 ((k : Int) + 1) = .int .i64 k' ∧ k' ≤ 24 ∧ Hid (BBlk (wr.setCell ⟨B, k, none⟩ (.bool u)) B 24 (fun j => if j < k' then f j || g j else f j)) ∧ Hid (KeptP (fun c => c = B) W (wr.setCell ⟨B, k, none⟩ (.bool u)))) := by
        rintro u rfl
        exact ⟨k + 1, by go_num, by omega, (HXR.out.set1 hlt _).congr (fun i hi => (HST.out i hi).symm), HL.out.setCell rfl _⟩
      rcases Bool.eq_false_or_eq_true x with hx | hx
      all_goals
        subst hx
        go_wp2
        go_roundw
        case rel => exact HNEXT.out _ (by simp)
        case measure => simp [intOf]; omega
    · obtain rfl : k = 24 := by omega
      obtain ⟨R, HRR⟩ : ∃ R : Nat → Bool, Hid (R = fun i => f i || g i) := ⟨_, rfl⟩
      have HXE : Hid (BBlk wr B 24 R) := HXR.out.congr fun i hi => by rw [HRR.out]; simp [hi]
      have HZR : Hid (BBlk wr (B + 1 + 1) 24 noB) := HL.out.blk HZ.out (by omega)
      have HBE : Hid (Below w.heap.size w wr) := HBW.out.trans (HL.out.to_below HBW.out.size (fun b hb => by have := HB.out; omega))
      go_wp2_with (with_reducible refine wpList_here' ?_; first | (refine wpList_load_mid rfl 80 _ rfl B 0 rfl (bcells 24 R) _ HXE.out.all Try.underlying80 rfl (by rw [bcells_len]; exact info_set) ?_) | (refine wpList_store_mid rfl 80 _ _ rfl (B + 1 + 1) 0 (bcells 24 R).toArray rfl rfl (by rw [bcells_size]; exact HZR.out.there 0 24 (by omega)) (by rw [bcells_size]; exact info_set) (bcells_one _ _) ?_; dsimp only [Act.put]))
      obtain rfl : FF = Try.f99 := HFF.out
      refine bodyPost_ret (results_row (k := 4) (t := 80) (b := B + 1 + 1) Try.results99 rfl (load_set (HZR.out.put R))) rfl ?_
      exact ⟨by rw [HRR.out], Below.setCells (by have := HB.out; omega) _ _ HBE.out⟩
end Go.Proofs.Ytkcflhlipdnbnaa

/-
  append onto a slice of the call's own from whatever source, a nil one or one of no element too: as laws for the walk and for a region that draws. slices.Clone at rows and at items.
-/
namespace Go.Proofs.Ytkcflhlipdnbnaa
open Go.RowKit

section
variable {P : Program}
theorem run_append_none (w : World) (base : Nat) (t ty e : TypeId) (i : TypeInfo) (size : Nat) (ht : P.underlying t = some (.slice e)) (hi : P.info? e = some i) (v : Value) (n c : Nat) (xs : List Value) (hown : w.ownsRow base e size v n xs) :
    (Builtin.append_ #[t, t] ty #[v, .slice none 0 c]).run P w = .ok v w := by
  rcases hown.2 with ⟨rfl, rfl⟩ | ⟨g, cap, cur, rfl, _, _, hnc, _⟩
  · simp [Builtin.append_, run_underlying ht, Go.sizeOf, typeInfo, hi, Builtin.lenOf, Builtin.firstCells]
  · simp [Builtin.append_, run_underlying ht, Go.sizeOf, typeInfo, hi, Builtin.lenOf, Builtin.firstCells, hnc, storeCells]

theorem wp_append_row (w : World) {o : Oper} {a : Act} {K : Act → World → Prop} {Q : Exit → Act → World → Prop} (s x : Operand) (t : TypeId)
    (ho : o.op = .call { callee := .builtin .append, args := #[s, x], argTypes := #[t, t] })
    (base : Nat) (e : TypeId) (i : TypeInfo) (z : Value) (size bytes : Nat) (ht : P.underlying t = some (.slice e)) (hi : P.info? e = some i) (hz : i.zero = some z)
    (hsize : i.size = size) (hby : i.bytes = bytes) (hzs : z.cells.size = size) (hsz : 0 < size)
    (v : Value) (n : Nat) (xs : List Value) (hs : a.eval s = v) (hown : w.ownsRow base e size v n xs)
    (ao : Option Addr) (m c : Nat) (news : List Value) (hx : a.eval x = .slice ao m c) (h0 : ao = none → m = 0) (hl : news.length = m * size) (hnews : ∀ ad, ao = some ad → ∀ j u, news[j]? = some u → w.cell? (ad.add j) = some u) (h1 : ∀ u ∈ news, u.oneCell' = true)
    (h63 : n + m ≤ maxLen) (hbytes : (n + m) * bytes ≤ 140737488355328) (hbase : base ≤ w.heap.size)
    (h : ∀ v' w', w'.ownsRow base e size v' (n + m) (xs ++ news) → w.grownBy w' v.ownBlock → K (a.put o.dst v') w') : o.wp P a w K Q := by
  cases ao with
  | some ad => exact wp_append_own w s x t ho base e i z size bytes ht hi hz hsize hby hzs hsz v n xs hs hown ad m c news hx hl (hnews ad rfl) h1 h63 hbytes hbase (fun v' w' h2 h3 _ => h v' w' h2 h3)
  | none =>
    obtain rfl := h0 rfl
    have hnil : news = [] := List.length_eq_zero_iff.1 (by simpa using hl)
    subst hnil
    have hr := run_append_none (P := P) w base t o.type e i size ht hi v n c xs hown
    unfold Oper.wp execOp
    simp only [ho, resolve, invoke, builtin, Sem.run_bind, Sem.run_pure, Result.andThen_ok, List.map_toArray, List.map_cons, List.map_nil, hs, hx, hr]
    exact h v w (by simpa using hown) ⟨rfl, rfl, rfl, Nat.le_refl _, fun _ _ _ => rfl⟩

theorem wpList_append_row (w : World) {ops : Array Oper} {rest : List Oper} {o : Oper} {a : Act} {Q : Exit → Act → World → Prop} (hgd : o.guard = none) (s x : Operand) (t : TypeId)
    (ho : o.op = .call { callee := .builtin .append, args := #[s, x], argTypes := #[t, t] })
    (base : Nat) (e : TypeId) (i : TypeInfo) (z : Value) (size bytes : Nat) (ht : P.underlying t = some (.slice e)) (hi : P.info? e = some i) (hz : i.zero = some z)
    (hsize : i.size = size) (hby : i.bytes = bytes) (hzs : z.cells.size = size) (hsz : 0 < size)
    (v : Value) (n : Nat) (xs : List Value) (hs : a.eval s = v) (hown : w.ownsRow base e size v n xs)
    (ao : Option Addr) (m c : Nat) (news : List Value) (hx : a.eval x = .slice ao m c) (h0 : ao = none → m = 0) (hl : news.length = m * size) (hnews : ∀ ad, ao = some ad → ∀ j u, news[j]? = some u → w.cell? (ad.add j) = some u) (h1 : ∀ u ∈ news, u.oneCell' = true)
    (h63 : n + m ≤ maxLen) (hbytes : (n + m) * bytes ≤ 140737488355328) (hbase : base ≤ w.heap.size)
    (h : ∀ v' w', w'.ownsRow base e size v' (n + m) (xs ++ news) → w.grownBy w' v.ownBlock → wpList P ops Q rest (a.put o.dst v') w') : wpList P ops Q (o :: rest) a w :=
  wpList_plain hgd fun _ hK => wp_append_row w s x t ho base e i z size bytes ht hi hz hsize hby hzs hsz v n xs hs hown ao m c news hx h0 hl hnews h1 h63 hbytes hbase fun v' w' h2 h3 => hK _ _ (h v' w' h2 h3)

theorem step_append_row (w : World) {ops : Array Oper} {o : Oper} {a : Act} {K : Act → World → Prop} {Q : Exit → Act → World → Prop} {E : Prop} (hgd : o.guard = none) (s x : Operand) (t : TypeId)
    (ho : o.op = .call { callee := .builtin .append, args := #[s, x], argTypes := #[t, t] })
    (base : Nat) (e : TypeId) (i : TypeInfo) (z : Value) (size bytes : Nat) (ht : P.underlying t = some (.slice e)) (hi : P.info? e = some i) (hz : i.zero = some z)
    (hsize : i.size = size) (hby : i.bytes = bytes) (hzs : z.cells.size = size) (hsz : 0 < size)
    (v : Value) (n : Nat) (xs : List Value) (hs : a.eval s = v) (hown : w.ownsRow base e size v n xs)
    (ao : Option Addr) (m c : Nat) (news : List Value) (hx : a.eval x = .slice ao m c) (h0 : ao = none → m = 0) (hl : news.length = m * size) (hnews : ∀ ad, ao = some ad → ∀ j u, news[j]? = some u → w.cell? (ad.add j) = some u) (h1 : ∀ u ∈ news, u.oneCell' = true)
    (h63 : n + m ≤ maxLen) (hbytes : (n + m) * bytes ≤ 140737488355328) (hbase : base ≤ w.heap.size)
    (h : ∀ v' w', w'.ownsRow base e size v' (n + m) (xs ++ news) → w.grownBy w' v.ownBlock → K (a.put o.dst v') w') :
    if Region.wanted o (yielded ops a.tmps) = true then Oper.wp P o a w K Q else E := by
  have hw : Region.wanted o (yielded ops a.tmps) = true := by simp [Region.wanted, hgd]
  rw [if_pos hw]
  exact wp_append_row w s x t ho base e i z size bytes ht hi hz hsize hby hzs hsz v n xs hs hown ao m c news hx h0 hl hnews h1 h63 hbytes hbase h
end

/-- the cells of a row -/
def rowCells (l : List Int) : List Value := l.map (Value.int .i64)
theorem rowCells_len (l : List Int) : (rowCells l).length = l.length * 1 := by simp [rowCells]
theorem rowCells_one (l : List Int) : ∀ u ∈ rowCells l, u.oneCell' = true := by intro u hu; obtain ⟨x, _, rfl⟩ := List.mem_map.1 hu; rfl
theorem rowCells_at {lo hi : Nat} {w : World} {ao : Option Addr} {l : List Int} (h : RowIn lo hi w ao l) : ∀ ad, ao = some ad → ∀ j u, (rowCells l)[j]? = some u → w.cell? (ad.add j) = some u := by
  intro ad e j u hu
  have hj : j < l.length := by have := (List.getElem?_eq_some_iff.1 hu).1; simpa [rowCells] using this
  rcases h with rfl | ⟨b, o, e2, _, _, h3⟩
  · simp at hj
  · rw [e] at e2
    simp only [Option.some.injEq] at e2
    subst e2
    rw [add_none, h3 j hj]
    simp [rowCells, hj] at hu
    simp [List.getD, hj, hu]
theorem rowIn_none {lo hi n : Nat} {w : World} {ao : Option Addr} {l : List Int} (h : RowIn lo hi w ao l) (hn : l.length = n) : ao = none → n = 0 := by
  intro e
  rcases h with rfl | ⟨b, o, e2, _⟩
  · simpa using hn.symm
  · rw [e] at e2; cases e2
/-- an owned row, out of what append leaves -/
theorem rowOwn_of {B n : Nat} {w : World} {v : Value} {l : List Int} (h : w.ownsRow B 3 1 v n (rowCells l)) (hn : l.length = n) : ∃ a cap, v = .slice a n cap ∧ RowOwn B w.heap.size w a l := by
  rcases h.2 with ⟨rfl, rfl⟩ | ⟨g, cap, cur, rfl, hg, hb, _⟩
  · exact ⟨none, 0, rfl, .inl (List.length_eq_zero_iff.1 hn)⟩
  · refine ⟨_, cap, rfl, .inr ⟨g, rfl, hg, (Array.getElem?_eq_some_iff.1 hb).1, ?_⟩⟩
    have := blk_own h
    rw [Nat.mul_one, ← hn] at this
    exact this.congr fun i hi => by simp [rowCells, List.getD, hi]

end Go.Proofs.Ytkcflhlipdnbnaa

/-
  impl.ReadGraph.
-/
namespace Go.Proofs.Ytkcflhlipdnbnaa
open Go.RowKit

/-- the cells of a list of edges, as a list -/
def ecells (l : List Ed) : List Value := (List.range (l.length * 3)).map (ef l)
theorem ecells_len (l : List Ed) : (ecells l).length = l.length * 3 := by simp [ecells]
theorem eat_app {l : List Ed} {x : Ed} {i : Nat} (h : i < l.length) : eat (l ++ [x]) i = eat l i := by simp [eat, List.getD, List.getElem?_append_left h]
theorem eat_last (l : List Ed) (x : Ed) : eat (l ++ [x]) l.length = x := by simp [eat, List.getD]
theorem ecells_snoc (l : List Ed) (x : Ed) : ecells (l ++ [x]) = ecells l ++ [.int .i64 x.1, .int .u8 x.2.1, .int .i64 x.2.2] := by
  unfold ecells
  rw [List.length_append, List.length_singleton, show (l.length + 1) * 3 = l.length * 3 + 1 + 1 + 1 by omega, List.range_succ, List.range_succ, List.range_succ]
  simp only [List.map_append, List.append_assoc]
  congr 1
  · refine List.map_congr_left fun j hj => ?_
    have hj' := List.mem_range.1 hj
    unfold ef
    rw [eat_app (by omega)]
  · simp only [List.map_cons, List.map_nil, ef0, ef1, ef2, eat_last]
    rfl
/-- edges that are owned, out of their row -/
theorem edges_own {B n : Nat} {w : World} {v : Value} {l : List Ed} (h : w.ownsRow B 172 3 v n (ecells l)) (hn : l.length = n) : ∃ a cap, v = .slice a n cap ∧ EdgesOwn B w.heap.size w a l := by
  rcases h.2 with ⟨rfl, h0⟩ | ⟨g, cap, cur, rfl, hg, hb, _⟩
  · exact ⟨none, 0, by rw [h0], .inl (List.length_eq_zero_iff.1 (by omega))⟩
  · refine ⟨_, cap, rfl, .inr ⟨g, rfl, hg, (Array.getElem?_eq_some_iff.1 hb).1, ?_⟩⟩
    unfold EBlk
    rw [hn]
    exact (blk_own h).congr fun i hi => by simp [ecells, List.getD, hn, hi]
theorem news_three (w2 : World) (x y z : Value) (T : TypeId) : ∀ j u, [x, y, z][j]? = some u → (w2.alloc (.cells #[x, y, z] T)).cell? ((⟨w2.heap.size, 0, none⟩ : Addr).add j) = some u := by
  obtain ⟨h0, h1, h2⟩ := box_cells w2 x y z T _ rfl
  intro j u hu
  rw [add_none, Nat.zero_add]
  rcases j with _ | _ | _ | j
  · simp at hu; subst hu; exact h0
  · simp at hu; subst hu; exact h1
  · simp at hu; subst hu; exact h2
  · simp at hu

theorem owns_upto {B M e s n : Nat} {w w' : World} {v : Value} {xs : List Value} (ho : w.ownsRow B e s v n xs) (hv : ∀ k, v.ownBlock = some k → k < M) (hb : ∀ k, B ≤ k → k < M → w'.heap[k]? = w.heap[k]?) : w'.ownsRow B e s v n xs := by
  refine ⟨ho.1, ?_⟩
  rcases ho.2 with hn | ⟨g, cap, cur, rfl, hg, hh, r⟩
  · exact .inl hn
  · exact .inr ⟨g, cap, cur, rfl, hg, by rw [hb g hg (hv g rfl)]; exact hh, r⟩
theorem owns_at {w9 : World} {P n : Nat} {v' u : Value} {xs : List Value} (ho : w9.ownsRow (P + 1) 172 3 v' n xs) : (w9.setCell ⟨P, 1, none⟩ u).ownsRow (P + 1) 172 3 v' n xs :=
  owns_upto (M := w9.heap.size) ho (fun k hk => (ho.lt k hk).2) (fun k h1 _ => Below.heap_setCell _ _ _ _ (by simp; omega))
theorem blk_three_set {w : World} {b : Nat} {x y z : Value} (h : Blk w b 3 (fun i => if i = 0 then x else if i = 1 then y else z)) : w.cell? ⟨b, 0, none⟩ = some x ∧ w.cell? ⟨b, 1, none⟩ = some y ∧ w.cell? ⟨b, 2, none⟩ = some z :=
  ⟨h.cell (i := 0) (by omega), h.cell (i := 1) (by omega), h.cell (i := 2) (by omega)⟩
theorem Blk.put0 {w : World} {b : Nat} {x y z : Value} (h : Blk w b 3 (fun i => if i = 0 then x else if i = 1 then y else z)) (u : Value) : Blk (w.setCell ⟨b, 0, none⟩ u) b 3 (fun i => if i = 0 then u else if i = 1 then y else z) :=
  (Blk.set h 0 (by omega) u).congr (fun i hi => by rcases (show i = 0 ∨ i = 1 ∨ i = 2 by omega) with rfl | rfl | rfl <;> simp)
theorem Blk.put1 {w : World} {b : Nat} {x y z : Value} (h : Blk w b 3 (fun i => if i = 0 then x else if i = 1 then y else z)) (u : Value) : Blk (w.setCell ⟨b, 1, none⟩ u) b 3 (fun i => if i = 0 then x else if i = 1 then u else z) :=
  (Blk.set h 1 (by omega) u).congr (fun i hi => by rcases (show i = 0 ∨ i = 1 ∨ i = 2 by omega) with rfl | rfl | rfl <;> simp)
theorem Blk.put2 {w : World} {b : Nat} {x y z : Value} (h : Blk w b 3 (fun i => if i = 0 then x else if i = 1 then y else z)) (u : Value) : Blk (w.setCell ⟨b, 2, none⟩ u) b 3 (fun i => if i = 0 then x else if i = 1 then y else u) :=
  (Blk.set h 2 (by omega) u).congr (fun i hi => by rcases (show i = 0 ∨ i = 1 ∨ i = 2 by omega) with rfl | rfl | rfl <;> simp)

theorem cell_set {w : World} {b o c j : Nat} {v : Value} (h : w.cell? ⟨b, o, none⟩ = some v) (u : Value) (hne : b ≠ c) : (w.setCell ⟨c, j, none⟩ u).cell? ⟨b, o, none⟩ = some v := by
  rw [← h]; unfold World.cell?; rw [Below.heap_setCell w ⟨c, j, none⟩ u b (by simpa using hne)]
theorem KeptBut.toP {g : Nat} {w w1 : World} (h : KeptBut g w w1) : KeptP (fun c => c = g) w w1 := ⟨h.os, h.tape, h.output, h.size, fun k hk hn => h.block k hk hn⟩

theorem take_snocE (l : List Ed) {k : Nat} (h : k < l.length) : l.take (k + 1) = l.take k ++ [eat l k] := by
  rw [List.take_add_one]; simp [eat, List.getD, h]

end Go.Proofs.Ytkcflhlipdnbnaa

/-
  slices.Clone at edges, impl.newGraph, spec.l04Copy: a graph of the call's own.
-/
namespace Go.Proofs.Ytkcflhlipdnbnaa
open Go.RowKit

theorem ecells_one (l : List Ed) : ∀ u ∈ ecells l, u.oneCell' = true := by
  intro u hu
  obtain ⟨j, _, rfl⟩ := List.mem_map.1 hu
  unfold ef
  split
  · rfl
  · split <;> rfl
theorem ecells_get {l : List Ed} {j : Nat} (h : j < l.length * 3) : (ecells l)[j]? = some (ef l j) := by simp [ecells, h]
theorem EdgeAt.cell {w : World} {b o i : Nat} {l : List Ed} (h : EdgeAt w b (o + i * 3) (eat l i)) {r : Nat} (hr : r < 3) : w.cell? ⟨b, o + (i * 3 + r), none⟩ = some (ef l (i * 3 + r)) := by
  rcases (show r = 0 ∨ r = 1 ∨ r = 2 by omega) with rfl | rfl | rfl
  · rw [Nat.add_zero, ef0]; exact h.1
  · rw [ef1, ← Nat.add_assoc]; exact h.2.1
  · rw [ef2, ← Nat.add_assoc]; exact h.2.2
theorem ecells_at {lo hi : Nat} {w : World} {ao : Option Addr} {l : List Ed} (h : EdgesIn lo hi w ao l) : ∀ ad, ao = some ad → ∀ j u, (ecells l)[j]? = some u → w.cell? (ad.add j) = some u := by
  intro ad e j u hu
  have hj : j < l.length * 3 := by have := (List.getElem?_eq_some_iff.1 hu).1; simpa [ecells] using this
  rcases h with rfl | ⟨b, o, e2, _, _, h3⟩
  · simp at hj
  · rw [e] at e2
    simp only [Option.some.injEq] at e2
    subst e2
    rw [add_none]
    have hc := (h3 (j / 3) (by omega)).cell (r := j % 3) (by omega)
    rw [show j / 3 * 3 + j % 3 = j by omega] at hc
    rw [hc, ← ecells_get hj, hu]
theorem edgesIn_none {lo hi n : Nat} {w : World} {ao : Option Addr} {l : List Ed} (h : EdgesIn lo hi w ao l) (hn : l.length = n) : ao = none → n = 0 := by
  intro e
  rcases h with rfl | ⟨b, o, e2, _⟩
  · simpa using hn.symm
  · rw [e] at e2; cases e2

theorem blk_pair_cells {w : World} {b : Nat} {x y : Value} (h : Blk w b 2 (fun i => if i = 0 then x else y)) : w.cell? ⟨b, 0, none⟩ = some x ∧ w.cell? ⟨b, 1, none⟩ = some y := ⟨h.cell (i := 0) (by omega), h.cell (i := 1) (by omega)⟩
theorem owns_set {B e s n b j : Nat} {w : World} {v u : Value} {xs : List Value} (ho : w.ownsRow B e s v n xs) (hb : b < B) : (w.setCell ⟨b, j, none⟩ u).ownsRow B e s v n xs :=
  owns_upto (M := w.heap.size) ho (fun k hk => (ho.lt k hk).2) (fun k h1 _ => Below.heap_setCell _ _ _ _ (by simp; omega))
theorem owns_low {B B' e s n : Nat} {w : World} {v : Value} {xs : List Value} (ho : w.ownsRow B e s v n xs) (hb : B' ≤ B) : w.ownsRow B' e s v n xs := by
  refine ⟨ho.1, ?_⟩
  rcases ho.2 with hn | ⟨g, cap, cur, rfl, hg, r⟩
  · exact .inl hn
  · exact .inr ⟨g, cap, cur, rfl, by omega, r⟩

end Go.Proofs.Ytkcflhlipdnbnaa

/-
  spec.l04Put.
-/
namespace Go.Proofs.Ytkcflhlipdnbnaa
open Go.RowKit

theorem filter_step {p : Ed → Bool} {l : List Ed} {k : Nat} (h : k < l.length) : (l.take (k + 1)).filter p = (l.take k).filter p ++ (if p (eat l k) = true then [eat l k] else []) := by
  rw [take_snocE l h, List.filter_append]
  by_cases hp : p (eat l k) = true <;> simp [hp]
theorem filter_len {p : Ed → Bool} (l : List Ed) (k : Nat) : ((l.take k).filter p).length ≤ k := Nat.le_trans (List.length_filter_le _ _) (by rw [List.length_take]; omega)

end Go.Proofs.Ytkcflhlipdnbnaa

/-
  Arcs as edges: in, held against one another, marked, held; out of their reading.
-/
namespace Go.Proofs.Ytkcflhlipdnbnaa
open Go.RowKit

theorem Try.info126 : (Try.prog.info? 126).map (fun i => (i.zero, i.size, i.bytes)) = some (some (.agg #[.int .i64 0, .int .u8 0, .int .i64 0]), 3, 24) := by kernel_rfl

set_option maxHeartbeats 1000000 in
theorem eqArc_any (x y : Ed) (r : Bool) (w : World) (hr : r = decide (x = y)) : Calls Try.prog 84 #[ev x, ev y] w fun e w' => e = .returned (.bool r) ∧ Hid (Below w.heap.size w w') := by
  obtain ⟨x0, x1, x2⟩ := x
  obtain ⟨y0, y1, y2⟩ := y
  have HR : Hid (r = decide (x0 = y0 ∧ x1 = y1 ∧ x2 = y2)) := by show _ = _; rw [hr]; simp
  clear hr
  by_cases h0 : x0 = y0
  · subst h0
    by_cases h1 : x1 = y1
    · subst h1
      by_cases h2 : x2 = y2
      · subst h2
        obtain rfl : r = true := by rw [HR.out]; simp
        go_enter Try.func84, Try.ntmps84
        go_wp2
        go_ret
        exact ⟨rfl, below2 w _ _⟩
      · have hn : decide (x2 = y2) = false := decide_eq_false h2
        obtain rfl : r = false := by rw [HR.out]; simp [h2]
        go_enter Try.func84, Try.ntmps84
        go_wp2
        go_ret
        exact ⟨rfl, below2 w _ _⟩
    · have hn : decide (x1 = y1) = false := decide_eq_false h1
      obtain rfl : r = false := by rw [HR.out]; simp [h1]
      go_enter Try.func84, Try.ntmps84
      go_wp2
      go_ret
      exact ⟨rfl, below2 w _ _⟩
  · have hn : decide (x0 = y0) = false := decide_eq_false h0
    obtain rfl : r = false := by rw [HR.out]; simp [h0]
    go_enter Try.func84, Try.ntmps84
    go_wp2
    go_ret
    exact ⟨rfl, below2 w _ _⟩

set_option maxHeartbeats 2000000 in
set_option maxRecDepth 100000 in
theorem eqArcs_any (lo hi lo' hi' : Nat) (a a' : Option Addr) (n n' cap cap' : Nat) (l l' : List Ed) (r : Bool) (w : World) (ha : EdgesIn lo hi w a l) (hb : EdgesIn lo' hi' w a' l') (hh : hi ≤ w.heap.size) (hh' : hi' ≤ w.heap.size) (hn : l.length = n) (hn' : l'.length = n') (hm : n ≤ 1048576) (hr : r = decide (l = l')) :
    Calls Try.prog 43 #[.slice a n cap, .slice a' n' cap'] w fun e w' => e = .returned (.bool r) ∧ Hid (Below w.heap.size w w') := by
  have HN : Hid (l.length = n) := hn
  have HN' : Hid (l'.length = n') := hn'
  have HA : Hid (EdgesIn lo hi w a l) := ha
  have HA' : Hid (EdgesIn lo' hi' w a' l') := hb
  have HH : Hid (hi ≤ w.heap.size ∧ hi' ≤ w.heap.size) := ⟨hh, hh'⟩
  have HR : Hid (r = decide (l = l')) := hr
  clear ha hb hh hh' hn hn' hr
  by_cases he : n = n'
  · subst he
    go_enter Try.func43, Try.ntmps43
    go_wp2
    go_loopw [5] (fun i wr => ∃ k : Nat, i = .int .i64 k ∧ k ≤ n ∧ Hid (l = l' ↔ l.drop k = l'.drop k) ∧ Hid (Below w.heap.size w wr)) (fun i _ => n - (intOf i).toNat)
    case atStart => exact ⟨0, rfl, by omega, by show _ ↔ _; simp, Below.refl _ _⟩
    case round =>
      obtain ⟨k, rfl, hk, HE, HL⟩ := hrel
      by_cases hlt : k < n
      · have hlt1 : (k : Int) < (n : Int) := by omega
        have hlt0 : 0 ≤ (k : Int) := by omega
        obtain ⟨b, o, rfl, _, _, hx⟩ := (HA.out.below HL.out HH.out.1).edge (k := k) (by rw [HN.out]; exact hlt)
        obtain ⟨b', o', rfl, _, _, hy⟩ := (HA'.out.below HL.out HH.out.2).edge (k := k) (by rw [HN'.out]; exact hlt)
        obtain ⟨x, HX⟩ : ∃ x : Ed, Hid (x = eat l k) := ⟨_, rfl⟩
        obtain ⟨y, HY⟩ : ∃ x : Ed, Hid (x = eat l' k) := ⟨_, rfl⟩
        rw [← HX.out] at hx
        rw [← HY.out] at hy
        have HEX : Hid (EdgeAt wr b (o + k * 3) x) := hx
        have HEY : Hid (EdgeAt wr b' (o' + k * 3) y) := hy
        obtain ⟨q, HQ⟩ : ∃ q : Bool, Hid (q = decide (x = y)) := ⟨_, rfl⟩
        have HD : Hid ((l = l') ↔ (x = y ∧ l.drop (k + 1) = l'.drop (k + 1))) := HE.out.trans (by rw [HX.out, HY.out]; exact drop_of_getD HN.out HN'.out hlt)
        have HCQ := HQ
        obtain ⟨x0, x1, x2⟩ := x
        obtain ⟨y0, y1, y2⟩ := y
        obtain ⟨p0, p1, p2⟩ := hx
        obtain ⟨q0, q1, q2⟩ := hy
        dsimp only at p0 p1 p2 q0 q1 q2
        have HC : Hid (∀ w0, Below wr.heap.size wr w0 → Calls Try.prog 84 #[ev (x0, x1, x2), ev (y0, y1, y2)] w0 fun e w' => e = .returned (.bool q) ∧ Hid (Below wr.heap.size wr w') ∧ (EdgeAt w' b (o + k * 3) (x0, x1, x2) ∧ EdgeAt w' b' (o' + k * 3) (y0, y1, y2))) := fun w0 h =>
          (eqArc_any _ _ q w0 HCQ.out).mono fun _ _ ⟨h1, h2⟩ =>
            have hk := h.trans (h2.out.mono h.size)
            ⟨h1, hk, below_edge HEX.out hk, below_edge HEY.out hk⟩
        clear HCQ
        go_wp2_with fail
        go_region_held3 (fun w' => (w'.cell? ⟨b, o + k * 3, none⟩ = some (.int .i64 x0) ∧ w'.cell? ⟨b, o + k * 3 + 1, none⟩ = some (.int .u8 x1) ∧ w'.cell? ⟨b, o + k * 3 + 2, none⟩ = some (.int .i64 x2)) ∧ (w'.cell? ⟨b', o' + k * 3, none⟩ = some (.int .i64 y0) ∧ w'.cell? ⟨b', o' + k * 3 + 1, none⟩ = some (.int .u8 y1) ∧ w'.cell? ⟨b', o' + k * 3 + 2, none⟩ = some (.int .i64 y2))) (first | exact ⟨⟨p0, p1, p2⟩, ⟨q0, q1, q2⟩⟩ | exact hk1) (first | (go_at_call 84; refine (HC.out _ ((Below.refl _ _).drew)).mono ?_; rintro e w1 ⟨rfl, HB1, hk1⟩))
        have HL1 : Hid (Below w.heap.size w w1) := HL.out.trans (HB1.out.mono HL.out.size)
        rcases Bool.eq_false_or_eq_true q with hq | hq
        · subst hq
          go_wp2
          go_roundw
          case rel =>
            have e : (x0, x1, x2) = ((y0, y1, y2) : Ed) := of_decide_eq_true HQ.out.symm
            exact ⟨k + 1, by go_num, by omega, HD.out.trans ⟨fun h => h.2, fun h => ⟨e, h⟩⟩, HL1⟩
          case measure => simp [intOf]; omega
        · subst hq
          go_wp2
          go_ret
          have e : ¬ (x0, x1, x2) = ((y0, y1, y2) : Ed) := of_decide_eq_false HQ.out.symm
          refine ⟨?_, HL1⟩
          have : r = false := by rw [HR.out]; exact decide_eq_false fun h => e (HD.out.1 h).1
          rw [this]; rfl
      · go_wp2
        go_ret
        refine ⟨?_, HL⟩
        have : r = true := by
          rw [HR.out]
          refine decide_eq_true (HE.out.2 ?_)
          rw [List.drop_of_length_le (by rw [HN.out]; omega), List.drop_of_length_le (by rw [HN'.out]; omega)]
        rw [this]; rfl
  · have hne : decide ((n : Int) = (n' : Int)) = false := by simp; omega
    have hr : r = false := by rw [HR.out]; exact decide_eq_false fun h => he (by rw [← HN.out, h, HN'.out])
    subst hr
    go_enter Try.func43, Try.ntmps43
    go_wp2
    go_ret
    exact ⟨rfl, Below.refl _ _⟩

set_option maxHeartbeats 2000000 in
set_option maxRecDepth 100000 in
theorem markArcs_any (lo hi : Nat) (a : Option Addr) (n cap K : Nat) (l : List Ed) (w : World) (ha : EdgesOwn lo hi w a l) (hn : l.length = n) (hm : n ≤ 1048576) (hK : K ≤ 1099511627776) :
    Calls Try.prog 47 #[.slice a n cap, .int .i64 (K : Int)] w fun e w' => e = .returned (.int .i64 ((K + n * 3 : Nat) : Int)) ∧ Hid (EdgesOwn lo hi w' a (marksE K n)) ∧ Hid (KeptP (fun c => lo ≤ c ∧ c < hi) w w') := by
  have HN : Hid (l.length = n) := hn
  by_cases h0 : n = 0
  · subst h0
    clear ha hn
    go_enter Try.func47, Try.ntmps47
    go_wp2
    go_loop [5, 1] (fun i k => i = .int .i64 0 ∧ k = .int .i64 (K : Int)) (fun _ _ => 0)
    case atStart => exact ⟨rfl, rfl⟩
    case round =>
      obtain ⟨rfl, rfl⟩ := hrel
      go_wp2
      go_ret
      exact ⟨rfl, .inl (by simp [marksE]), KeptP.refl _ _⟩
  · obtain ⟨b, rfl, h1, h2, hb⟩ : ∃ b, a = some ⟨b, 0, none⟩ ∧ lo ≤ b ∧ b < hi ∧ EBlk w b l := by
      rcases ha with rfl | h
      · exact absurd HN.out (by simp; omega)
      · exact h
    have HX : Hid (lo ≤ b ∧ b < hi) := ⟨h1, h2⟩
    have HB0 : Hid (EBlk w b l) := hb
    clear ha hb hn h1 h2
    go_enter Try.func47, Try.ntmps47
    go_wp2
    go_loopw [5, 1] (fun i s wr => ∃ k : Nat, i = .int .i64 k ∧ s = .int .i64 ((K + k * 3 : Nat) : Int) ∧ k ≤ n ∧ Hid (∃ L : List Ed, L.length = n ∧ EBlk wr b L ∧ ∀ j, j < k → eat L j = eat (marksE K n) j) ∧ Hid (KeptP (fun c => lo ≤ c ∧ c < hi) w wr)) (fun i _ _ => n - (intOf i).toNat)
    case atStart => exact ⟨0, rfl, by simp, by omega, ⟨l, HN.out, HB0.out, fun j hj => absurd hj (by omega)⟩, KeptP.refl _ _⟩
    case round =>
      obtain ⟨k, rfl, rfl, hk, HP, HL⟩ := hrel
      by_cases hlt : k < n
      · have hlt1 : (k : Int) < (n : Int) := by omega
        obtain ⟨L, hL, hblk, hall⟩ := HP.out
        have HBK : Hid (EBlk wr b L) := hblk
        have HALL : Hid (∀ j, j < k → eat L j = eat (marksE K n) j) := hall
        have HLL : Hid (L.length = n) := hL
        have hd0 := Blk.cell hblk (i := k * 3) (by omega)
        have hd1 := Blk.cell hblk (i := k * 3 + 1) (by omega)
        have hd2 := Blk.cell hblk (i := k * 3 + 2) (by omega)
        have hf0 := Blk.frozen hblk (k * 3)
        have hf1 := Blk.frozen hblk (k * 3 + 1)
        have hf2 := Blk.frozen hblk (k * 3 + 2)
        clear hblk hall hL
        go_wp2
        go_roundw
        case rel =>
          have hst := HBK.out.put (k := k) (by rw [HLL.out]; exact hlt) (eat (marksE K n) k)
          rw [marksE_at hlt] at hst
          refine ⟨k + 1, by go_num, by go_num, by omega, ⟨L.set k (eat (marksE K n) k), by rw [List.length_set]; exact HLL.out, ?_, fun j hj => ?_⟩, ?_⟩
          · rw [marksE_at hlt]
            have e0 : ((K + k * 3 : Nat) : Int) = (K : Int) + (k : Int) * 3 := by omega
            have e1 : ((K + k * 3 + 1 : Nat) : Int) = (K : Int) + (k : Int) * 3 + 1 := by omega
            have e2 : ((K + k * 3 + 2 : Nat) : Int) = (K : Int) + (k : Int) * 3 + 1 + 1 := by omega
            rw [e0, e1, e2] at hst ⊢
            exact hst
          · rw [eat_set (by rw [HLL.out]; exact hlt)]
            by_cases e : j = k
            · subst e; rw [if_pos rfl]
            · rw [if_neg e]; exact HALL.out j (by omega)
          · exact ((HL.out.setCell HX.out _).setCell HX.out _).setCell HX.out _
        case measure => simp [intOf]; omega
      · obtain rfl : k = n := by omega
        go_wp2
        go_ret
        obtain ⟨L, hL, hblk, hall⟩ := HP.out
        have : L = marksE K k := eat_ext (by rw [hL, marksE_len]) (fun i hi => hall i (by rw [← hL]; exact hi))
        subst this
        exact ⟨rfl, .inr ⟨b, rfl, HX.out.1, HX.out.2, hblk⟩, HL⟩

set_option maxHeartbeats 2000000 in
set_option maxRecDepth 100000 in
theorem heldArcs_any (lo hi : Nat) (a : Option Addr) (n cap K : Nat) (w : World) (ha : EdgesIn lo hi w a (marksE K n)) (hm : n ≤ 1048576) (hK : K ≤ 1099511627776) :
    Calls Try.prog 49 #[.slice a n cap, .int .i64 (K : Int)] w fun e w' => e = .returned (.int .i64 ((K + n * 3 : Nat) : Int)) ∧ w = w' := by
  have HA : Hid (EdgesIn lo hi w a (marksE K n)) := ha
  clear ha
  go_enter Try.func49, Try.ntmps49
  go_wp2
  go_loop [5, 1] (fun i s => ∃ k : Nat, i = .int .i64 k ∧ s = .int .i64 ((K + k * 3 : Nat) : Int) ∧ k ≤ n) (fun i _ => n - (intOf i).toNat)
  case atStart => exact ⟨0, rfl, by simp, by omega⟩
  case round =>
    obtain ⟨k, rfl, rfl, hk⟩ := hrel
    by_cases hlt : k < n
    · have hlt1 : (k : Int) < (n : Int) := by omega
      obtain ⟨b, o, rfl, _, _, hc⟩ := HA.out.edge (k := k) (by rw [marksE_len]; exact hlt)
      rw [marksE_at hlt] at hc
      obtain ⟨c0, c1, c2⟩ := hc
      dsimp only at c0 c1 c2
      go_wp2
      go_roundw
      case rel => exact ⟨k + 1, by go_num, by go_num, by omega⟩
      case measure => simp [intOf]; omega
    · obtain rfl : k = n := by omega
      go_wp2
      go_ret
      exact ⟨rfl, rfl⟩

end Go.Proofs.Ytkcflhlipdnbnaa

/-
  What a law keeps at hand while it goes on: what was there, the boxes of its variables, each of so many cells.
-/
namespace Go.Proofs.Ytkcflhlipdnbnaa
open Go.RowKit

/-- what was there is as it was; each box holds its values -/
structure Hold (w wi : World) (bx : List (Nat × List Value)) : Prop where
  bel : Below w.heap.size w wi
  box : ∀ p ∈ bx, Blk wi p.1 p.2.length (fun i => p.2.getD i (.int .i64 0))
theorem Hold.below {w wi wj : World} {bx : List (Nat × List Value)} (h : Hold w wi bx) (hb : Below wi.heap.size wi wj) : Hold w wj bx :=
  ⟨h.bel.trans (hb.mono h.bel.size), fun p hp => (h.box p hp).of_block (hb.block _ (h.box p hp).lt)⟩
theorem Hold.kept {w wi wj : World} {bx : List (Nat × List Value)} {p : Nat → Prop} (h : Hold w wi bx) (hk : KeptP p wi wj) (h1 : ∀ x ∈ bx, ¬ p x.1) (h2 : ∀ k, p k → w.heap.size ≤ k) : Hold w wj bx :=
  ⟨h.bel.trans (hk.to_below h.bel.size h2), fun x hx => hk.blk (h.box x hx) (h1 x hx)⟩
theorem blk_list (w : World) (b : Nat) (hb : b = w.heap.size) (vs : List Value) (T : TypeId) : Blk (w.alloc (.cells vs.toArray T)) b vs.length (fun i => vs.getD i (.int .i64 0)) :=
  hb ▸ blk_new w vs.toArray T _ (fun i hi => by
    have hi' : i < vs.length := by simpa using hi
    simp [List.getD, hi'])
theorem Hold.more {w wi : World} {bx : List (Nat × List Value)} (h : Hold w wi bx) (vs : List Value) (T : TypeId) : Hold w (wi.alloc (.cells vs.toArray T)) ((wi.heap.size, vs) :: bx) :=
  ⟨h.bel.alloc h.bel.size _, fun p hp => by
    rcases List.mem_cons.1 hp with rfl | hp
    · exact blk_list wi _ rfl vs T
    · exact (h.box p hp).alloc _⟩
theorem Hold.cell {w wi : World} {bx : List (Nat × List Value)} (h : Hold w wi bx) {b : Nat} {vs : List Value} {i : Nat} (hm : (b, vs) ∈ bx) (hi : i < vs.length) : wi.cell? ⟨b, i, none⟩ = some (vs.getD i (.int .i64 0)) := (h.box _ hm).cell (i := i) hi
theorem Hold.frozen {w wi : World} {bx : List (Nat × List Value)} (h : Hold w wi bx) {b : Nat} {vs : List Value} (i : Nat) (hm : (b, vs) ∈ bx) : wi.frozen? ⟨b, i, none⟩ = false := (h.box _ hm).frozen i
theorem Hold.lt {w wi : World} {bx : List (Nat × List Value)} (h : Hold w wi bx) {b : Nat} {vs : List Value} (hm : (b, vs) ∈ bx) : b < wi.heap.size := (h.box _ hm).lt
theorem Hold.none (w : World) : Hold w w [] := ⟨Below.refl _ _, fun p hp => by simp at hp⟩
theorem Hold.less {w wi : World} {bx bx' : List (Nat × List Value)} (h : Hold w wi bx) (hs : ∀ p ∈ bx', p ∈ bx) : Hold w wi bx' := ⟨h.bel, fun p hp => h.box p (hs p hp)⟩
theorem Hold.drew {w wi : World} {bx : List (Nat × List Value)} (h : Hold w wi bx) : Hold w wi.drew bx := h.below ((Below.refl _ _).drew)
/-- a store into a box -/
theorem Hold.put {w wi : World} {bx : List (Nat × List Value)} {b j : Nat} {vs : List Value} (h : Hold w wi ((b, vs) :: bx)) (hj : j < vs.length) (v : Value) (hb : w.heap.size ≤ b) (hn : ∀ p ∈ bx, p.1 ≠ b) : Hold w (wi.setCell ⟨b, j, Option.none⟩ v) ((b, vs.set j v) :: bx) :=
  ⟨h.bel.setCell hb v, fun p hp => by
    rcases List.mem_cons.1 hp with rfl | hp
    · have h1 := (h.box (b, vs) (by simp)).set j hj v
      show Blk _ b (vs.set j v).length _
      rw [List.length_set]
      refine h1.congr fun i hi => ?_
      by_cases e : i = j
      · subst e; simp [List.getD, show i < vs.length from hj]
      · simp [List.getD, e, List.getElem?_set_ne (Ne.symm e)]
    · exact (h.box p (List.mem_cons_of_mem _ hp)).of_block (Below.heap_setCell _ _ _ _ (hn p hp))⟩
end Go.Proofs.Ytkcflhlipdnbnaa
