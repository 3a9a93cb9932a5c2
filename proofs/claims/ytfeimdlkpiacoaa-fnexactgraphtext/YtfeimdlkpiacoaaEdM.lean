/-
  The plain mathematics of edges in order: one is ahead or they are the same; a list in order; an edge put; edges turned; a right graph.
-/
import Derived.Test.YtfeimdlkpiacoaaEdB
namespace Go.Proofs.Ytfeimdlkpiacoaa
open Go.RowKit

theorem orI_lt {a b : Int} : orI a b < 0 ↔ (a < 0 ∨ (a = 0 ∧ b < 0)) := by unfold orI; split <;> omega
theorem cmpI_lt {a b : Int} : cmpI a b < 0 ↔ a < b := by unfold cmpI; split <;> (try split) <;> omega
theorem cmpI_eq {a b : Int} : cmpI a b = 0 ↔ a = b := by unfold cmpI; split <;> (try split) <;> omega
theorem ltE_iff {x y : Ed} : ltE x y = true ↔ (x.1 < y.1 ∨ (x.1 = y.1 ∧ (x.2.1 < y.2.1 ∨ (x.2.1 = y.2.1 ∧ x.2.2 < y.2.2)))) := by
  unfold ltE cmpE
  rw [decide_eq_true_eq, orI_lt, orI_lt, cmpI_lt, cmpI_lt, cmpI_lt, cmpI_eq, cmpI_eq]
theorem ltE_irrefl (x : Ed) : ltE x x = false := by
  rcases h : ltE x x with _ | _
  · rfl
  · rw [ltE_iff] at h; omega
theorem ltE_trans {x y z : Ed} (h : ltE x y = true) (h' : ltE y z = true) : ltE x z = true := by rw [ltE_iff] at *; omega
theorem ltE_asymm {x y : Ed} (h : ltE x y = true) : ltE y x = false := by
  rcases h' : ltE y x with _ | _
  · rfl
  · rw [ltE_iff] at h h'; omega
theorem ed_ext {x y : Ed} (h0 : x.1 = y.1) (h1 : x.2.1 = y.2.1) (h2 : x.2.2 = y.2.2) : x = y := Prod.ext h0 (Prod.ext h1 h2)
theorem ltE_total {x y : Ed} (h : x ≠ y) (h1 : ltE x y = false) : ltE y x = true := by
  rw [ltE_iff]
  have h2 : ¬ ltE x y = true := by rw [h1]; simp
  rw [ltE_iff] at h2
  by_cases e : x.1 = y.1 ∧ x.2.1 = y.2.1 ∧ x.2.2 = y.2.2
  · exact absurd (ed_ext e.1 e.2.1 e.2.2) h
  · omega
theorem ltE_or (x y : Ed) : ltE x y = true ∨ x = y ∨ ltE y x = true := by
  by_cases e : x = y
  · exact .inr (.inl e)
  · rcases h : ltE x y with _ | _
    · exact .inr (.inr (ltE_total e h))
    · exact .inl rfl

/-- edges in order, each once -/
def SrtE (l : List Ed) : Prop := l.Pairwise fun x y => ltE x y = true
theorem srtE_ext : ∀ {l l' : List Ed}, SrtE l → SrtE l' → (∀ x, x ∈ l ↔ x ∈ l') → l = l'
  | [], [], _, _, _ => rfl
  | [], y :: ys, _, _, h => absurd ((h y).2 (by simp)) (by simp)
  | x :: xs, [], _, _, h => absurd ((h x).1 (by simp)) (by simp)
  | x :: xs, y :: ys, h1, h2, h => by
    have a1 := List.pairwise_cons.1 h1
    have a2 := List.pairwise_cons.1 h2
    have e : x = y := by
      have hx := (h x).1 (by simp)
      have hy := (h y).2 (by simp)
      rcases List.mem_cons.1 hx with e | e
      · exact e
      · rcases List.mem_cons.1 hy with e' | e'
        · exact e'.symm
        · have := a2.1 x e
          rw [ltE_asymm (a1.1 y e')] at this; cases this
    subst e
    congr 1
    refine srtE_ext a1.2 a2.2 fun z => ⟨fun hz => ?_, fun hz => ?_⟩
    · rcases List.mem_cons.1 ((h z).1 (List.mem_cons_of_mem _ hz)) with e | e
      · subst e; have := a1.1 z hz; rw [ltE_irrefl] at this; cases this
      · exact e
    · rcases List.mem_cons.1 ((h z).2 (List.mem_cons_of_mem _ hz)) with e | e
      · subst e; have := a2.1 z hz; rw [ltE_irrefl] at this; cases this
      · exact e
theorem SrtE.nodup {l : List Ed} (h : SrtE l) : l.Nodup := List.Pairwise.imp (fun {x y} (hxy : ltE x y = true) (e : x = y) => by subst e; rw [ltE_irrefl] at hxy; cases hxy) h
theorem srtE_of {l : List Ed} (h : l.Nodup) (h2 : l.Pairwise fun x y => ltE y x = false) : SrtE l := by
  have := h.and h2
  exact this.imp fun {x y} ⟨hne, hl⟩ => ltE_total (fun e => hne e.symm) hl

/-- an edge put into its place -/
def putE (l : List Ed) (e : Ed) : List Ed := l.filter (fun x => ltE x e) ++ e :: l.filter (fun x => ltE e x)
theorem mem_putE {l : List Ed} {e x : Ed} : x ∈ putE l e ↔ x = e ∨ x ∈ l := by
  unfold putE
  simp only [List.mem_append, List.mem_cons, List.mem_filter]
  constructor
  · rintro (h | h | h)
    · exact .inr h.1
    · exact .inl h
    · exact .inr h.1
  · rintro (h | h)
    · exact .inr (.inl h)
    · rcases ltE_or x e with h1 | h1 | h1
      · exact .inl ⟨h, h1⟩
      · exact .inr (.inl h1)
      · exact .inr (.inr ⟨h, h1⟩)
theorem srt_putE {l : List Ed} (h : SrtE l) (e : Ed) : SrtE (putE l e) := by
  unfold putE SrtE
  rw [List.pairwise_append]
  refine ⟨List.Pairwise.filter _ h, ?_, ?_⟩
  · rw [List.pairwise_cons]
    exact ⟨fun x hx => (List.mem_filter.1 hx).2, List.Pairwise.filter _ h⟩
  · intro x hx y hy
    have h1 := (List.mem_filter.1 hx).2
    rcases List.mem_cons.1 hy with rfl | hy
    · exact h1
    · exact ltE_trans h1 (List.mem_filter.1 hy).2
theorem putE_had {l : List Ed} {e : Ed} (h : SrtE l) (he : e ∈ l) : putE l e = l :=
  srtE_ext (srt_putE h e) h fun x => by rw [mem_putE]; exact ⟨fun h => h.elim (fun e => e ▸ he) id, .inr⟩
theorem putE_new {l L : List Ed} {e : Ed} (h : SrtE l) (he : ¬ e ∈ l) (hp : L.Perm (l ++ [e])) (hs : L.Pairwise fun x y => ltE y x = false) : L = putE l e := by
  have hn : (l ++ [e]).Nodup := by
    rw [List.nodup_append]
    refine ⟨h.nodup, by simp, fun x hx y hy => ?_⟩
    simp at hy; subst hy
    exact fun h2 => he (h2 ▸ hx)
  refine srtE_ext (srtE_of (hp.nodup_iff.2 hn) hs) (srt_putE h e) fun x => ?_
  rw [hp.mem_iff, mem_putE]
  simp [or_comm]
theorem putE_len (l : List Ed) (e : Ed) : (putE l e).length ≤ l.length + 1 := by
  unfold putE
  have h1 : (l.filter (fun x => ltE x e)).length + (l.filter (fun x => ltE e x)).length ≤ l.length := by
    induction l with
    | nil => simp
    | cons x xs ih =>
      rcases h : ltE x e with _ | _
      · simp only [List.filter_cons, h]
        rcases h2 : ltE e x with _ | _ <;> simp <;> omega
      · simp only [List.filter_cons, h, ltE_asymm h]
        simp; omega
  simp; omega

/-- an edge turned -/
def turnE (x : Ed) : Ed := (x.2.2, x.2.1, x.1)
theorem turnE_turnE (x : Ed) : turnE (turnE x) = x := rfl
theorem turnE_inj {x y : Ed} (h : turnE x = turnE y) : x = y := by rw [← turnE_turnE x, h, turnE_turnE]
/-- edges turned, in order -/
def turnL (l : List Ed) : List Ed := l.foldl (fun acc x => putE acc (turnE x)) []
theorem fold_srt (l : List Ed) : ∀ acc, SrtE acc → SrtE (l.foldl (fun acc x => putE acc (turnE x)) acc) := by
  induction l with
  | nil => intro acc h; exact h
  | cons x xs ih => intro acc h; exact ih _ (srt_putE h _)
theorem fold_mem (l : List Ed) : ∀ acc x, x ∈ l.foldl (fun acc x => putE acc (turnE x)) acc ↔ x ∈ acc ∨ x ∈ l.map turnE := by
  induction l with
  | nil => intro acc x; simp
  | cons y ys ih =>
    intro acc x
    rw [List.foldl_cons, ih, mem_putE, List.map_cons, List.mem_cons]
    constructor
    · rintro ((h | h) | h)
      · exact .inr (.inl h)
      · exact .inl h
      · exact .inr (.inr h)
    · rintro (h | h | h)
      · exact .inl (.inr h)
      · exact .inl (.inl h)
      · exact .inr h
theorem turnL_srt (l : List Ed) : SrtE (turnL l) := fold_srt l [] List.Pairwise.nil
theorem turnL_mem {l : List Ed} {x : Ed} : x ∈ turnL l ↔ turnE x ∈ l := by
  unfold turnL
  rw [fold_mem]
  simp only [List.not_mem_nil, false_or, List.mem_map]
  exact ⟨fun ⟨y, hy, e⟩ => by rw [← e, turnE_turnE]; exact hy, fun h => ⟨_, h, turnE_turnE x⟩⟩
theorem nodup_map {l : List Ed} (h : l.Nodup) : (l.map turnE).Nodup := by
  unfold List.Nodup at *
  rw [List.pairwise_map]
  exact h.imp fun {x y} hne e => hne (turnE_inj e)
theorem turnL_is {l L : List Ed} (h : SrtE l) (hp : L.Perm (l.map turnE)) (hs : L.Pairwise fun x y => ltE y x = false) : L = turnL l := by
  refine srtE_ext (srtE_of (hp.nodup_iff.2 (nodup_map h.nodup)) hs) (turnL_srt l) fun x => ?_
  rw [hp.mem_iff, turnL_mem, List.mem_map]
  exact ⟨fun ⟨y, hy, e⟩ => by rw [← e, turnE_turnE]; exact hy, fun h => ⟨_, h, turnE_turnE x⟩⟩
theorem turnL_turnL {l : List Ed} (h : SrtE l) : turnL (turnL l) = l :=
  srtE_ext (turnL_srt _) h fun x => by rw [turnL_mem, turnL_mem, turnE_turnE]
theorem perm_of_srt {l L : List Ed} (h : l.Nodup) (h' : L.Nodup) (hm : ∀ x, x ∈ l ↔ x ∈ L) : l.length = L.length := by
  have h1 := (List.perm_ext_iff_of_nodup h h').2 hm
  exact h1.length_eq
theorem turnL_len {l : List Ed} (h : SrtE l) : (turnL l).length = l.length := by
  have := perm_of_srt (turnL_srt l).nodup (nodup_map h.nodup) (fun x => by
    rw [turnL_mem, List.mem_map]
    exact ⟨fun h => ⟨_, h, turnE_turnE x⟩, fun ⟨y, hy, e⟩ => by rw [← e, turnE_turnE]; exact hy⟩)
  simpa using this

/-- the edge at place i is right, and comes behind the one ahead of it -/
def okGAt (s : Int) (l : List Ed) (i : Nat) : Bool := okE s (eat l i) && (decide (i = 0) || ltE (eat l (i - 1)) (eat l i))
def okGTo (s : Int) (l : List Ed) : Nat → Bool
  | 0 => true
  | k + 1 => okGTo s l k && okGAt s l k
/-- a right graph -/
def okG (s : Int) (l : List Ed) : Bool := decide (1 ≤ s) && decide (s ≤ 12) && decide (l.length ≤ 40) && okGTo s l l.length
theorem okGTo_false {s : Int} {l : List Ed} {k n : Nat} (h : k < n) (hk : okGAt s l k = false) : okGTo s l n = false := by
  induction n with
  | zero => omega
  | succ n ih =>
    simp only [okGTo]
    rcases Nat.lt_or_ge k n with h1 | h1
    · rw [ih h1]; rfl
    · obtain rfl : k = n := by omega
      rw [hk]; simp
theorem okGTo_at {s : Int} {l : List Ed} {k n : Nat} (h : okGTo s l n = true) (hk : k < n) : okGAt s l k = true := by
  rcases hv : okGAt s l k with _ | _
  · rw [okGTo_false hk hv] at h; cases h
  · rfl
theorem okG_no {s : Int} {l : List Ed} {k : Nat} (h : k < l.length) (hk : okGAt s l k = false) : okG s l = false := by unfold okG; rw [okGTo_false h hk]; simp
theorem okG_size {s : Int} {l : List Ed} (h : okG s l = true) : 1 ≤ s ∧ s ≤ 12 ∧ l.length ≤ 40 := by unfold okG at h; simp at h; omega
theorem okG_at {s : Int} {l : List Ed} (h : okG s l = true) {k : Nat} (hk : k < l.length) : okGAt s l k = true := by unfold okG at h; simp only [Bool.and_eq_true] at h; exact okGTo_at h.2 hk
theorem okGTo_all {s : Int} {l : List Ed} {n : Nat} (h : ∀ k, k < n → okGAt s l k = true) : okGTo s l n = true := by
  induction n with
  | zero => rfl
  | succ n ih => simp only [okGTo]; rw [ih (fun k hk => h k (by omega)), h n (by omega)]; rfl
theorem okG_of {s : Int} {l : List Ed} (h1 : 1 ≤ s) (h2 : s ≤ 12) (h3 : l.length ≤ 40) (h : ∀ k, k < l.length → okGAt s l k = true) : okG s l = true := by
  unfold okG; rw [okGTo_all h]; simp [h1, h2, h3]
theorem okGAt_no {s : Int} {l : List Ed} {i : Nat} (h : okE s (eat l i) = false) : okGAt s l i = false := by unfold okGAt; rw [h]; rfl
theorem okGAt_zero {s : Int} {l : List Ed} (h : okE s (eat l 0) = true) : okGAt s l 0 = true := by unfold okGAt; rw [h]; rfl
theorem okGAt_pos {s : Int} {l : List Ed} {i : Nat} (h : okE s (eat l i) = true) (hi : i ≠ 0) : okGAt s l i = ltE (eat l (i - 1)) (eat l i) := by unfold okGAt; rw [h]; simp [hi]
theorem chain_srt : ∀ {l : List Ed}, (∀ i, i + 1 < l.length → ltE (eat l i) (eat l (i + 1)) = true) → SrtE l
  | [], _ => List.Pairwise.nil
  | x :: xs, h => by
    have ih : SrtE xs := chain_srt fun i hi => by
      have := h (i + 1) (by simp; omega)
      simpa [eat, List.getD] using this
    refine List.pairwise_cons.2 ⟨fun y hy => ?_, ih⟩
    cases xs with
    | nil => simp at hy
    | cons z zs =>
      have h0 : ltE x z = true := by simpa [eat, List.getD] using h 0 (by simp)
      rcases List.mem_cons.1 hy with rfl | hy
      · exact h0
      · exact ltE_trans h0 ((List.pairwise_cons.1 ih).1 y hy)
/-- what a right graph is -/
theorem okG_iff {s : Int} {l : List Ed} : okG s l = true ↔ (1 ≤ s ∧ s ≤ 12) ∧ l.length ≤ 40 ∧ (∀ x ∈ l, okE s x = true) ∧ SrtE l := by
  constructor
  · intro h
    obtain ⟨h1, h2, h3⟩ := okG_size h
    refine ⟨⟨h1, h2⟩, h3, fun x hx => ?_, chain_srt fun i hi => ?_⟩
    · obtain ⟨i, hi, rfl⟩ := List.getElem_of_mem hx
      have := okG_at h hi
      unfold okGAt at this
      simp only [Bool.and_eq_true] at this
      rw [← eat_get hi]; exact this.1
    · have := okG_at h hi
      unfold okGAt at this
      simpa using (Bool.and_eq_true _ _ ▸ this).2
  · rintro ⟨⟨h1, h2⟩, h3, h4, h5⟩
    refine okG_of h1 h2 h3 fun k hk => ?_
    have hk4 : okE s (eat l k) = true := by rw [eat_get hk]; exact h4 _ (List.getElem_mem hk)
    by_cases h0 : k = 0
    · subst h0; exact okGAt_zero hk4
    · rw [okGAt_pos hk4 h0, eat_get hk, eat_get (by omega)]
      exact List.pairwise_iff_getElem.1 h5 (k - 1) k (by omega) hk (by omega)
theorem okE_turn {s : Int} {x : Ed} (h : okE s x = true) : okE s (turnE x) = true := by
  unfold okE turnE at *; simp only [Bool.and_eq_true] at *; exact ⟨⟨⟨h.1.1.2, h.1.1.1⟩, h.1.2⟩, h.2⟩
theorem okG_turn {s : Int} {l : List Ed} (h : okG s l = true) : okG s (turnL l) = true := by
  obtain ⟨h1, h2, h3, h4⟩ := okG_iff.1 h
  exact okG_iff.2 ⟨h1, by rw [turnL_len h4]; exact h2, fun x hx => by rw [← turnE_turnE x]; exact okE_turn (h3 _ (turnL_mem.1 hx)), turnL_srt l⟩

/-- what GraphAdd answers -/
def gaddOk (s : Int) (l : List Ed) (e : Ed) : Bool := okG s l && okG s (putE l e)
def gaddL (s : Int) (l : List Ed) (e : Ed) : List Ed := if gaddOk s l e = true then putE l e else l
/-- what Turned answers -/
def gturn (s : Int) (l : List Ed) : List Ed := if okG s l = true then turnL l else l
end Go.Proofs.Ytfeimdlkpiacoaa
