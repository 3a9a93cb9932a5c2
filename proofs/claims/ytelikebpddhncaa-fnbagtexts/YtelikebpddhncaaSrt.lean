/-
  Bags in order, in plain mathematics: a row put into one, two joined, what finds room.
-/
import Derived.Test.YtelikebpddhncaaPutM
import Derived.Test.YtelikebpddhncaaLRows
import Derived.Test.YtelikebpddhncaaSize
namespace Go.Proofs.Ytelikebpddhncaa

theorem rowLt_trans {l m n : List Int} (h1 : rowLt l m = true) (h2 : rowLt m n = true) : rowLt l n = true := by
  unfold rowLt at *
  simp only [decide_eq_true_eq] at *
  induction l generalizing m n with
  | nil =>
    cases n with
    | nil => cases m <;> simp [cmpRow] at h1 h2
    | cons z zs => simp [cmpRow]
  | cons x xs ih =>
    cases m with
    | nil => simp [cmpRow] at h1
    | cons y ys =>
      cases n with
      | nil => simp [cmpRow] at h2
      | cons z zs =>
        simp only [cmpRow] at *
        by_cases a : x < y
        · by_cases b : y < z
          · rw [if_pos (by omega)]; decide
          · by_cases c : z < y
            · rw [if_neg b, if_pos c] at h2; omega
            · rw [if_pos (by omega)]; decide
        · by_cases a' : y < x
          · rw [if_neg a, if_pos a'] at h1; omega
          · rw [if_neg a, if_neg a'] at h1
            by_cases b : y < z
            · rw [if_pos (by omega)]; decide
            · by_cases c : z < y
              · rw [if_neg b, if_pos c] at h2; omega
              · rw [if_neg b, if_neg c] at h2
                rw [if_neg (by omega), if_neg (by omega)]
                exact ih h1 h2
theorem rowLt_irrefl (l : List Int) : rowLt l l = false := by
  have := (cmpRow_zero l l).2 rfl
  unfold rowLt; simp; omega
theorem rowLt_ne {l m : List Int} (h : rowLt l m = true) : l ≠ m := by
  rintro rfl; rw [rowLt_irrefl] at h; cases h
theorem rowLt_asymm {l m : List Int} (h : rowLt l m = true) : rowLt m l = false := by
  rcases hv : rowLt m l with _ | _
  · rfl
  · have := rowLt_trans h hv; rw [rowLt_irrefl] at this; cases this
theorem rowLt_total {l m : List Int} (hne : l ≠ m) (h : rowLt l m = false) : rowLt m l = true := by
  have h1 := rowLt_flip l m
  have h2 := cmpRow_zero l m
  unfold rowLt at *
  simp at h ⊢
  rcases Int.lt_or_eq_of_le h with h3 | h3
  · omega
  · exact absurd (h2.1 h3.symm) hne

/-- rows in order -/
def Srt (l : List It) : Prop := l.Pairwise fun x y => rowLt x.1 y.1 = true
theorem Srt.nil : Srt [] := List.Pairwise.nil
theorem srt_cons {x : It} {l : List It} : Srt (x :: l) ↔ (∀ y ∈ l, rowLt x.1 y.1 = true) ∧ Srt l := List.pairwise_cons

theorem putL_row {r : List Int} {t : Int} {l : List It} {y : It} (h : y ∈ putL r t l) : y.1 = r ∨ y ∈ l := by
  induction l with
  | nil => simp [putL] at h; left; rw [h]
  | cons x xs ih =>
    simp only [putL] at h
    split at h
    · rename_i e
      rcases List.mem_cons.1 h with rfl | h
      · exact .inl e
      · exact .inr (List.mem_cons_of_mem _ h)
    · split at h
      · rcases List.mem_cons.1 h with rfl | h
        · exact .inl rfl
        · exact .inr h
      · rcases List.mem_cons.1 h with rfl | h
        · exact .inr (List.mem_cons_self ..)
        · rcases ih h with h | h
          · exact .inl h
          · exact .inr (List.mem_cons_of_mem _ h)
theorem putL_srt {r : List Int} {t : Int} {l : List It} (h : Srt l) : Srt (putL r t l) := by
  induction l with
  | nil => simp [putL, Srt]
  | cons x xs ih =>
    obtain ⟨h1, h2⟩ := srt_cons.1 h
    simp only [putL]
    split
    · exact srt_cons.2 ⟨h1, h2⟩
    · rename_i hne
      split
      · rename_i hlt
        refine srt_cons.2 ⟨fun y hy => ?_, h⟩
        rcases List.mem_cons.1 hy with rfl | hy
        · exact hlt
        · exact rowLt_trans hlt (h1 y hy)
      · rename_i hlt
        refine srt_cons.2 ⟨fun y hy => ?_, ih h2⟩
        rcases putL_row hy with hy | hy
        · rw [hy]; exact rowLt_total (fun e => hne e.symm) (by simpa using hlt)
        · exact h1 y hy
theorem timesOf_none {q : List Int} {l : List It} (h : ∀ x ∈ l, x.1 ≠ q) : timesOf l q = 0 := by
  induction l with
  | nil => rfl
  | cons x xs ih => simp only [timesOf]; rw [if_neg (h x (List.mem_cons_self ..))]; exact ih fun y hy => h y (List.mem_cons_of_mem _ hy)
theorem timesOf_ahead {q : List Int} {l : List It} (h : ∀ x ∈ l, rowLt q x.1 = true) : timesOf l q = 0 :=
  timesOf_none fun x hx e => by have := h x hx; rw [e, rowLt_irrefl] at this; cases this
theorem timesOf_mem {l : List It} (hs : Srt l) {x : It} (hx : x ∈ l) : timesOf l x.1 = x.2 := by
  induction l with
  | nil => simp at hx
  | cons y ys ih =>
    obtain ⟨h1, h2⟩ := srt_cons.1 hs
    simp only [timesOf]
    rcases List.mem_cons.1 hx with rfl | hx
    · simp
    · rw [if_neg (rowLt_ne (h1 x hx)), ih h2 hx]
theorem putL_other {r q : List Int} {t : Int} {l : List It} (hq : q ≠ r) : timesOf (putL r t l) q = timesOf l q := by
  induction l with
  | nil => simp [putL, timesOf, Ne.symm hq]
  | cons x xs ih =>
    simp only [putL]
    split
    · rename_i e
      simp only [timesOf]
      rw [if_neg (by rw [e]; exact fun e => hq e.symm), if_neg (by rw [e]; exact fun e => hq e.symm)]
    · split
      · simp only [timesOf]; rw [if_neg (fun e => hq e.symm)]
      · simp only [timesOf]; rw [ih]
theorem putL_same' {r : List Int} {t : Int} {l : List It} (hs : Srt l) (ht : t ≤ 1000000) : timesOf (putL r t l) r = min (timesOf l r + t) 1000000 := by
  induction l with
  | nil => simp [putL, timesOf]; omega
  | cons x xs ih =>
    obtain ⟨h1, h2⟩ := srt_cons.1 hs
    simp only [putL]
    split
    · rename_i e
      simp [timesOf, e]
    · rename_i hne
      split
      · rename_i hlt
        have : timesOf (x :: xs) r = 0 := timesOf_ahead fun y hy => by
          rcases List.mem_cons.1 hy with rfl | hy
          · exact hlt
          · exact rowLt_trans hlt (h1 y hy)
        rw [this]
        simp [timesOf]; omega
      · simp only [timesOf]; rw [if_neg hne, if_neg hne]; exact ih h2
theorem putL_times {r : List Int} {t : Int} {l : List It} (hs : Srt l) (ht : t ≤ 1000000) (q : List Int) : timesOf (putL r t l) q = if q = r then min (timesOf l q + t) 1000000 else timesOf l q := by
  split
  · rename_i e; subst e; exact putL_same' hs ht
  · rename_i e; exact putL_other e

/-- a row is there -/
def inB (l : List It) (q : List Int) : Prop := ∃ x ∈ l, x.1 = q
theorem putL_in {r q : List Int} {t : Int} {l : List It} : inB (putL r t l) q ↔ q = r ∨ inB l q := by
  induction l with
  | nil => simp [putL, inB, eq_comm]
  | cons x xs ih =>
    simp only [putL]
    split
    · rename_i e
      simp only [inB, List.mem_cons]
      constructor
      · rintro ⟨y, rfl | hy, rfl⟩
        · exact .inl e
        · exact .inr ⟨y, .inr hy, rfl⟩
      · rintro (rfl | ⟨y, rfl | hy, rfl⟩)
        · exact ⟨_, .inl rfl, e⟩
        · exact ⟨_, .inl rfl, rfl⟩
        · exact ⟨y, .inr hy, rfl⟩
    · split
      · simp only [inB, List.mem_cons]
        constructor
        · rintro ⟨y, rfl | h, rfl⟩
          · exact .inl rfl
          · exact .inr ⟨y, h, rfl⟩
        · rintro (rfl | ⟨y, h, rfl⟩)
          · exact ⟨_, .inl rfl, rfl⟩
          · exact ⟨y, .inr h, rfl⟩
      · have e1 : inB (x :: putL r t xs) q ↔ x.1 = q ∨ inB (putL r t xs) q := by simp [inB]
        have e2 : inB (x :: xs) q ↔ x.1 = q ∨ inB xs q := by simp [inB]
        rw [e1, e2, ih]
        constructor
        · rintro (h | h | h)
          · exact .inr (.inl h)
          · exact .inl h
          · exact .inr (.inr h)
        · rintro (h | h | h)
          · exact .inr (.inl h)
          · exact .inl h
          · exact .inr (.inr h)
theorem putL_len_in {r : List Int} {t : Int} {l : List It} (hs : Srt l) (h : inB l r) : (putL r t l).length = l.length := by
  induction l with
  | nil => obtain ⟨x, hx, _⟩ := h; simp at hx
  | cons x xs ih =>
    obtain ⟨h1, h2⟩ := srt_cons.1 hs
    simp only [putL]
    split
    · simp
    · rename_i hne
      obtain ⟨y, hy, e⟩ := h
      rcases List.mem_cons.1 hy with rfl | hy
      · exact absurd e hne
      · split
        · rename_i hlt
          have := rowLt_trans hlt (h1 y hy)
          rw [e, rowLt_irrefl] at this; cases this
        · simp [ih h2 ⟨y, hy, e⟩]
theorem putL_len_out {r : List Int} {t : Int} {l : List It} (h : ¬ inB l r) : (putL r t l).length = l.length + 1 := by
  induction l with
  | nil => simp [putL]
  | cons x xs ih =>
    have h2 : ¬ inB xs r := fun ⟨y, hy, e⟩ => h ⟨y, List.mem_cons_of_mem _ hy, e⟩
    simp only [putL]
    split
    · rename_i e; exact absurd ⟨x, List.mem_cons_self .., e⟩ h
    · split
      · simp
      · simp [ih h2]
theorem putL_len_ge {r : List Int} {t : Int} {l : List It} (hs : Srt l) : l.length ≤ (putL r t l).length := by
  by_cases h : inB l r
  · rw [putL_len_in hs h]; exact Nat.le_refl _
  · rw [putL_len_out h]; omega
theorem putL_len_le {r : List Int} {t : Int} {l : List It} : (putL r t l).length ≤ l.length + 1 := by
  induction l with
  | nil => simp [putL]
  | cons x xs ih =>
    simp only [putL]
    split
    · simp
    · split
      · simp
      · simp; exact ih

/-- items that are right -/
def Oks (l : List It) : Prop := ∀ x ∈ l, okItem x.1 x.2 = true
/-- rows all of one length -/
def Even (W : Nat) (l : List It) : Prop := ∀ x ∈ l, x.1.length = W
theorem okItem_split {r : List Int} {t : Int} : okItem r t = true ↔ okRow r = true ∧ 1 ≤ t ∧ t ≤ 1000000 := by
  unfold okItem; simp only [Bool.and_eq_true, decide_eq_true_eq]
theorem putL_oks {r : List Int} {t : Int} {l : List It} (h : Oks l) (hr : okItem r t = true) : Oks (putL r t l) := by
  induction l with
  | nil => intro x hx; simp [putL] at hx; rw [hx]; exact hr
  | cons x xs ih =>
    have h1 := h x (List.mem_cons_self ..)
    have h2 : Oks xs := fun y hy => h y (List.mem_cons_of_mem _ hy)
    simp only [putL]
    split
    · intro y hy
      rcases List.mem_cons.1 hy with rfl | hy
      · have a := okItem_split.1 h1
        have b := okItem_split.1 hr
        exact okItem_split.2 ⟨a.1, by show 1 ≤ min (x.2 + t) 1000000; omega, by show min (x.2 + t) 1000000 ≤ 1000000; omega⟩
      · exact h2 y hy
    · split
      · intro y hy
        rcases List.mem_cons.1 hy with rfl | hy
        · exact hr
        · exact h y hy
      · intro y hy
        rcases List.mem_cons.1 hy with rfl | hy
        · exact h1
        · exact ih h2 y hy
theorem putL_even {W : Nat} {r : List Int} {t : Int} {l : List It} (h : Even W l) (hr : r.length = W) : Even W (putL r t l) := by
  intro x hx
  rcases putL_row hx with e | e
  · rw [e]; exact hr
  · exact h x e

theorem srt_ext {l m : List It} (hl : Srt l) (hm : Srt m) (h1 : ∀ x ∈ l, 1 ≤ x.2) (h2 : ∀ x ∈ m, 1 ≤ x.2) (h : ∀ q, timesOf l q = timesOf m q) : l = m := by
  induction l generalizing m with
  | nil =>
    cases m with
    | nil => rfl
    | cons y ys => have := h y.1; have := h2 y (List.mem_cons_self ..); simp [timesOf] at *; omega
  | cons x xs ih =>
    obtain ⟨a1, a2⟩ := srt_cons.1 hl
    have p1 := h1 x (List.mem_cons_self ..)
    cases m with
    | nil => have := h x.1; simp [timesOf] at this; omega
    | cons y ys =>
      obtain ⟨b1, b2⟩ := srt_cons.1 hm
      have p2 := h2 y (List.mem_cons_self ..)
      by_cases e : x.1 = y.1
      · have e2 : x.2 = y.2 := by have := h x.1; simpa [timesOf, e] using this
        have exy : x = y := Prod.ext e e2
        subst exy
        congr 1
        refine ih a2 b2 (fun z hz => h1 z (List.mem_cons_of_mem _ hz)) (fun z hz => h2 z (List.mem_cons_of_mem _ hz)) fun q => ?_
        by_cases eq : x.1 = q
        · rw [timesOf_ahead (q := q) (l := xs) (by rw [← eq]; exact a1), timesOf_ahead (q := q) (l := ys) (by rw [← eq]; exact b1)]
        · have := h q; simpa [timesOf, eq] using this
      · exfalso
        rcases hv : rowLt x.1 y.1 with _ | _
        · have hlt := rowLt_total e hv
          have z : timesOf (x :: xs) y.1 = 0 := timesOf_ahead fun z hz => by
            rcases List.mem_cons.1 hz with rfl | hz
            · exact hlt
            · exact rowLt_trans hlt (a1 z hz)
          have := h y.1
          rw [z] at this
          simp [timesOf] at this
          omega
        · have z : timesOf (y :: ys) x.1 = 0 := timesOf_ahead fun z hz => by
            rcases List.mem_cons.1 hz with rfl | hz
            · exact hv
            · exact rowLt_trans hv (b1 z hz)
          have := h x.1
          rw [z] at this
          simp [timesOf] at this
          omega

theorem at_get {l : List It} {i : Nat} (h : i < l.length) : at' l i = l[i] := by simp [at', List.getD, h]
theorem srt_at {l : List It} : Srt l ↔ ∀ i j, i < j → j < l.length → rowLt (at' l i).1 (at' l j).1 = true := by
  unfold Srt
  rw [List.pairwise_iff_getElem]
  constructor
  · intro h i j hij hj
    rw [at_get hj, at_get (by omega)]
    exact h i j (by omega) hj hij
  · intro h i j hi hj hij
    have := h i j hij hj
    rwa [at_get hj, at_get hi] at this
theorem okBag_iff {l : List It} : okBag l = true ↔ l.length ≤ 300 ∧ Oks l ∧ (∀ W, (l.head?.map fun x => x.1.length) = some W → Even W l) ∧ Srt l := by
  constructor
  · intro h
    have hat : ∀ k, k < l.length → okItem (at' l k).1 (at' l k).2 = true ∧ (k = 0 ∨ (rowLt (at' l (k - 1)).1 (at' l k).1 = true ∧ (at' l (k - 1)).1.length = (at' l k).1.length)) := fun k hk => by
      have := okBag_at h hk
      unfold okAt at this
      simpa only [Bool.and_eq_true, Bool.or_eq_true, decide_eq_true_eq] using this
    refine ⟨okBag_len h, ?_, ?_, ?_⟩
    · intro x hx
      obtain ⟨i, hi, rfl⟩ := List.getElem_of_mem hx
      have := (hat i hi).1
      rwa [at_get hi] at this
    · intro W hW x hx
      obtain ⟨i, hi, rfl⟩ := List.getElem_of_mem hx
      have key : ∀ k, k < l.length → (at' l k).1.length = W := by
        intro k
        induction k with
        | zero =>
          intro hk
          rw [at_get hk]
          cases l with
          | nil => simp at hk
          | cons y ys => simpa using hW
        | succ k ih =>
          intro hk
          rcases (hat (k + 1) hk).2 with h0 | h0
          · omega
          · rw [← h0.2]; exact ih (by omega)
      have := key i hi
      rwa [at_get hi] at this
    · rw [srt_at]
      intro i j hij
      induction j with
      | zero => omega
      | succ j ih =>
        intro hj
        have hs : rowLt (at' l j).1 (at' l (j + 1)).1 = true := by
          rcases (hat (j + 1) hj).2 with h0 | h0
          · omega
          · exact h0.1
        rcases Nat.lt_or_ge i j with h1 | h1
        · exact rowLt_trans (ih h1 (by omega)) hs
        · obtain rfl : i = j := by omega
          exact hs
  · rintro ⟨h1, h2, h3, h4⟩
    refine okBag_of h1 fun k hk => ?_
    unfold okAt
    have hi : okItem (at' l k).1 (at' l k).2 = true := by rw [at_get hk]; exact h2 _ (List.getElem_mem hk)
    rw [hi]
    simp only [Bool.true_and, Bool.or_eq_true, decide_eq_true_eq, Bool.and_eq_true]
    by_cases h0 : k = 0
    · exact .inl h0
    · refine .inr ⟨srt_at.1 h4 (k - 1) k (by omega) hk, ?_⟩
      cases l with
      | nil => simp at hk
      | cons y ys =>
        have he := h3 y.1.length (by simp)
        rw [at_get hk, at_get (show k - 1 < (y :: ys).length by omega), he _ (List.getElem_mem _), he _ (List.getElem_mem _)]

/-- a bag that is being filled, its rows of length W -/
structure Good (W : Nat) (l : List It) : Prop where
  len : l.length ≤ 300
  oks : Oks l
  even : Even W l
  srt : Srt l
theorem Good.nil (W : Nat) : Good W [] := ⟨by simp, fun x hx => by simp at hx, fun x hx => by simp at hx, Srt.nil⟩
theorem Good.ok {W : Nat} {l : List It} (h : Good W l) : okBag l = true := okBag_iff.2 ⟨h.len, h.oks, fun W' hW x hx => by
  cases l with
  | nil => simp at hx
  | cons y ys => simp at hW; rw [h.even x hx, ← hW, h.even y (List.mem_cons_self ..)], h.srt⟩
theorem good_of {l : List It} (h : okBag l = true) : ∃ W, Good W l := by
  obtain ⟨h1, h2, h3, h4⟩ := okBag_iff.1 h
  cases l with
  | nil => exact ⟨0, Good.nil 0⟩
  | cons y ys => exact ⟨y.1.length, h1, h2, h3 _ (by simp), h4⟩
/-- an item finds room -/
def fits (W : Nat) (l : List It) (r : List Int) (t : Int) : Bool := decide (r.length = if l = [] then r.length else W) && (okItem r t && decide ((putL r t l).length ≤ 300))
/-- the rows' length behind a try -/
def wideOf (W : Nat) (l : List It) (r : List Int) : Nat := if l = [] then r.length else W
theorem Good.put {W : Nat} {l : List It} {r : List Int} {t : Int} (h : Good W l) (hf : fits W l r t = true) : Good (wideOf W l r) (putL r t l) := by
  unfold fits at hf
  simp only [Bool.and_eq_true, decide_eq_true_eq] at hf
  refine ⟨hf.2.2, putL_oks h.oks hf.2.1, putL_even ?_ hf.1, putL_srt h.srt⟩
  unfold wideOf
  split
  · rename_i e; subst e; intro x hx; simp at hx
  · exact h.even
theorem Good.still {W : Nat} {l : List It} (r : List Int) (h : Good W l) : Good (wideOf W l r) l := by
  unfold wideOf
  split
  · rename_i e; subst e; exact Good.nil _
  · exact h
theorem fits_iff {W : Nat} {l : List It} {r : List Int} {t : Int} (h : Good W l) (ht : okItem r t = true ∨ 1 ≤ t ∧ t ≤ 1000000) : fits W l r t = okBag (putL r t l) := by
  rcases hf : fits W l r t with _ | _
  · rcases hk : okBag (putL r t l) with _ | _
    · rfl
    · exfalso
      obtain ⟨h1, h2, h3, h4⟩ := okBag_iff.1 hk
      obtain ⟨V, g⟩ := good_of hk
      have ht' : 1 ≤ t ∧ t ≤ 1000000 := by
        rcases ht with h | h
        · exact (okItem_split.1 h).2
        · exact h
      obtain ⟨y, hy, ey⟩ : inB (putL r t l) r := putL_in.2 (.inl rfl)
      have hr : okRow r = true := by rw [← ey]; exact (okItem_split.1 (h2 y hy)).1
      have hw : r.length = if l = [] then r.length else W := by
        split
        · rfl
        · rename_i hne
          cases l with
          | nil => exact absurd rfl hne
          | cons z zs =>
            obtain ⟨u, hu, eu⟩ : inB (putL r t (z :: zs)) z.1 := putL_in.2 (.inr ⟨z, List.mem_cons_self .., rfl⟩)
            rw [← h.even z (List.mem_cons_self ..), ← eu, g.even u hu, ← ey, g.even y hy]
      unfold fits at hf
      rw [← hw] at hf
      simp only [decide_true, Bool.true_and] at hf
      rw [okItem_split.2 ⟨hr, ht'⟩] at hf
      simp at hf
      omega
  · exact ((h.put hf).ok).symm

theorem putL_last {l : List It} {x : It} (h : Srt (l ++ [x])) : putL x.1 x.2 l = l ++ [x] := by
  induction l with
  | nil => simp [putL]
  | cons y ys ih =>
    have h' : Srt (y :: (ys ++ [x])) := h
    obtain ⟨h1, h2⟩ := srt_cons.1 h'
    have hlt := h1 x (by simp)
    simp only [putL]
    rw [if_neg (rowLt_ne hlt), if_neg (by rw [rowLt_asymm hlt]; simp), ih h2]
    rfl

/-- all items of a bag put into another, one behind the other -/
def joinL (a b : List It) : List It := b.foldl (fun m x => putL x.1 x.2 m) a
theorem joinL_snoc (a b : List It) (x : It) : joinL a (b ++ [x]) = putL x.1 x.2 (joinL a b) := by simp [joinL]
theorem joinL_self {l : List It} (h : Srt l) (k : Nat) : joinL [] (l.take k) = l.take k := by
  induction k with
  | zero => simp [joinL]
  | succ k ih =>
    rcases Nat.lt_or_ge k l.length with hk | hk
    · have e : l.take (k + 1) = l.take k ++ [l[k]] := by rw [List.take_add_one]; simp [hk]
      rw [e, joinL_snoc, ih, putL_last]
      rw [← e]
      exact h.sublist (List.take_sublist _ _)
    · rw [List.take_of_length_le hk] at ih
      rw [List.take_of_length_le (by omega)]; exact ih
theorem joinL_srt {a b : List It} (h : Srt a) : Srt (joinL a b) := by
  induction b generalizing a with
  | nil => exact h
  | cons x xs ih => exact ih (putL_srt h)
theorem joinL_oks {a b : List It} (h : Oks a) (hb : Oks b) : Oks (joinL a b) := by
  induction b generalizing a with
  | nil => exact h
  | cons x xs ih => exact ih (putL_oks h (hb x (List.mem_cons_self ..))) fun y hy => hb y (List.mem_cons_of_mem _ hy)
theorem joinL_len {a b : List It} (h : Srt a) : a.length ≤ (joinL a b).length := by
  induction b generalizing a with
  | nil => exact Nat.le_refl _
  | cons x xs ih => exact Nat.le_trans (putL_len_ge h) (ih (putL_srt h))
theorem joinL_len_le {a b : List It} : (joinL a b).length ≤ a.length + b.length := by
  induction b generalizing a with
  | nil => simp [joinL]
  | cons x xs ih =>
    have h1 : (joinL a (x :: xs)).length ≤ (putL x.1 x.2 a).length + xs.length := ih
    have h2 := putL_len_le (r := x.1) (t := x.2) (l := a)
    simp; omega
theorem joinL_in {a b : List It} {q : List Int} : inB (joinL a b) q ↔ inB a q ∨ inB b q := by
  induction b generalizing a with
  | nil => simp [joinL, inB]
  | cons x xs ih =>
    have e : joinL a (x :: xs) = joinL (putL x.1 x.2 a) xs := rfl
    have e2 : inB (x :: xs) q ↔ q = x.1 ∨ inB xs q := by simp [inB, eq_comm]
    rw [e, ih, putL_in, e2]
    constructor
    · rintro ((h | h) | h)
      · exact .inr (.inl h)
      · exact .inl h
      · exact .inr (.inr h)
    · rintro (h | h | h)
      · exact .inl (.inr h)
      · exact .inl (.inl h)
      · exact .inr h
theorem joinL_drop {a b : List It} {k : Nat} : joinL (joinL a (b.take k)) (b.drop k) = joinL a b := by
  unfold joinL; rw [← List.foldl_append, List.take_append_drop]
/-- where an item finds no room, what is joined is no right bag -/
theorem join_stuck {W : Nat} {a b : List It} {k : Nat} (hb : okBag b = true) (hk : k < b.length) (hg : Good W (joinL a (b.take k))) (hf : fits W (joinL a (b.take k)) (at' b k).1 (at' b k).2 = false) : okBag (joinL a b) = false := by
  obtain ⟨V, gb⟩ := good_of hb
  have hx : at' b k ∈ b := by rw [at_get hk]; exact List.getElem_mem hk
  have hit := gb.oks _ hx
  rcases hv : okBag (joinL a b) with _ | _
  · rfl
  · exfalso
    obtain ⟨U, gj⟩ := good_of hv
    have e : joinL a b = joinL (putL (at' b k).1 (at' b k).2 (joinL a (b.take k))) (b.drop (k + 1)) := by
      rw [← joinL_snoc, at_get hk]
      have e2 : b.take k ++ [b[k]] = b.take (k + 1) := by rw [List.take_add_one]; simp [hk]
      rw [e2, joinL_drop]
    have hlen := joinL_len (a := putL (at' b k).1 (at' b k).2 (joinL a (b.take k))) (b := b.drop (k + 1)) (putL_srt hg.srt)
    rw [← e] at hlen
    have hgl := gj.len
    have hw : (at' b k).1.length = if joinL a (b.take k) = [] then (at' b k).1.length else W := by
      split
      · rfl
      · rename_i hne
        obtain ⟨z, hz⟩ : ∃ z, z ∈ joinL a (b.take k) := by
          cases hc : joinL a (b.take k) with
          | nil => exact absurd hc hne
          | cons z zs => exact ⟨z, List.mem_cons_self ..⟩
        obtain ⟨u, hu, eu⟩ : inB (joinL a b) z.1 := by rw [e]; exact joinL_in.2 (.inl (putL_in.2 (.inr ⟨z, hz, rfl⟩)))
        obtain ⟨y, hy, ey⟩ : inB (joinL a b) (at' b k).1 := joinL_in.2 (.inr ⟨_, hx, rfl⟩)
        rw [← hg.even z hz, ← eu, gj.even u hu, ← ey, gj.even y hy]
    unfold fits at hf
    rw [← hw, hit] at hf
    simp only [decide_true, Bool.true_and, decide_eq_false_iff_not] at hf
    exact hf (Nat.le_trans hlen hgl)
theorem joinL_times {a b : List It} (ha : Srt a) (hb : Srt b) (h1 : ∀ q, 0 ≤ timesOf a q ∧ timesOf a q ≤ 1000000) (h2 : ∀ x ∈ b, 0 ≤ x.2 ∧ x.2 ≤ 1000000) (q : List Int) : timesOf (joinL a b) q = min (timesOf a q + timesOf b q) 1000000 := by
  induction b generalizing a with
  | nil => have := h1 q; simp [joinL, timesOf]; omega
  | cons x xs ih =>
    obtain ⟨b1, b2⟩ := srt_cons.1 hb
    have hx := h2 x (List.mem_cons_self ..)
    have e : joinL a (x :: xs) = joinL (putL x.1 x.2 a) xs := rfl
    rw [e, ih (putL_srt ha) b2 (fun q => ?_) (fun y hy => h2 y (List.mem_cons_of_mem _ hy)), putL_times ha hx.2]
    · by_cases eq : x.1 = q
      · subst eq
        rw [timesOf_ahead (q := x.1) (l := xs) b1]
        simp only [timesOf, if_true]
        omega
      · rw [if_neg (fun e => eq e.symm)]; simp [timesOf, eq]
    · rw [putL_times ha hx.2]
      have := h1 q
      split <;> omega
theorem oks_times {l : List It} (h : Oks l) (q : List Int) : 0 ≤ timesOf l q ∧ timesOf l q ≤ 1000000 := by
  induction l with
  | nil => simp [timesOf]
  | cons x xs ih =>
    have := okItem_times (h x (List.mem_cons_self ..))
    simp only [timesOf]
    split
    · omega
    · exact ih fun y hy => h y (List.mem_cons_of_mem _ hy)
/-- all Times -/
def sm (l : List It) : Int := (l.map (·.2)).sum
theorem sumTo_sm (l : List It) (k : Nat) (hk : k ≤ l.length) : sumTo l k = sm (l.take k) := by
  induction k with
  | zero => simp [sumTo, sm]
  | succ k ih =>
    have e : l.take (k + 1) = l.take k ++ [l[k]] := by rw [List.take_add_one]; simp [show k < l.length by omega]
    rw [e]
    simp only [sumTo]
    rw [ih (by omega), at_get (by omega)]
    unfold sm
    rw [List.map_append, List.sum_append]
    simp
theorem sumTo_all (l : List It) : sumTo l l.length = sm l := by rw [sumTo_sm l _ (Nat.le_refl _), List.take_length]
theorem sm_nonneg {l : List It} (h : ∀ x ∈ l, 0 ≤ x.2) : 0 ≤ sm l := by
  induction l with
  | nil => simp [sm]
  | cons x xs ih => have := h x (List.mem_cons_self ..); have := ih fun y hy => h y (List.mem_cons_of_mem _ hy); simp [sm] at *; omega
theorem mem_le_sm {l : List It} (h : ∀ x ∈ l, 0 ≤ x.2) {x : It} (hx : x ∈ l) : x.2 ≤ sm l := by
  induction l with
  | nil => simp at hx
  | cons y ys ih =>
    have h0 := h y (List.mem_cons_self ..)
    have h1 : ∀ z ∈ ys, 0 ≤ z.2 := fun z hz => h z (List.mem_cons_of_mem _ hz)
    have h2 := sm_nonneg h1
    have e : sm (y :: ys) = y.2 + sm ys := by simp [sm]
    rw [e]
    rcases List.mem_cons.1 hx with rfl | hx
    · omega
    · have := ih h1 hx; omega
theorem sm_put {r : List Int} {t : Int} {l : List It} (h : ∀ x ∈ l, x.2 + t ≤ 1000000) : sm (putL r t l) = sm l + t := by
  induction l with
  | nil => simp [putL, sm]
  | cons x xs ih =>
    have h0 := h x (List.mem_cons_self ..)
    have h1 := ih fun y hy => h y (List.mem_cons_of_mem _ hy)
    have e : ∀ (y : It) (ys : List It), sm (y :: ys) = y.2 + sm ys := fun y ys => by simp [sm]
    simp only [putL]
    split
    · rw [e, e]; simp only; omega
    · split
      · rw [e]; simp only; omega
      · rw [e, e, h1]; omega
end Go.Proofs.Ytelikebpddhncaa
