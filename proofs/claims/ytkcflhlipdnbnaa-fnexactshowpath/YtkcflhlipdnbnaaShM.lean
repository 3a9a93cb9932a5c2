/-
  The text of a path, as the document tells it: mathematics of both sides.
-/
import Derived.Test.YtkcflhlipdnbnaaPOk
import Derived.Test.YtkcflhlipdnbnaaQyA
namespace Go.Proofs.Ytkcflhlipdnbnaa
open Go.RowKit

def emT : Tx := ⟨#[]⟩
def barT : Tx := ⟨#[124]⟩
def parenT (t : Tx) : Tx := (⟨#[40]⟩ ++ t) ++ ⟨#[41]⟩
def sgnT (x : Int) : Tx := if x = 4 then ⟨#[42]⟩ else if x = 5 then ⟨#[43]⟩ else ⟨#[63]⟩
/-- what stands behind all kids -/
def behT (x : Int) : Tx := if x = 2 ∨ x = 3 then emT else sgnT x
theorem size_app (a b : Tx) : (a ++ b).size = a.size + b.size := ByteArray.size_append
theorem size_em : emT.size = 0 := rfl
theorem em_of_size {t : Tx} (h : t.size = 0) : t = emT := by
  apply ByteArray.ext
  exact Array.eq_empty_of_size_eq_zero h
theorem app_em (t : Tx) : t ++ emT = t := by
  apply ByteArray.ext
  show (t ++ emT).data = t.data
  rw [ByteArray.data_append]
  show t.data ++ #[] = t.data
  simp
theorem em_app (t : Tx) : emT ++ t = t := by
  apply ByteArray.ext
  show (emT ++ t).data = t.data
  rw [ByteArray.data_append]
  show #[] ++ t.data = t.data
  simp
theorem paren_size (t : Tx) : (parenT t).size = t.size + 2 := by unfold parenT; rw [size_app, size_app]; show 1 + t.size + 1 = _; omega
theorem sgn_size (x : Int) : (sgnT x).size = 1 := by
  unfold sgnT
  split
  · rfl
  · split <;> rfl
/-- a kid's text stands in brackets -/
def inPar (x o : Int) : Bool := decide (o = 3) || (decide (o = 2) && !decide (x = 3))
def kidT (ts : List Tx) (ps : List Pc) (x z : Int) : Tx := if inPar x (pat ps z.toNat).1 = true then parenT (tat ts z.toNat) else tat ts z.toNat
/-- the text of the first kids; none when it is too long -/
def kT (ts : List Tx) (ps : List Pc) (x : Int) (ks : List Int) : Nat → Option Tx
  | 0 => some emT
  | k + 1 => match kT ts ps x ks k with
    | none => none
    | some t => if tat ts (ks.getD k 0).toNat = emT ∨ 20 < ((if x = 3 ∧ 0 < k then t ++ barT else t) ++ kidT ts ps x (ks.getD k 0)).size + (behT x).size then none
      else some ((if x = 3 ∧ 0 < k then t ++ barT else t) ++ kidT ts ps x (ks.getD k 0))
def kidsT (ts : List Tx) (ps : List Pc) (x : Int) (ks : List Int) : Tx := match kT ts ps x ks ks.length with
  | none => emT
  | some t => t ++ behT x
def pcT (ts : List Tx) (ps : List Pc) (x : Pc) : Tx := if x.1 = 1 then ⟨#[UInt8.ofNat x.2.1.toNat]⟩ else kidsT ts ps x.1 x.2.2
/-- the texts of the first pieces -/
def shT (ps : List Pc) : Nat → List Tx
  | 0 => []
  | k + 1 => shT ps k ++ [pcT (shT ps k) ps (pat ps k)]
def oneT (ps : List Pc) (k : Nat) : Tx := pcT (shT ps k) ps (pat ps k)
theorem shT_len (ps : List Pc) : ∀ k, (shT ps k).length = k
  | 0 => rfl
  | k + 1 => by show (shT ps k ++ _).length = _; rw [List.length_append, shT_len ps k]; rfl
theorem shT_at (ps : List Pc) {k : Nat} : ∀ {n : Nat}, k < n → tat (shT ps n) k = oneT ps k
  | 0, h => by omega
  | n + 1, h => by
    show tat (shT ps n ++ _) k = _
    unfold tat List.getD
    by_cases e : k < n
    · rw [List.getElem?_append_left (by rw [shT_len]; exact e)]
      exact shT_at ps e
    · obtain rfl : k = n := by omega
      rw [List.getElem?_append_right (by rw [shT_len]; exact Nat.le_refl _), shT_len]
      simp [oneT]
theorem kT_none {ts : List Tx} {ps : List Pc} {x : Int} {ks : List Int} {k : Nat} (h : kT ts ps x ks k = none) : ∀ n, k ≤ n → kT ts ps x ks n = none
  | 0, hn => by obtain rfl : k = 0 := by omega
                exact h
  | n + 1, hn => by
    by_cases e : k = n + 1
    · rw [← e]; exact h
    · unfold kT
      rw [kT_none h n (by omega)]
theorem kT_size {ts : List Tx} {ps : List Pc} {x : Int} {ks : List Int} : ∀ {k : Nat} {t : Tx}, kT ts ps x ks k = some t → (k = 0 ∧ t = emT) ∨ (0 < t.size ∧ t.size + (behT x).size ≤ 20)
  | 0, t, h => .inl ⟨rfl, by unfold kT at h; exact (Option.some.inj h).symm⟩
  | k + 1, t, h => by
    unfold kT at h
    cases hu : kT ts ps x ks k with
    | none => rw [hu] at h; cases h
    | some u =>
      rw [hu] at h
      dsimp only at h
      generalize (if x = 3 ∧ 0 < k then u ++ barT else u) = s at h
      by_cases hc : tat ts (ks.getD k 0).toNat = emT ∨ 20 < (s ++ kidT ts ps x (ks.getD k 0)).size + (behT x).size
      · rw [if_pos hc] at h; cases h
      · rw [if_neg hc] at h
        have e := Option.some.inj h
        subst e
        refine .inr ⟨?_, by omega⟩
        have hne : ¬ tat ts (ks.getD k 0).toNat = emT := fun h => hc (.inl h)
        have hpos : 0 < (tat ts (ks.getD k 0).toNat).size := Nat.pos_of_ne_zero fun h => hne (em_of_size h)
        rw [size_app]
        unfold kidT
        split
        · rw [paren_size]; omega
        · omega
theorem kT_le {ts : List Tx} {ps : List Pc} {x : Int} {ks : List Int} {k : Nat} {t : Tx} (h : kT ts ps x ks k = some t) : t.size ≤ 20 := by
  rcases kT_size h with ⟨_, e⟩ | h1
  · rw [e]; exact Nat.zero_le _
  · omega
theorem beh_size {x : Int} (hx : x = 2 ∨ x = 3) : (behT x).size = 0 := by unfold behT; rw [if_pos hx]; rfl
theorem pcT_le (ts : List Tx) (ps : List Pc) (x : Pc) : (pcT ts ps x).size ≤ 20 := by
  unfold pcT
  split
  · show 1 ≤ 20; omega
  · unfold kidsT
    split
    · exact Nat.zero_le _
    · rename_i t ht
      rw [size_app]
      rcases kT_size ht with ⟨_, e⟩ | h1
      · rw [e, size_em]
        have : (behT x.1).size ≤ 1 := by
          unfold behT
          split
          · exact Nat.zero_le _
          · rw [sgn_size]; exact Nat.le_refl _
        omega
      · omega
theorem oneT_le (ps : List Pc) (k : Nat) : (oneT ps k).size ≤ 20 := pcT_le _ _ _
/-- a text in brackets where it is asked for, nothing when it is too long -/
def wrapT (t : Tx) (wi : Bool) : Tx := if t = emT then emT else if wi = true then (if 20 < (parenT t).size then emT else parenT t) else t
/-- the kids' step as the model takes it -/
theorem kT_step {ts : List Tx} {ps : List Pc} {x : Int} {ks : List Int} {k : Nat} {t v : Tx} (hx : x = 2 ∨ x = 3) (h : kT ts ps x ks k = some t) (hv : v = wrapT (tat ts (ks.getD k 0).toNat) (inPar x (pat ps (ks.getD k 0).toNat).1)) :
    kT ts ps x ks (k + 1) = if v = emT ∨ 20 < ((if x = 3 ∧ 0 < k then t ++ barT else t) ++ v).size then none else some ((if x = 3 ∧ 0 < k then t ++ barT else t) ++ v) := by
  obtain ⟨s, hs⟩ : ∃ s, s = (if x = 3 ∧ 0 < k then t ++ barT else t) := ⟨_, rfl⟩
  obtain ⟨y, hy⟩ : ∃ y, y = tat ts (ks.getD k 0).toNat := ⟨_, rfl⟩
  have e : kT ts ps x ks (k + 1) = if y = emT ∨ 20 < (s ++ kidT ts ps x (ks.getD k 0)).size then none else some (s ++ kidT ts ps x (ks.getD k 0)) := by
    conv => lhs; unfold kT
    rw [h]
    dsimp only
    rw [beh_size hx, Nat.add_zero, ← hs, ← hy]
  rw [e, ← hs]
  have ek : kidT ts ps x (ks.getD k 0) = if inPar x (pat ps (ks.getD k 0).toNat).1 = true then parenT y else y := by unfold kidT; rw [← hy]
  rw [ek, hv, ← hy]
  unfold wrapT
  by_cases h0 : y = emT
  · simp [h0]
  · rw [if_neg h0]
    rcases Bool.eq_false_or_eq_true (inPar x (pat ps (ks.getD k 0).toNat).1) with hw | hw
    · rw [hw, if_pos rfl, if_pos rfl]
      by_cases h20 : 20 < (parenT y).size
      · rw [if_pos h20]
        have h9 : 20 < (s ++ parenT y).size := by rw [size_app]; omega
        rw [if_pos (.inr h9), if_pos (.inl rfl)]
      · rw [if_neg h20]
        have : ¬ parenT y = emT := fun e => by have := paren_size y; rw [e, size_em] at this; omega
        simp only [h0, this, false_or]
    · rw [hw]
      simp only [h0, false_or, Bool.false_eq_true, if_false]
/-- the text of again, once at least, or nothing, as the model takes it -/
theorem kidsT_one {ts : List Tx} {ps : List Pc} {x : Int} {ks : List Int} {v : Tx} (hx : ¬ (x = 2 ∨ x = 3)) (hk : ks.length = 1) (hv : v = wrapT (tat ts (ks.getD 0 0).toNat) (inPar x (pat ps (ks.getD 0 0).toNat).1)) :
    kidsT ts ps x ks = if v = emT ∨ 20 < v.size + 1 then emT else v ++ sgnT x := by
  obtain ⟨y, hy⟩ : ∃ y, y = tat ts (ks.getD 0 0).toNat := ⟨_, rfl⟩
  have eb : behT x = sgnT x := by unfold behT; rw [if_neg hx]
  have e : kT ts ps x ks 1 = if y = emT ∨ 20 < (kidT ts ps x (ks.getD 0 0)).size + 1 then none else some (kidT ts ps x (ks.getD 0 0)) := by
    conv => lhs; unfold kT; unfold kT
    dsimp only
    rw [if_neg (show ¬ (x = 3 ∧ 0 < 0) from fun h => absurd h.2 (by omega)), em_app, eb, sgn_size, ← hy]
  have ek : kidT ts ps x (ks.getD 0 0) = if inPar x (pat ps (ks.getD 0 0).toNat).1 = true then parenT y else y := by unfold kidT; rw [← hy]
  unfold kidsT
  rw [hk, e, ek, hv, ← hy, eb]
  unfold wrapT
  by_cases h0 : y = emT
  · simp [h0]
  · rw [if_neg h0]
    rcases Bool.eq_false_or_eq_true (inPar x (pat ps (ks.getD 0 0).toNat).1) with hw | hw
    · rw [hw, if_pos rfl, if_pos rfl]
      by_cases h20 : 20 < (parenT y).size
      · rw [if_pos h20, if_pos (.inr (by omega)), if_pos (.inl rfl)]
      · rw [if_neg h20]
        have h9 : ¬ parenT y = emT := fun e => by have := paren_size y; rw [e, size_em] at this; omega
        by_cases h21 : 20 < (parenT y).size + 1
        · rw [if_pos (.inr h21), if_pos (.inr h21)]
        · rw [if_neg (by rintro (h | h); exact h0 h; exact h21 h), if_neg (by rintro (h | h); exact h9 h; exact h21 h)]
    · rw [hw, if_neg Bool.false_ne_true, if_neg Bool.false_ne_true]
      by_cases h21 : 20 < y.size + 1
      · rw [if_pos (.inr h21), if_pos (.inr h21)]
      · rw [if_neg (by rintro (h | h); exact h0 h; exact h21 h), if_neg (by rintro (h | h); exact h0 h; exact h21 h)]
theorem wrapT_le {t : Tx} (h : t.size ≤ 20) (wi : Bool) : (wrapT t wi).size ≤ 20 := by
  unfold wrapT
  split
  · exact Nat.zero_le _
  · split
    · split
      · exact Nat.zero_le _
      · omega
    · exact h
end Go.Proofs.Ytkcflhlipdnbnaa
