/-
  A path read off a text, in plain mathematics.
-/
import Derived.Test.YtdbogikcmfnpdaaPOk
import Derived.Lib.Bytealg
namespace Go.Proofs.Ytdbogikcmfnpdaa
open Go.RowKit

/-- a byte of a text; 0 behind its end -/
def bt (s : ByteArray) (i : Nat) : Nat := if h : i < s.size then s[i].toNat else 0
theorem bt_lt {s : ByteArray} {i : Nat} (h : i < s.size) : bt s i = s[i].toNat := by simp [bt, h]
theorem bt_end {s : ByteArray} {i : Nat} (h : ¬ i < s.size) : bt s i = 0 := by simp [bt, h]
theorem bt_256 (s : ByteArray) (i : Nat) : bt s i < 256 := by
  unfold bt
  split
  · exact UInt8.toNat_lt _
  · omega
theorem bt_in {s : ByteArray} {i : Nat} (h : bt s i ≠ 0) : i < s.size := by
  rcases Nat.lt_or_ge i s.size with h1 | h1
  · exact h1
  · exact absurd (bt_end (by omega)) h
def isLab (b : Nat) : Bool := isL (b : Int)
/-- the sign's operation, 0 where it is none -/
def sgn (b : Nat) : Nat := if b = 42 then 4 else if b = 43 then 5 else if b = 63 then 6 else 0
abbrev St := Nat × List Pc × Int
def signP (c : Nat → Nat) : Nat → Nat → List Pc → Int → St
  | 0, a, l, k => (a, l, k)
  | f + 1, a, l, k => if sgn (c a) = 0 then (a, l, k) else signP c f (a + 1) (l ++ [((sgn (c a) : Int), 0, [k])]) (l.length : Int)
/-- behind what stands in brackets -/
def brk (c : Nat → Nat) : Option St → Option St
  | none => none
  | some x => if c x.1 = 41 then some (x.1 + 1, x.2.1, x.2.2) else none
/-- a step, or what stands in brackets -/
def sglP (c : Nat → Nat) (A : Nat → List Pc → Option St) (a : Nat) (l : List Pc) : Option St :=
  if isLab (c a) = true then some (a + 1, l ++ [(1, (c a : Int), [])], (l.length : Int))
  else if c a = 40 then brk c (A (a + 1) l)
  else none
def oneP (c : Nat → Nat) (N : Nat) (A : Nat → List Pc → Option St) (a : Nat) (l : List Pc) : Option St :=
  (sglP c A a l).map fun x => signP c (N + 1) x.1 x.2.1 x.2.2
def rowL (O : Nat → List Pc → Option St) (c : Nat → Nat) : Nat → Nat → List Pc → List Int → Option (Nat × List Pc × List Int)
  | 0, a, l, ks => some (a, l, ks)
  | f + 1, a, l, ks =>
    if (isLab (c a) || decide (c a = 40)) = true then
      match O a l with
      | none => none
      | some x => rowL O c f x.1 x.2.1 (ks ++ [x.2.2])
    else some (a, l, ks)
def closeP (op : Int) (x : Nat × List Pc × List Int) : St := if x.2.2.length = 1 then (x.1, x.2.1, x.2.2.getD 0 0) else (x.1, x.2.1 ++ [(op, 0, x.2.2)], (x.2.1.length : Int))
def rowK (O : Nat → List Pc → Option St) (c : Nat → Nat) (N : Nat) : Option St → Option St
  | none => none
  | some x => (rowL O c (N + 1) x.1 x.2.1 [x.2.2]).map (closeP 2)
def rowP (c : Nat → Nat) (N : Nat) (A : Nat → List Pc → Option St) (a : Nat) (l : List Pc) : Option St := rowK (oneP c N A) c N (oneP c N A a l)
def altL (R : Nat → List Pc → Option St) (c : Nat → Nat) : Nat → Nat → List Pc → List Int → Option (Nat × List Pc × List Int)
  | 0, a, l, ks => some (a, l, ks)
  | f + 1, a, l, ks =>
    if c a = 124 then
      match R (a + 1) l with
      | none => none
      | some x => altL R c f x.1 x.2.1 (ks ++ [x.2.2])
    else some (a, l, ks)
def altK (R : Nat → List Pc → Option St) (c : Nat → Nat) (N : Nat) : Option St → Option St
  | none => none
  | some x => (altL R c (N + 1) x.1 x.2.1 [x.2.2]).map (closeP 3)
def altP (c : Nat → Nat) (N : Nat) : Nat → Nat → List Pc → Option St
  | 0, _, _ => none
  | d + 1, a, l => altK (rowP c N (altP c N d)) c N (rowP c N (altP c N d) a l)
/-- the pieces of a text that tells a path -/
def readP (s : ByteArray) : Option (List Pc) :=
  if 20 < s.size then none else
    match altP (bt s) s.size (s.size + 1) 0 [] with
    | none => none
    | some x => if x.1 < s.size then none else if okP x.2.1 = true then some x.2.1 else none

theorem signP_end {c : Nat → Nat} {f a : Nat} {l : List Pc} {k : Int} (h : sgn (c a) = 0) : signP c f a l k = (a, l, k) := by
  match f with
  | 0 => rfl
  | f + 1 => unfold signP; rw [if_pos h]
theorem signP_go {c : Nat → Nat} {f a : Nat} {l : List Pc} {k : Int} (h : sgn (c a) ≠ 0) : signP c (f + 1) a l k = signP c f (a + 1) (l ++ [((sgn (c a) : Int), 0, [k])]) (l.length : Int) := by
  conv => lhs; unfold signP
  rw [if_neg h]
theorem rowL_end {O : Nat → List Pc → Option St} {c : Nat → Nat} {f a : Nat} {l : List Pc} {ks : List Int} (h : (isLab (c a) || decide (c a = 40)) = false) : rowL O c f a l ks = some (a, l, ks) := by
  match f with
  | 0 => rfl
  | f + 1 => unfold rowL; rw [if_neg (by rw [h]; simp)]
theorem rowL_none {O : Nat → List Pc → Option St} {c : Nat → Nat} {f a : Nat} {l : List Pc} {ks : List Int} (h : (isLab (c a) || decide (c a = 40)) = true) (ho : O a l = none) : rowL O c (f + 1) a l ks = none := by
  unfold rowL; rw [if_pos h, ho]
theorem rowL_go {O : Nat → List Pc → Option St} {c : Nat → Nat} {f a : Nat} {l : List Pc} {ks : List Int} {x : St} (h : (isLab (c a) || decide (c a = 40)) = true) (ho : O a l = some x) : rowL O c (f + 1) a l ks = rowL O c f x.1 x.2.1 (ks ++ [x.2.2]) := by
  conv => lhs; unfold rowL
  rw [if_pos h, ho]
theorem altL_end {R : Nat → List Pc → Option St} {c : Nat → Nat} {f a : Nat} {l : List Pc} {ks : List Int} (h : c a ≠ 124) : altL R c f a l ks = some (a, l, ks) := by
  match f with
  | 0 => rfl
  | f + 1 => unfold altL; rw [if_neg h]
theorem altL_none {R : Nat → List Pc → Option St} {c : Nat → Nat} {f a : Nat} {l : List Pc} {ks : List Int} (h : c a = 124) (ho : R (a + 1) l = none) : altL R c (f + 1) a l ks = none := by
  unfold altL; rw [if_pos h, ho]
theorem altL_go {R : Nat → List Pc → Option St} {c : Nat → Nat} {f a : Nat} {l : List Pc} {ks : List Int} {x : St} (h : c a = 124) (ho : R (a + 1) l = some x) : altL R c (f + 1) a l ks = altL R c f x.1 x.2.1 (ks ++ [x.2.2]) := by
  conv => lhs; unfold altL
  rw [if_pos h, ho]
theorem isLab_0 {b : Nat} (h : isLab b = true) : b ≠ 0 ∧ b ≠ 40 := by
  unfold isLab isL at h
  simp at h
  omega
theorem sgn_cases (b : Nat) : sgn b = 0 ∨ ∃ g : Nat, sgn b = 4 + g ∧ g ≤ 2 := by
  unfold sgn
  split
  · exact .inr ⟨0, rfl, by omega⟩
  · split
    · exact .inr ⟨1, rfl, by omega⟩
    · split
      · exact .inr ⟨2, rfl, by omega⟩
      · exact .inl rfl
theorem idx_sgn_all : ∀ x : Fin 256, Lib.indexByte [42, 43, 63] x.val.toUInt8 = if sgn x.val = 0 then -1 else (sgn x.val : Int) - 4 := by decide +kernel
theorem idx_sgn {x : Nat} (h : x < 256) : Lib.indexByte [42, 43, 63] x.toUInt8 = if sgn x = 0 then -1 else (sgn x : Int) - 4 := idx_sgn_all ⟨x, h⟩
theorem sgn_0 {b : Nat} (h : sgn b ≠ 0) : b ≠ 0 := by
  rintro rfl; exact h rfl
end Go.Proofs.Ytdbogikcmfnpdaa
