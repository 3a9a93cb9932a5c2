import Derived.Test.YtbepmeipjdpipaaGreatJn04
import Derived.Lib.Bytealg
import Derived.Laws.MakeOwn
import Derived.Deep.DeepCutAuto
import Derived.Deep.CutBlock
namespace Go.Proofs.YtbepmeipjdpipaaGreat
open Go.RowKit

def bt (s : ByteArray) (i : Nat) : Nat := if h : i < s.size then s[i].toNat else 0
theorem bt_lt {s : ByteArray} {i : Nat} (h : i < s.size) : bt s i = s[i].toNat := by simp [bt, h]
theorem bt_end {s : ByteArray} {i : Nat} (h : ¬ i < s.size) : bt s i = 0 := by simp [bt, h]
theorem bt_256 (s : ByteArray) (i : Nat) : bt s i < 256 := by
  unfold bt
  split
  · exact UInt8.toNat_lt _
  · omega
theorem bt_in {s : ByteArray} {i : Nat} (h : bt s i ≠ 0) : i < s.size := by
  rcases Nat.lt_or_ge i s.size with h1 | h1
  · exact h1
  · exact absurd (bt_end (by omega)) h
def isLab (b : Nat) : Bool := isL (b : Int)
def sgn (b : Nat) : Nat := if b = 42 then 4 else if b = 43 then 5 else if b = 63 then 6 else 0
abbrev St := Nat × List Pc × Int
def signP (c : Nat → Nat) : Nat → Nat → List Pc → Int → St
  | 0, a, l, k => (a, l, k)
  | f + 1, a, l, k => if sgn (c a) = 0 then (a, l, k) else signP c f (a + 1) (l ++ [((sgn (c a) : Int), 0, [k])]) (l.length : Int)
def brk (c : Nat → Nat) : Option St → Option St
  | none => none
  | some x => if c x.1 = 41 then some (x.1 + 1, x.2.1, x.2.2) else none
def sglP (c : Nat → Nat) (A : Nat → List Pc → Option St) (a : Nat) (l : List Pc) : Option St :=
  if isLab (c a) = true then some (a + 1, l ++ [(1, (c a : Int), [])], (l.length : Int))
  else if c a = 40 then brk c (A (a + 1) l)
  else none
def oneP (c : Nat → Nat) (N : Nat) (A : Nat → List Pc → Option St) (a : Nat) (l : List Pc) : Option St :=
  (sglP c A a l).map fun x => signP c (N + 1) x.1 x.2.1 x.2.2
def rowL (O : Nat → List Pc → Option St) (c : Nat → Nat) : Nat → Nat → List Pc → List Int → Option (Nat × List Pc × List Int)
  | 0, a, l, ks => some (a, l, ks)
  | f + 1, a, l, ks =>
    if (isLab (c a) || decide (c a = 40)) = true then
      match O a l with
      | none => none
      | some x => rowL O c f x.1 x.2.1 (ks ++ [x.2.2])
    else some (a, l, ks)
def closeP (op : Int) (x : Nat × List Pc × List Int) : St := if x.2.2.length = 1 then (x.1, x.2.1, x.2.2.getD 0 0) else (x.1, x.2.1 ++ [(op, 0, x.2.2)], (x.2.1.length : Int))
def rowK (O : Nat → List Pc → Option St) (c : Nat → Nat) (N : Nat) : Option St → Option St
  | none => none
  | some x => (rowL O c (N + 1) x.1 x.2.1 [x.2.2]).map (closeP 2)
def rowP (c : Nat → Nat) (N : Nat) (A : Nat → List Pc → Option St) (a : Nat) (l : List Pc) : Option St := rowK (oneP c N A) c N (oneP c N A a l)
def altL (R : Nat → List Pc → Option St) (c : Nat → Nat) : Nat → Nat → List Pc → List Int → Option (Nat × List Pc × List Int)
  | 0, a, l, ks => some (a, l, ks)
  | f + 1, a, l, ks =>
    if c a = 124 then
      match R (a + 1) l with
      | none => none
      | some x => altL R c f x.1 x.2.1 (ks ++ [x.2.2])
    else some (a, l, ks)
def altK (R : Nat → List Pc → Option St) (c : Nat → Nat) (N : Nat) : Option St → Option St
  | none => none
  | some x => (altL R c (N + 1) x.1 x.2.1 [x.2.2]).map (closeP 3)
def altP (c : Nat → Nat) (N : Nat) : Nat → Nat → List Pc → Option St
  | 0, _, _ => none
  | d + 1, a, l => altK (rowP c N (altP c N d)) c N (rowP c N (altP c N d) a l)
def readP (s : ByteArray) : Option (List Pc) :=
  if 20 < s.size then none else
    match altP (bt s) s.size (s.size + 1) 0 [] with
    | none => none
    | some x => if x.1 < s.size then none else if okP x.2.1 = true then some x.2.1 else none

theorem signP_end {c : Nat → Nat} {f a : Nat} {l : List Pc} {k : Int} (h : sgn (c a) = 0) : signP c f a l k = (a, l, k) := by
  match f with
  | 0 => rfl
  | f + 1 => unfold signP; rw [if_pos h]
theorem signP_go {c : Nat → Nat} {f a : Nat} {l : List Pc} {k : Int} (h : sgn (c a) ≠ 0) : signP c (f + 1) a l k = signP c f (a + 1) (l ++ [((sgn (c a) : Int), 0, [k])]) (l.length : Int) := by
  conv => lhs; unfold signP
  rw [if_neg h]
theorem rowL_end {O : Nat → List Pc → Option St} {c : Nat → Nat} {f a : Nat} {l : List Pc} {ks : List Int} (h : (isLab (c a) || decide (c a = 40)) = false) : rowL O c f a l ks = some (a, l, ks) := by
  match f with
  | 0 => rfl
  | f + 1 => unfold rowL; rw [if_neg (by rw [h]; simp)]
theorem rowL_none {O : Nat → List Pc → Option St} {c : Nat → Nat} {f a : Nat} {l : List Pc} {ks : List Int} (h : (isLab (c a) || decide (c a = 40)) = true) (ho : O a l = none) : rowL O c (f + 1) a l ks = none := by
  unfold rowL; rw [if_pos h, ho]
theorem rowL_go {O : Nat → List Pc → Option St} {c : Nat → Nat} {f a : Nat} {l : List Pc} {ks : List Int} {x : St} (h : (isLab (c a) || decide (c a = 40)) = true) (ho : O a l = some x) : rowL O c (f + 1) a l ks = rowL O c f x.1 x.2.1 (ks ++ [x.2.2]) := by
  conv => lhs; unfold rowL
  rw [if_pos h, ho]
theorem altL_end {R : Nat → List Pc → Option St} {c : Nat → Nat} {f a : Nat} {l : List Pc} {ks : List Int} (h : c a ≠ 124) : altL R c f a l ks = some (a, l, ks) := by
  match f with
  | 0 => rfl
  | f + 1 => unfold altL; rw [if_neg h]
theorem altL_none {R : Nat → List Pc → Option St} {c : Nat → Nat} {f a : Nat} {l : List Pc} {ks : List Int} (h : c a = 124) (ho : R (a + 1) l = none) : altL R c (f + 1) a l ks = none := by
  unfold altL; rw [if_pos h, ho]
theorem altL_go {R : Nat → List Pc → Option St} {c : Nat → Nat} {f a : Nat} {l : List Pc} {ks : List Int} {x : St} (h : c a = 124) (ho : R (a + 1) l = some x) : altL R c (f + 1) a l ks = altL R c f x.1 x.2.1 (ks ++ [x.2.2]) := by
  conv => lhs; unfold altL
  rw [if_pos h, ho]
theorem isLab_0 {b : Nat} (h : isLab b = true) : b ≠ 0 ∧ b ≠ 40 := by
  unfold isLab isL at h
  simp at h
  omega
theorem sgn_cases (b : Nat) : sgn b = 0 ∨ ∃ g : Nat, sgn b = 4 + g ∧ g ≤ 2 := by
  unfold sgn
  split
  · exact .inr ⟨0, rfl, by omega⟩
  · split
    · exact .inr ⟨1, rfl, by omega⟩
    · split
      · exact .inr ⟨2, rfl, by omega⟩
      · exact .inl rfl
theorem idx_sgn_all : ∀ x : Fin 256, Lib.indexByte [42, 43, 63] x.val.toUInt8 = if sgn x.val = 0 then -1 else (sgn x.val : Int) - 4 := by decide +kernel
theorem idx_sgn {x : Nat} (h : x < 256) : Lib.indexByte [42, 43, 63] x.toUInt8 = if sgn x = 0 then -1 else (sgn x : Int) - 4 := idx_sgn_all ⟨x, h⟩
theorem sgn_0 {b : Nat} (h : sgn b ≠ 0) : b ≠ 0 := by
  rintro rfl; exact h rfl
end Go.Proofs.YtbepmeipjdpipaaGreat

namespace Go.Proofs.YtbepmeipjdpipaaGreat
open Go.RowKit

def KB (l : List Pc) : Prop := ∀ x ∈ l, x.2.2.length ≤ 100
theorem KB.nil : KB [] := fun x hx => by simp at hx
theorem KB.snoc {l : List Pc} {x : Pc} (h : KB l) (hx : x.2.2.length ≤ 100) : KB (l ++ [x]) := by
  intro y hy
  rcases List.mem_append.1 hy with h1 | h1
  · exact h y h1
  · rw [List.mem_singleton.1 h1]; exact hx
theorem KB.pat {l : List Pc} (h : KB l) {i : Nat} (hi : i < l.length) : (pat l i).2.2.length ≤ 100 := by
  rw [pat_get hi]
  exact h _ (List.getElem_mem hi)
theorem KB.kids {l : List Pc} (h : KB l) : ∀ k, k ≤ l.length → kidsLen l k ≤ k * 100
  | 0, _ => by simp [kidsLen]
  | k + 1, hk => by
    have := KB.kids h k (by omega)
    have := h.pat (i := k) (by omega)
    rw [kidsLen, Nat.add_mul]; omega
theorem signP_kb (c : Nat → Nat) : ∀ (f a : Nat) (l : List Pc) (k : Int), KB l → KB (signP c f a l k).2.1
  | 0, _, _, _, h => h
  | f + 1, a, l, k, h => by
    unfold signP
    split
    · exact h
    · exact signP_kb c f _ _ _ (h.snoc (by simp))
def KA (A : Nat → List Pc → Option St) : Prop := ∀ a l x, KB l → A a l = some x → KB x.2.1
theorem sglP_kb {c : Nat → Nat} {A : Nat → List Pc → Option St} (hA : KA A) : KA (sglP c A) := by
  intro a l x h hx
  unfold sglP at hx
  split at hx
  · simp only [Option.some.injEq] at hx
    subst hx
    exact h.snoc (by simp)
  · split at hx
    · cases e : A (a + 1) l with
      | none => rw [e] at hx; cases hx
      | some y =>
        rw [e] at hx
        have hx2 : (if c y.1 = 41 then some (y.1 + 1, y.2.1, y.2.2) else none) = some x := hx
        clear hx
        have hx := hx2
        split at hx
        · simp only [Option.some.injEq] at hx
          subst hx
          have := hA _ _ _ h e
          exact this
        · cases hx
    · cases hx
theorem oneP_kb {c : Nat → Nat} {N : Nat} {A : Nat → List Pc → Option St} (hA : KA A) : KA (oneP c N A) := by
  intro a l x h hx
  unfold oneP at hx
  cases e : sglP c A a l with
  | none => rw [e] at hx; cases hx
  | some y =>
    rw [e] at hx
    simp only [Option.map_some, Option.some.injEq] at hx
    subst hx
    exact signP_kb c _ _ _ _ (sglP_kb hA _ _ _ h e)
theorem closeP_kb {op : Int} {x : Nat × List Pc × List Int} (h : KB x.2.1) (h2 : x.2.2.length ≤ 100) : KB (closeP op x).2.1 := by
  unfold closeP
  split
  · exact h
  · exact h.snoc h2
theorem rowL_kb {O : Nat → List Pc → Option St} {c : Nat → Nat} (hO : KA O) : ∀ (f a : Nat) (l : List Pc) (ks : List Int) (x : Nat × List Pc × List Int), KB l → rowL O c f a l ks = some x → KB x.2.1 ∧ x.2.2.length ≤ ks.length + f
  | 0, a, l, ks, x, h, hx => by
    unfold rowL at hx
    simp only [Option.some.injEq] at hx
    subst hx
    exact ⟨h, by simp⟩
  | f + 1, a, l, ks, x, h, hx => by
    unfold rowL at hx
    split at hx
    · cases e : O a l with
      | none => rw [e] at hx; cases hx
      | some y =>
        rw [e] at hx
        obtain ⟨h1, h2⟩ := rowL_kb hO f _ _ _ x (hO _ _ _ h e) hx
        exact ⟨h1, by rw [List.length_append] at h2; simp at h2; omega⟩
    · simp only [Option.some.injEq] at hx
      subst hx
      exact ⟨h, by simp⟩
theorem altL_kb {O : Nat → List Pc → Option St} {c : Nat → Nat} (hO : KA O) : ∀ (f a : Nat) (l : List Pc) (ks : List Int) (x : Nat × List Pc × List Int), KB l → altL O c f a l ks = some x → KB x.2.1 ∧ x.2.2.length ≤ ks.length + f
  | 0, a, l, ks, x, h, hx => by
    unfold altL at hx
    simp only [Option.some.injEq] at hx
    subst hx
    exact ⟨h, by simp⟩
  | f + 1, a, l, ks, x, h, hx => by
    unfold altL at hx
    split at hx
    · cases e : O (a + 1) l with
      | none => rw [e] at hx; cases hx
      | some y =>
        rw [e] at hx
        obtain ⟨h1, h2⟩ := altL_kb hO f _ _ _ x (hO _ _ _ h e) hx
        exact ⟨h1, by rw [List.length_append] at h2; simp at h2; omega⟩
    · simp only [Option.some.injEq] at hx
      subst hx
      exact ⟨h, by simp⟩
theorem rowP_kb {c : Nat → Nat} {N : Nat} (hN : N ≤ 20) {A : Nat → List Pc → Option St} (hA : KA A) : KA (rowP c N A) := by
  intro a l x h hx
  unfold rowP at hx
  cases e : oneP c N A a l with
  | none => rw [e] at hx; cases hx
  | some y =>
    rw [e] at hx
    have hx : (rowL (oneP c N A) c (N + 1) y.1 y.2.1 [y.2.2]).map (closeP 2) = some x := hx
    cases e2 : rowL (oneP c N A) c (N + 1) y.1 y.2.1 [y.2.2] with
    | none => rw [e2] at hx; cases hx
    | some z =>
      rw [e2] at hx
      simp only [Option.map_some, Option.some.injEq] at hx
      subst hx
      obtain ⟨h1, h2⟩ := rowL_kb (oneP_kb hA) _ _ _ _ z (oneP_kb hA _ _ _ h e) e2
      exact closeP_kb h1 (by simp at h2; omega)
theorem altP_kb {c : Nat → Nat} {N : Nat} (hN : N ≤ 20) : ∀ d, KA (altP c N d)
  | 0 => fun a l x _ hx => by unfold altP at hx; cases hx
  | d + 1 => by
    intro a l x h hx
    have hR : KA (rowP c N (altP c N d)) := rowP_kb hN (altP_kb hN d)
    unfold altP at hx
    cases e : rowP c N (altP c N d) a l with
    | none => rw [e] at hx; cases hx
    | some y =>
      rw [e] at hx
      have hx : (altL (rowP c N (altP c N d)) c (N + 1) y.1 y.2.1 [y.2.2]).map (closeP 3) = some x := hx
      cases e2 : altL (rowP c N (altP c N d)) c (N + 1) y.1 y.2.1 [y.2.2] with
      | none => rw [e2] at hx; cases hx
      | some z =>
        rw [e2] at hx
        simp only [Option.map_some, Option.some.injEq] at hx
        subst hx
        obtain ⟨h1, h2⟩ := altL_kb hR _ _ _ _ z (hR _ _ _ h e) e2
        exact closeP_kb h1 (by simp at h2; omega)
theorem readP_size {s : ByteArray} (h : 20 < s.size) : readP s = none := by unfold readP; rw [if_pos h]
theorem readP_of {s : ByteArray} (h : ¬ 20 < s.size) : readP s = match altP (bt s) s.size (s.size + 1) 0 [] with | none => none | some x => if x.1 < s.size then none else if okP x.2.1 = true then some x.2.1 else none := by unfold readP; rw [if_neg h] <;> rfl
theorem readP_none {s : ByteArray} (h : ¬ 20 < s.size) {P : Option St} (hP : P = altP (bt s) s.size (s.size + 1) 0 []) (h1 : P = none) : readP s = none := by rw [readP_of h, ← hP, h1]
theorem readP_some {s : ByteArray} (h : ¬ 20 < s.size) {P : Option St} (hP : P = altP (bt s) s.size (s.size + 1) 0 []) {a : Nat} {l : List Pc} {k : Int} (h1 : P = some (a, l, k)) : readP s = if a < s.size then none else if okP l = true then some l else none := by rw [readP_of h, ← hP, h1]
theorem readP_ok {s : ByteArray} {l : List Pc} (h : readP s = some l) : okP l = true ∧ KB l := by
  by_cases h20 : 20 < s.size
  · rw [readP_size h20] at h; cases h
  · rw [readP_of h20] at h
    cases e : altP (bt s) s.size (s.size + 1) 0 [] with
    | none => rw [e] at h; cases h
    | some x =>
      rw [e] at h
      dsimp only at h
      split at h
      · cases h
      · split at h
        · rename_i hok
          simp only [Option.some.injEq] at h
          subst h
          exact ⟨hok, altP_kb (by omega) _ _ _ _ KB.nil e⟩
        · cases h
def RPost (Z : Option (List Pc)) (w : World) (e : Ending) (w' : World) : Prop :=
  ∃ (a' : Option Addr) (n' c' : Nat) (r : Bool), e = .returned (.tuple #[pv a' n' c', .bool r]) ∧ Hid (r = Z.isSome) ∧ Hid ((Z.getD []).length = n') ∧ Hid (PathOwn w.heap.size w'.heap.size w' a' (Z.getD [])) ∧ Hid (Below w.heap.size w w')
end Go.Proofs.YtbepmeipjdpipaaGreat

namespace Go.Proofs.YtbepmeipjdpipaaGreat
open Go.RowKit

def ecells (l : List Ed) : List Value := (List.range (l.length * 3)).map (ef l)
theorem eat_app {l : List Ed} {x : Ed} {i : Nat} (h : i < l.length) : eat (l ++ [x]) i = eat l i := by simp [eat, List.getD, List.getElem?_append_left h]
theorem eat_last (l : List Ed) (x : Ed) : eat (l ++ [x]) l.length = x := by simp [eat, List.getD]
theorem ecells_snoc (l : List Ed) (x : Ed) : ecells (l ++ [x]) = ecells l ++ [.int .i64 x.1, .int .u8 x.2.1, .int .i64 x.2.2] := by
  unfold ecells
  rw [List.length_append, List.length_singleton, show (l.length + 1) * 3 = l.length * 3 + 1 + 1 + 1 by omega, List.range_succ, List.range_succ, List.range_succ]
  simp only [List.map_append, List.append_assoc]
  congr 1
  · refine List.map_congr_left fun j hj => ?_
    have hj' := List.mem_range.1 hj
    unfold ef
    rw [eat_app (by omega)]
  · simp only [List.map_cons, List.map_nil, ef0, ef1, ef2, eat_last]
    rfl
theorem news_three (w2 : World) (x y z : Value) (T : TypeId) : ∀ j u, [x, y, z][j]? = some u → (w2.alloc (.cells #[x, y, z] T)).cell? ((⟨w2.heap.size, 0, none⟩ : Addr).add j) = some u := by
  obtain ⟨h0, h1, h2⟩ := box_cells w2 x y z T _ rfl
  intro j u hu
  rw [add_none, Nat.zero_add]
  rcases j with _ | _ | _ | j
  · simp at hu; subst hu; exact h0
  · simp at hu; subst hu; exact h1
  · simp at hu; subst hu; exact h2
  · simp at hu

theorem owns_upto {B M e s n : Nat} {w w' : World} {v : Value} {xs : List Value} (ho : w.ownsRow B e s v n xs) (hv : ∀ k, v.ownBlock = some k → k < M) (hb : ∀ k, B ≤ k → k < M → w'.heap[k]? = w.heap[k]?) : w'.ownsRow B e s v n xs := by
  refine ⟨ho.1, ?_⟩
  rcases ho.2 with hn | ⟨g, cap, cur, rfl, hg, hh, r⟩
  · exact .inl hn
  · exact .inr ⟨g, cap, cur, rfl, hg, by rw [hb g hg (hv g rfl)]; exact hh, r⟩
theorem blk_three_set {w : World} {b : Nat} {x y z : Value} (h : Blk w b 3 (fun i => if i = 0 then x else if i = 1 then y else z)) : w.cell? ⟨b, 0, none⟩ = some x ∧ w.cell? ⟨b, 1, none⟩ = some y ∧ w.cell? ⟨b, 2, none⟩ = some z :=
  ⟨h.cell (i := 0) (by omega), h.cell (i := 1) (by omega), h.cell (i := 2) (by omega)⟩
theorem cell_set {w : World} {b o c j : Nat} {v : Value} (h : w.cell? ⟨b, o, none⟩ = some v) (u : Value) (hne : b ≠ c) : (w.setCell ⟨c, j, none⟩ u).cell? ⟨b, o, none⟩ = some v := by
  rw [← h]; unfold World.cell?; rw [Below.heap_setCell w ⟨c, j, none⟩ u b (by simpa using hne)]
theorem take_snocE (l : List Ed) {k : Nat} (h : k < l.length) : l.take (k + 1) = l.take k ++ [eat l k] := by
  rw [List.take_add_one]; simp [eat, List.getD, h]

end Go.Proofs.YtbepmeipjdpipaaGreat

namespace Go.Proofs.YtbepmeipjdpipaaGreat
open Go.RowKit

theorem EdgeAt.cell {w : World} {b o i : Nat} {l : List Ed} (h : EdgeAt w b (o + i * 3) (eat l i)) {r : Nat} (hr : r < 3) : w.cell? ⟨b, o + (i * 3 + r), none⟩ = some (ef l (i * 3 + r)) := by
  rcases (show r = 0 ∨ r = 1 ∨ r = 2 by omega) with rfl | rfl | rfl
  · rw [Nat.add_zero, ef0]; exact h.1
  · rw [ef1, ← Nat.add_assoc]; exact h.2.1
  · rw [ef2, ← Nat.add_assoc]; exact h.2.2
theorem owns_set {B e s n b j : Nat} {w : World} {v u : Value} {xs : List Value} (ho : w.ownsRow B e s v n xs) (hb : b < B) : (w.setCell ⟨b, j, none⟩ u).ownsRow B e s v n xs :=
  owns_upto (M := w.heap.size) ho (fun k hk => (ho.lt k hk).2) (fun k h1 _ => Below.heap_setCell _ _ _ _ (by simp; omega))
theorem owns_low {B B' e s n : Nat} {w : World} {v : Value} {xs : List Value} (ho : w.ownsRow B e s v n xs) (hb : B' ≤ B) : w.ownsRow B' e s v n xs := by
  refine ⟨ho.1, ?_⟩
  rcases ho.2 with hn | ⟨g, cap, cur, rfl, hg, r⟩
  · exact .inl hn
  · exact .inr ⟨g, cap, cur, rfl, by omega, r⟩

end Go.Proofs.YtbepmeipjdpipaaGreat

namespace Go.Proofs.YtbepmeipjdpipaaGreat
open Go.RowKit

theorem filter_step {p : Ed → Bool} {l : List Ed} {k : Nat} (h : k < l.length) : (l.take (k + 1)).filter p = (l.take k).filter p ++ (if p (eat l k) = true then [eat l k] else []) := by
  rw [take_snocE l h, List.filter_append]
  by_cases hp : p (eat l k) = true <;> simp [hp]
theorem filter_len {p : Ed → Bool} (l : List Ed) (k : Nat) : ((l.take k).filter p).length ≤ k := Nat.le_trans (List.length_filter_le _ _) (by rw [List.length_take]; omega)

end Go.Proofs.YtbepmeipjdpipaaGreat

namespace Go.Proofs.YtbepmeipjdpipaaGreat
open Go.RowKit

theorem Tryz.info130 : (Tryz.prog.info? 130).map (fun i => (i.zero, i.size, i.bytes)) = some (some (.agg #[.int .i64 0, .int .u8 0, .int .i64 0]), 3, 24) := by kernel_rfl

end Go.Proofs.YtbepmeipjdpipaaGreat

namespace Go.Proofs.YtbepmeipjdpipaaGreat
open Go.RowKit

def BlsIn (lo hi : Nat) (w : World) (a : Option Addr) (l : List Bool) : Prop :=
  l = [] ∨ ∃ b o, a = some ⟨b, o, none⟩ ∧ lo ≤ b ∧ b < hi ∧ ∀ i, i < l.length → w.cell? ⟨b, o + i, none⟩ = some (.bool (l.getD i false))

theorem BlsIn.below {lo hi B : Nat} {w w' : World} {a : Option Addr} {l : List Bool} (h : BlsIn lo hi w a l) (hb : Below B w w') (hB : hi ≤ B) : BlsIn lo hi w' a l := by
  rcases h with h | ⟨b, o, e, h1, h2, h3⟩
  · exact .inl h
  · exact .inr ⟨b, o, e, h1, h2, fun i hi => cell_below (h3 i hi) hb (by omega)⟩

theorem BlsIn.wide {lo hi lo' hi' : Nat} {w : World} {a : Option Addr} {l : List Bool} (h : BlsIn lo hi w a l) (h1 : lo' ≤ lo) (h2 : hi ≤ hi') : BlsIn lo' hi' w a l := by
  rcases h with h | ⟨b, o, e, h3, h4, h5⟩
  · exact .inl h
  · exact .inr ⟨b, o, e, by omega, by omega, h5⟩

theorem BlsIn.num {lo hi : Nat} {w : World} {a : Option Addr} {l : List Bool} (h : BlsIn lo hi w a l) {i : Nat} (hi' : i < l.length) : ∃ b o, a = some ⟨b, o, none⟩ ∧ w.cell? ⟨b, o + i, none⟩ = some (.bool (l.getD i false)) := by
  rcases h with rfl | ⟨b, o, e, _, _, hc⟩
  · exact absurd hi' (by simp)
  · exact ⟨b, o, e, hc i hi'⟩
theorem BlsIn.kept {lo hi : Nat} {p : Nat → Prop} {w w' : World} {a : Option Addr} {l : List Bool} (h : BlsIn lo hi w a l) (hk : KeptP p w w') (hh : hi ≤ w.heap.size) (hp : ∀ k, lo ≤ k → k < hi → ¬ p k) : BlsIn lo hi w' a l := by
  rcases h with h | ⟨b, o, e, h1, h2, h3⟩
  · exact .inl h
  · exact .inr ⟨b, o, e, h1, h2, fun i hi => hk.cell (h3 i hi) (by omega) (hp b h1 h2)⟩

def BlsOwn (lo hi : Nat) (w : World) (a : Option Addr) (l : List Bool) : Prop :=
  l = [] ∨ ∃ b, a = some ⟨b, 0, none⟩ ∧ lo ≤ b ∧ b < hi ∧ Blk w b l.length (fun i => .bool (l.getD i false))

theorem BlsOwn.toIn {lo hi : Nat} {w : World} {a : Option Addr} {l : List Bool} (h : BlsOwn lo hi w a l) : BlsIn lo hi w a l := by
  rcases h with h | ⟨b, e, h1, h2, h3⟩
  · exact .inl h
  · exact .inr ⟨b, 0, e, h1, h2, fun i hi => by rw [Nat.zero_add]; exact h3.cell hi⟩
theorem BlsOwn.below {lo hi B : Nat} {w w' : World} {a : Option Addr} {l : List Bool} (h : BlsOwn lo hi w a l) (hb : Below B w w') (hB : hi ≤ B) : BlsOwn lo hi w' a l := by
  rcases h with h | ⟨b, e, h1, h2, h3⟩
  · exact .inl h
  · exact .inr ⟨b, e, h1, h2, h3.of_block (hb.block b (by omega))⟩
theorem BlsOwn.wide {lo hi lo' hi' : Nat} {w : World} {a : Option Addr} {l : List Bool} (h : BlsOwn lo hi w a l) (h1 : lo' ≤ lo) (h2 : hi ≤ hi') : BlsOwn lo' hi' w a l := by
  rcases h with h | ⟨b, e, h3, h4, h5⟩
  · exact .inl h
  · exact .inr ⟨b, e, by omega, by omega, h5⟩
theorem BlsOwn.kept {lo hi : Nat} {p : Nat → Prop} {w w' : World} {a : Option Addr} {l : List Bool} (h : BlsOwn lo hi w a l) (hk : KeptP p w w') (hp : ∀ c, lo ≤ c → c < hi → ¬ p c) : BlsOwn lo hi w' a l := by
  rcases h with h | ⟨b, e, h1, h2, h3⟩
  · exact .inl h
  · exact .inr ⟨b, e, h1, h2, hk.blk h3 (hp b h1 h2)⟩

theorem BlsOwn.setCellP {lo hi b j : Nat} {w : World} {a : Option Addr} {l : List Bool} (h : BlsOwn lo hi w a l) (hb : b < lo) (v : Value) : BlsOwn lo hi (w.setCell ⟨b, j, none⟩ v) a l := by
  rcases h with h | ⟨g, e, h1, h2, h3⟩
  · exact .inl h
  · exact .inr ⟨g, e, h1, h2, h3.of_block (Below.heap_setCell w ⟨b, j, none⟩ v g (by simp; omega))⟩

def mkB (K : Nat) : Bool := (((K : Nat) : Int) % 3 == 0)
def marksB (K n : Nat) : List Bool := (List.range n).map fun i => mkB (K + i)
end Go.Proofs.YtbepmeipjdpipaaGreat

namespace Go.Proofs.YtbepmeipjdpipaaGreat
open Go.RowKit

theorem okE_split (s : Int) (x : Ed) : okE s x = (inV s x.1 && inV s x.2.2 && decide (97 ≤ x.2.1) && decide (x.2.1 ≤ 100)) := rfl
theorem inV_in (s v : Int) : (decide (0 ≤ v) && decide (v ≤ s - 1)) = inV s v := by unfold inV; congr 1; rw [decide_eq_decide]; omega

end Go.Proofs.YtbepmeipjdpipaaGreat

namespace Go.Proofs.YtbepmeipjdpipaaGreat
open Go.RowKit

abbrev nv (s : Int) (a : Option Addr) (n cap : Nat) (b : Option Addr) (m mc : Nat) : Value := .agg #[.int .i64 s, .slice a n cap, .slice b m mc]
def nf (s : Int) (a : Option Addr) (n cap : Nat) (b : Option Addr) (m mc : Nat) : Nat → Value := fun i => if i = 0 then .int .i64 s else if i = 1 then .slice a n cap else .slice b m mc
theorem blk_nf (w : World) (g : Nat) (hg : g = w.heap.size) (s : Int) (a : Option Addr) (n cap : Nat) (b : Option Addr) (m mc : Nat) (T : TypeId) : Blk (w.alloc (.cells #[.int .i64 s, .slice a n cap, .slice b m mc] T)) g 3 (nf s a n cap b m mc) := blk_three w g hg _ _ _ T
def okN (s : Int) (l : List Ed) (m : Nat) : Bool := decide (1 ≤ s) && decide (s ≤ 24) && decide ((m : Int) = s) && okGTo s l l.length
theorem okN_size {s : Int} {l : List Ed} {m : Nat} (h : okN s l m = true) : 1 ≤ s ∧ s ≤ 24 ∧ (m : Int) = s := by unfold okN at h; simp at h; omega
theorem okN_at {s : Int} {l : List Ed} {m : Nat} (h : okN s l m = true) {k : Nat} (hk : k < l.length) : okGAt s l k = true := by unfold okN at h; simp only [Bool.and_eq_true] at h; exact okGTo_at h.2 hk
theorem okN_arc {s : Int} {l : List Ed} {m : Nat} (h : okN s l m = true) {k : Nat} (hk : k < l.length) : okE s (eat l k) = true := by
  have := okN_at h hk; unfold okGAt at this; simp only [Bool.and_eq_true] at this; exact this.1

set_option maxHeartbeats 1000000 in
theorem specLess_arc (x y : Ed) (r : Bool) (w : World) (hr : r = ltE x y) :
    Calls Tryz.prog 74 #[ev x, ev y] w fun e w' => e = .returned (.bool r) ∧ Hid (Below w.heap.size w w') := by
  have HR : Hid (r = ltE x y) := hr
  clear hr
  obtain ⟨x0, x1, x2⟩ := x
  obtain ⟨y0, y1, y2⟩ := y
  have HR2 : Hid (r = if x0 = y0 then (if x1 = y1 then decide (x2 < y2) else decide (x1 < y1)) else decide (x0 < y0)) := by
    show _ = _
    rw [HR.out]
    unfold ltE cmpE orI cmpI
    by_cases h0 : x0 = y0
    · subst h0
      by_cases h1 : x1 = y1
      · subst h1
        rcases Int.lt_trichotomy x2 y2 with h | h | h
        · simp [h]
        · subst h; simp
        · simp [h, Int.lt_asymm h]
      · rcases Int.lt_trichotomy x1 y1 with h | h | h
        · simp [h, h1]
        · exact absurd h h1
        · simp [h, Int.lt_asymm h, h1]
    · rcases Int.lt_trichotomy x0 y0 with h | h | h
      · simp [h, h0]
      · exact absurd h h0
      · simp [h, Int.lt_asymm h, h0]
  clear HR
  by_cases h0 : x0 = y0
  · subst h0
    by_cases h1 : x1 = y1
    · subst h1
      have HR3 : Hid (r = decide (x2 < y2)) := by show _ = _; rw [HR2.out]; simp
      obtain ⟨d, hd⟩ : ∃ d, decide (x2 < y2) = d := ⟨_, rfl⟩
      go_enter Tryz.func74, Tryz.ntmps74
      go_wp2
      go_ret
      exact ⟨by rw [HR3.out, hd]; rfl, below2 w _ _⟩
    · have HR3 : Hid (r = decide (x1 < y1)) := by show _ = _; rw [HR2.out]; simp [h1]
      obtain ⟨d, hd⟩ : ∃ d, decide (x1 < y1) = d := ⟨_, rfl⟩
      have hn : decide (x1 = y1) = false := decide_eq_false h1
      go_enter Tryz.func74, Tryz.ntmps74
      go_wp2
      go_ret
      exact ⟨by rw [HR3.out, hd]; rfl, below2 w _ _⟩
  · have HR3 : Hid (r = decide (x0 < y0)) := by show _ = _; rw [HR2.out]; simp [h0]
    obtain ⟨d, hd⟩ : ∃ d, decide (x0 < y0) = d := ⟨_, rfl⟩
    have hn : decide (x0 = y0) = false := decide_eq_false h0
    go_enter Tryz.func74, Tryz.ntmps74
    go_wp2
    go_ret
    exact ⟨by rw [HR3.out, hd]; rfl, below2 w _ _⟩

end Go.Proofs.YtbepmeipjdpipaaGreat

namespace Go.Proofs.YtbepmeipjdpipaaGreat
open Go.RowKit

def NfaIn (lo hi : Nat) (w : World) (a b : Option Addr) (l : List Ed) (e : List Bool) : Prop := EdgesIn lo hi w a l ∧ BlsIn lo hi w b e
def NfaOwn (lo hi : Nat) (w : World) (a b : Option Addr) (l : List Ed) (e : List Bool) : Prop := ∃ md, lo ≤ md ∧ md ≤ hi ∧ EdgesOwn lo md w a l ∧ BlsOwn md hi w b e
theorem NfaIn.below {lo hi B : Nat} {w w' : World} {a b : Option Addr} {l : List Ed} {e : List Bool} (h : NfaIn lo hi w a b l e) (hb : Below B w w') (hB : hi ≤ B) : NfaIn lo hi w' a b l e := ⟨h.1.below hb hB, h.2.below hb hB⟩
theorem NfaIn.wide {lo hi lo' hi' : Nat} {w : World} {a b : Option Addr} {l : List Ed} {e : List Bool} (h : NfaIn lo hi w a b l e) (h1 : lo' ≤ lo) (h2 : hi ≤ hi') : NfaIn lo' hi' w a b l e := ⟨h.1.wide h1 h2, h.2.wide h1 h2⟩
theorem NfaIn.kept {lo hi : Nat} {p : Nat → Prop} {w w' : World} {a b : Option Addr} {l : List Ed} {e : List Bool} (h : NfaIn lo hi w a b l e) (hk : KeptP p w w') (hh : hi ≤ w.heap.size) (hp : ∀ k, lo ≤ k → k < hi → ¬ p k) : NfaIn lo hi w' a b l e := ⟨h.1.kept hk hh hp, h.2.kept hk hh hp⟩
theorem NfaOwn.toIn {lo hi : Nat} {w : World} {a b : Option Addr} {l : List Ed} {e : List Bool} (h : NfaOwn lo hi w a b l e) : NfaIn lo hi w a b l e := by
  obtain ⟨md, h1, h2, h3, h4⟩ := h
  exact ⟨h3.toIn.wide (Nat.le_refl _) h2, h4.toIn.wide h1 (Nat.le_refl _)⟩
theorem NfaOwn.below {lo hi B : Nat} {w w' : World} {a b : Option Addr} {l : List Ed} {e : List Bool} (h : NfaOwn lo hi w a b l e) (hb : Below B w w') (hB : hi ≤ B) : NfaOwn lo hi w' a b l e := by
  obtain ⟨md, h1, h2, h3, h4⟩ := h
  exact ⟨md, h1, h2, h3.below hb (by omega), h4.below hb hB⟩
theorem NfaOwn.wide {lo hi lo' hi' : Nat} {w : World} {a b : Option Addr} {l : List Ed} {e : List Bool} (h : NfaOwn lo hi w a b l e) (h1 : lo' ≤ lo) (h2 : hi ≤ hi') : NfaOwn lo' hi' w a b l e := by
  obtain ⟨md, h3, h4, h5, h6⟩ := h
  exact ⟨md, by omega, by omega, h5.wide h1 (Nat.le_refl _), h6.wide (Nat.le_refl _) h2⟩
theorem NfaOwn.kept {lo hi : Nat} {p : Nat → Prop} {w w' : World} {a b : Option Addr} {l : List Ed} {e : List Bool} (h : NfaOwn lo hi w a b l e) (hk : KeptP p w w') (_hh : hi ≤ w.heap.size) (hp : ∀ k, lo ≤ k → k < hi → ¬ p k) : NfaOwn lo hi w' a b l e := by
  obtain ⟨md, h3, h4, h5, h6⟩ := h
  exact ⟨md, h3, h4, h5.kept hk (fun k h1 h2 => hp k h1 (by omega)), h6.kept hk (fun k h1 h2 => hp k (by omega) h2)⟩

end Go.Proofs.YtbepmeipjdpipaaGreat

namespace Go.Proofs.YtbepmeipjdpipaaGreat
open Go.RowKit

theorem arcs_own {B n e : Nat} {w : World} {v : Value} {l : List Ed} (h : w.ownsRow B e 3 v n (ecells l)) (hn : l.length = n) : ∃ a cap, v = .slice a n cap ∧ EdgesOwn B w.heap.size w a l := by
  rcases h.2 with ⟨rfl, h0⟩ | ⟨g, cap, cur, rfl, hg, hb, _⟩
  · exact ⟨none, 0, by rw [h0], .inl (List.length_eq_zero_iff.1 (by omega))⟩
  · refine ⟨_, cap, rfl, .inr ⟨g, rfl, hg, (Array.getElem?_eq_some_iff.1 hb).1, ?_⟩⟩
    unfold EBlk
    rw [hn]
    exact (blk_own h).congr fun i hi => by simp [ecells, List.getD, hn, hi]

set_option maxHeartbeats 4000000 in
set_option maxRecDepth 100000 in
theorem l07Put_any (lo hi : Nat) (a : Option Addr) (n cap : Nat) (l : List Ed) (e : Ed) (w : World) (ha : EdgesIn lo hi w a l) (hh : hi ≤ w.heap.size) (hn : l.length = n) (hm : n ≤ 1048576) :
    Calls Tryz.prog 73 #[.slice a n cap, ev e] w fun r w' => ∃ (a' : Option Addr) (n' cap' : Nat), r = .returned (.slice a' n' cap') ∧ Hid ((putE l e).length = n') ∧ Hid (w'.ownsRow w.heap.size 130 3 (.slice a' n' cap') n' (ecells (putE l e))) ∧ Hid (Below w.heap.size w w') := by
  have HN : Hid (l.length = n) := hn
  have HA : Hid (EdgesIn lo hi w a l) := ha
  have HH : Hid (hi ≤ w.heap.size) := hh
  obtain ⟨i0, hi0, hz0, hz1, hz2⟩ := info_parts Tryz.info130
  clear ha hh hn
  obtain ⟨B, HB⟩ : ∃ B, Hid (B = w.heap.size) := ⟨_, rfl⟩
  obtain ⟨F1, HF1⟩ : ∃ F : Nat → List Ed, Hid (F = fun k => (l.take k).filter (fun x => ltE x e)) := ⟨_, rfl⟩
  obtain ⟨F2, HF2⟩ : ∃ F : Nat → List Ed, Hid (F = fun k => (l.take k).filter (fun x => ltE e x)) := ⟨_, rfl⟩
  have HPUT : Hid (putE l e = F1 n ++ (e :: F2 n)) := by show _ = _; rw [HF1.out, HF2.out, ← HN.out]; simp only [List.take_length]; rfl
  have HL1 : Hid (∀ k, (F1 k).length ≤ k) := by intro k; rw [HF1.out]; exact filter_len l k
  have HL2 : Hid (∀ k, (F2 k).length ≤ k) := by intro k; rw [HF2.out]; exact filter_len l k
  obtain ⟨W0, HW0⟩ : ∃ W0, Hid (W0 = (w.alloc (.cells #[.int .i64 e.1, .int .u8 e.2.1, .int .i64 e.2.2] 130))) := ⟨_, rfl⟩
  have HK0 : Hid (Blk W0 B 3 (fun i => if i = 0 then .int .i64 e.1 else if i = 1 then .int .u8 e.2.1 else .int .i64 e.2.2)) := by rw [HW0.out]; exact blk_three w B HB.out _ _ _ _
  have HBW : Hid (Below w.heap.size w W0) := by rw [HW0.out]; exact below1 w _
  have HSW : Hid (W0.heap.size = B + 1) := by rw [HW0.out, HB.out]; show _ = _; simp
  have HAW : Hid (EdgesIn lo hi W0 a l) := HA.out.below HBW.out HH.out
  have HHW : Hid (hi ≤ W0.heap.size) := Nat.le_trans HH.out HBW.out.size
  have HST1 : Hid (∀ k, k < n → F1 (k + 1) = F1 k ++ (if ltE (eat l k) e = true then [eat l k] else [])) := by intro k hk; rw [HF1.out]; exact filter_step (by rw [HN.out]; exact hk)
  have HST2 : Hid (∀ k, k < n → F2 (k + 1) = F2 k ++ (if ltE e (eat l k) = true then [eat l k] else [])) := by intro k hk; rw [HF2.out]; exact filter_step (p := fun x => ltE e x) (by rw [HN.out]; exact hk)
  have HZ1 : Hid (F1 0 = []) := by rw [HF1.out]; rfl
  have HZ2 : Hid (F2 0 = []) := by rw [HF2.out]; rfl
  clear HF1 HF2
  obtain ⟨e0, e1, e2⟩ := e
  go_enter Tryz.func73, Tryz.ntmps73
  go_wp2
  rw [← HB.out]
  change Hid (W0 = w.alloc (.cells #[.int .i64 e0, .int .u8 e1, .int .i64 e2] 130)) at HW0
  rw [← HW0.out]
  clear HW0
  go_loopw [6, 5] (fun i v wr => ∃ k m : Nat, i = .int .i64 k ∧ k ≤ n ∧ Hid (wr.ownsRow (B + 1) 130 3 v m (ecells (F1 k))) ∧ Hid ((F1 k).length = m) ∧ Hid (Below (B + 1) W0 wr)) (fun i _ _ => n - (intOf i).toNat)
  case atStart =>
    refine ⟨0, 0, rfl, by omega, ?_, by show _ = _; rw [HZ1.out]; rfl, ?_⟩
    · rw [HZ1.out]
      show World.ownsRow _ _ _ _ _ _ []
      have := World.ownsRow_made W0 (base := B + 1) (e := 130) (size := 3) #[] 0 (by rw [HSW.out]; exact Nat.le_refl _) (Nat.zero_le _) rfl
      simpa [HSW.out] using this
    · exact (Below.refl _ _).alloc (by rw [HSW.out]; exact Nat.le_refl _) _
  case round =>
    obtain ⟨k, m, rfl, hk, HO, HM, HL⟩ := hrel
    have HKR : Hid (Blk wr B 3 (fun i => if i = 0 then .int .i64 e0 else if i = 1 then .int .u8 e1 else .int .i64 e2)) := HK0.out.of_block (HL.out.block _ (by omega))
    have hmk : m ≤ k := by rw [← HM.out]; exact HL1.out k
    by_cases hlt : k < n
    · have hlt1 : (k : Int) < (n : Int) := by omega
      have hlt0 : (0 : Int) ≤ (k : Int) := by omega
      have HBR : Hid (EdgesIn lo hi wr a l) := HAW.out.below HL.out (by have := HHW.out; have := HSW.out; omega)
      obtain ⟨b, o, rfl, _, _, hx⟩ := HBR.out.edge (k := k) (by rw [HN.out]; exact hlt)
      obtain ⟨x, HXX⟩ : ∃ x : Ed, Hid (x = eat l k) := ⟨_, rfl⟩
      rw [← HXX.out] at hx
      obtain ⟨q, HQ⟩ : ∃ q : Bool, Hid (q = ltE x (e0, e1, e2)) := ⟨_, rfl⟩
      have HSTEP : Hid (F1 (k + 1) = F1 k ++ (if q = true then [x] else [])) := by show _ = _; rw [HST1.out k hlt, HQ.out, HXX.out]
      obtain ⟨x0, x1, x2⟩ := x
      obtain ⟨p0, p1, p2⟩ := hx
      dsimp only at p0 p1 p2
      obtain ⟨c0, c1, c2⟩ := blk_three_set HKR.out
      have HKS : Hid (∀ w', Below wr.heap.size wr w' → ((w'.cell? ⟨B, 0, none⟩ = some (.int .i64 e0) ∧ w'.cell? ⟨B, 1, none⟩ = some (.int .u8 e1) ∧ w'.cell? ⟨B, 2, none⟩ = some (.int .i64 e2)) ∧ (w'.cell? ⟨b, o + k * 3, none⟩ = some (.int .i64 x0) ∧ w'.cell? ⟨b, o + k * 3 + 1, none⟩ = some (.int .u8 x1) ∧ w'.cell? ⟨b, o + k * 3 + 2, none⟩ = some (.int .i64 x2)))) := fun w' h => ⟨⟨cell_below c0 h (lt_of_cell c0), cell_below c1 h (lt_of_cell c1), cell_below c2 h (lt_of_cell c2)⟩, ⟨cell_below p0 h (lt_of_cell p0), cell_below p1 h (lt_of_cell p1), cell_below p2 h (lt_of_cell p2)⟩⟩
      have HC : Hid (∀ w0, Below wr.heap.size wr w0 → Calls Tryz.prog 74 #[ev (x0, x1, x2), ev (e0, e1, e2)] w0 fun e w' => e = .returned (.bool q) ∧ Hid (Below wr.heap.size wr w') ∧ ((w'.cell? ⟨B, 0, none⟩ = some (.int .i64 e0) ∧ w'.cell? ⟨B, 1, none⟩ = some (.int .u8 e1) ∧ w'.cell? ⟨B, 2, none⟩ = some (.int .i64 e2)) ∧ (w'.cell? ⟨b, o + k * 3, none⟩ = some (.int .i64 x0) ∧ w'.cell? ⟨b, o + k * 3 + 1, none⟩ = some (.int .u8 x1) ∧ w'.cell? ⟨b, o + k * 3 + 2, none⟩ = some (.int .i64 x2)))) := fun w0 h =>
        (specLess_arc _ _ q w0 HQ.out).mono fun _ _ ⟨h1, h2⟩ => have hk := h.trans (h2.out.mono h.size); ⟨h1, hk, HKS.out _ hk⟩
      go_wp2_with fail
      go_region_held3 (fun w' => (w'.cell? ⟨B, 0, none⟩ = some (.int .i64 e0) ∧ w'.cell? ⟨B, 1, none⟩ = some (.int .u8 e1) ∧ w'.cell? ⟨B, 2, none⟩ = some (.int .i64 e2)) ∧ (w'.cell? ⟨b, o + k * 3, none⟩ = some (.int .i64 x0) ∧ w'.cell? ⟨b, o + k * 3 + 1, none⟩ = some (.int .u8 x1) ∧ w'.cell? ⟨b, o + k * 3 + 2, none⟩ = some (.int .i64 x2))) (first | exact ⟨⟨c0, c1, c2⟩, ⟨p0, p1, p2⟩⟩ | exact hk1) (first | (go_at_call 74; refine (HC.out _ ((Below.refl _ _).drew)).mono ?_; rintro e w1 ⟨rfl, HB1, hk1⟩))
      have hszr : B + 1 ≤ wr.heap.size := by have := HL.out.size; have := HSW.out; omega
      have HL1x : Hid (Below (B + 1) W0 w1) := HL.out.trans (HB1.out.mono hszr)
      have HO1x : Hid (w1.ownsRow (B + 1) 130 3 _ m (ecells (F1 k))) := owns_upto HO.out (fun k hk => (HO.out.lt k hk).2) (fun k _ hk => HB1.out.block k hk)
      have hsz1 : B + 1 ≤ w1.heap.size := Nat.le_trans hszr HB1.out.size
      obtain ⟨⟨_, _, _⟩, d0, d1, d2⟩ := hk1
      clear p0 p1 p2 c0 c1 c2 HKS HC
      rcases Bool.eq_false_or_eq_true q with hq | hq
      · subst hq
        obtain ⟨LL, HLL⟩ : ∃ LL, Hid (LL = F1 k) := ⟨_, rfl⟩
        rw [← HLL.out] at HO1x
        have hown := HO1x.out.alloc (.cells #[.int .i64 x0, .int .u8 x1, .int .i64 x2] 130)
        go_wp2_with (at_builtin; refine wpList_append_lies _ rfl (.tmp 21) (.tmp 26) 77 rfl (B + 1) 130 i0 _ 3 24 Tryz.underlying77 hi0 hz0 hz1 hz2 rfl (by decide) _ m (ecells LL) rfl hown ⟨w1.heap.size, 0, none⟩ 1 1 [.int .i64 x0, .int .u8 x1, .int .i64 x2] rfl rfl (news_three w1 _ _ _ _) (by simp [Value.oneCell']) (by decide) (by unfold maxLen; omega) (by omega) (by simp; omega) _ rfl ?_)
        intro g2 cap2 w2 hown2 hgrow2 _ _
        have HL2x : Hid (Below (B + 1) W0 w2) := (HL1x.out.alloc hsz1 _).grown hgrow2 (by simp; omega) (fun k hk => (HO1x.out.lt k hk).1)
        go_wp2
        go_roundw
        case rel =>
          have e9 : F1 (k + 1) = LL ++ [(x0, x1, x2)] := by rw [HLL.out, HSTEP.out]; simp
          refine ⟨k + 1, m + 1, by go_num, by omega, ?_, ?_, HL2x⟩
          · rw [e9, ecells_snoc]; exact hown2
          · show _ = _; rw [e9, List.length_append, HLL.out, HM.out]; rfl
        case measure => simp [intOf]; omega
      · subst hq
        go_wp2
        go_roundw
        case rel =>
          have e9 : F1 (k + 1) = (F1 k) := by rw [HSTEP.out]; simp
          refine ⟨k + 1, m, by go_num, by omega, ?_, ?_, HL1x⟩
          · rw [e9]; exact HO1x.out
          · show _ = _; rw [e9, HM.out]
        case measure => simp [intOf]; omega
    · obtain rfl : k = n := by omega
      obtain ⟨p0, p1, p2⟩ := blk_three_set HKR.out
      have hown := HO.out.alloc (.cells #[.int .i64 e0, .int .u8 e1, .int .i64 e2] 130)
      have hsz : B + 1 ≤ wr.heap.size := by have := HL.out.size; have := HSW.out; omega
      go_wp2_with (at_builtin; refine wpList_append_lies _ rfl (.tmp 28) (.tmp 30) 77 rfl (B + 1) 130 i0 _ 3 24 Tryz.underlying77 hi0 hz0 hz1 hz2 rfl (by decide) _ m (ecells (F1 k)) rfl hown ⟨wr.heap.size, 0, none⟩ 1 1 [.int .i64 e0, .int .u8 e1, .int .i64 e2] rfl rfl (news_three wr _ _ _ _) (by simp [Value.oneCell']) (by decide) (by unfold maxLen; omega) (by omega) (by simp; omega) _ rfl ?_)
      intro g1 cap1 w1 hown1 hgrow1 _ _
      have HO1 : Hid (w1.ownsRow (B + 1) 130 3 (.slice (some ⟨g1, 0, none⟩) (m + 1) cap1) (m + 1) (ecells (F1 k ++ [(e0, e1, e2)]))) := by rw [ecells_snoc]; exact hown1
      have HL1' : Hid (Below (B + 1) W0 w1) := (HL.out.alloc hsz _).grown hgrow1 (by simp; omega) (fun k hk => (HO.out.lt k hk).1)
      clear hown hown1 hgrow1 p0 p1 p2 HO HL
      go_wp2
      go_loopw [7, 5] (fun i v wq => ∃ k2 m2 : Nat, i = .int .i64 k2 ∧ k2 ≤ k ∧ Hid (wq.ownsRow (B + 1) 130 3 v m2 (ecells ((F1 k ++ [(e0, e1, e2)]) ++ F2 k2))) ∧ Hid (((F1 k ++ [(e0, e1, e2)]) ++ F2 k2).length = m2) ∧ Hid (Below (B + 1) W0 wq)) (fun i _ _ => k - (intOf i).toNat)
      case atStart =>
        refine ⟨0, m + 1, rfl, by omega, ?_, by show _ = _; rw [HZ2.out, List.append_nil, List.length_append, HM.out]; rfl, HL1'⟩
        rw [HZ2.out, List.append_nil]; exact HO1.out
      case round =>
        obtain ⟨k2, m2, rfl, hk2, HO, HM2, HL⟩ := hrel
        have HKR : Hid (Blk wr B 3 (fun i => if i = 0 then .int .i64 e0 else if i = 1 then .int .u8 e1 else .int .i64 e2)) := HK0.out.of_block (HL.out.block _ (by omega))
        have hm2 : m2 ≤ m + 1 + k2 := by rw [← HM2.out, List.length_append, List.length_append, HM.out]; have := HL2.out k2; simp; omega
        by_cases hlt : k2 < k
        · have hlt1 : (k2 : Int) < (k : Int) := by omega
          have hlt0 : (0 : Int) ≤ (k2 : Int) := by omega
          have HBR : Hid (EdgesIn lo hi wr a l) := HAW.out.below HL.out (by have := HHW.out; have := HSW.out; omega)
          obtain ⟨b, o, rfl, _, _, hx⟩ := HBR.out.edge (k := k2) (by rw [HN.out]; exact hlt)
          obtain ⟨x, HXX⟩ : ∃ x : Ed, Hid (x = eat l k2) := ⟨_, rfl⟩
          rw [← HXX.out] at hx
          obtain ⟨q, HQ⟩ : ∃ q : Bool, Hid (q = ltE (e0, e1, e2) x) := ⟨_, rfl⟩
          have HSTEP : Hid (F2 (k2 + 1) = F2 k2 ++ (if q = true then [x] else [])) := by show _ = _; rw [HST2.out k2 hlt, HQ.out, HXX.out]
          obtain ⟨x0, x1, x2⟩ := x
          obtain ⟨p0, p1, p2⟩ := hx
          dsimp only at p0 p1 p2
          obtain ⟨c0, c1, c2⟩ := blk_three_set HKR.out
          have HKS : Hid (∀ w', Below wr.heap.size wr w' → ((w'.cell? ⟨B, 0, none⟩ = some (.int .i64 e0) ∧ w'.cell? ⟨B, 1, none⟩ = some (.int .u8 e1) ∧ w'.cell? ⟨B, 2, none⟩ = some (.int .i64 e2)) ∧ (w'.cell? ⟨b, o + k2 * 3, none⟩ = some (.int .i64 x0) ∧ w'.cell? ⟨b, o + k2 * 3 + 1, none⟩ = some (.int .u8 x1) ∧ w'.cell? ⟨b, o + k2 * 3 + 2, none⟩ = some (.int .i64 x2)))) := fun w' h => ⟨⟨cell_below c0 h (lt_of_cell c0), cell_below c1 h (lt_of_cell c1), cell_below c2 h (lt_of_cell c2)⟩, ⟨cell_below p0 h (lt_of_cell p0), cell_below p1 h (lt_of_cell p1), cell_below p2 h (lt_of_cell p2)⟩⟩
          have HC : Hid (∀ w0, Below wr.heap.size wr w0 → Calls Tryz.prog 74 #[ev (e0, e1, e2), ev (x0, x1, x2)] w0 fun e w' => e = .returned (.bool q) ∧ Hid (Below wr.heap.size wr w') ∧ ((w'.cell? ⟨B, 0, none⟩ = some (.int .i64 e0) ∧ w'.cell? ⟨B, 1, none⟩ = some (.int .u8 e1) ∧ w'.cell? ⟨B, 2, none⟩ = some (.int .i64 e2)) ∧ (w'.cell? ⟨b, o + k2 * 3, none⟩ = some (.int .i64 x0) ∧ w'.cell? ⟨b, o + k2 * 3 + 1, none⟩ = some (.int .u8 x1) ∧ w'.cell? ⟨b, o + k2 * 3 + 2, none⟩ = some (.int .i64 x2)))) := fun w0 h =>
            (specLess_arc _ _ q w0 HQ.out).mono fun _ _ ⟨h1, h2⟩ => have hk := h.trans (h2.out.mono h.size); ⟨h1, hk, HKS.out _ hk⟩
          go_wp2_with fail
          go_region_held3 (fun w' => (w'.cell? ⟨B, 0, none⟩ = some (.int .i64 e0) ∧ w'.cell? ⟨B, 1, none⟩ = some (.int .u8 e1) ∧ w'.cell? ⟨B, 2, none⟩ = some (.int .i64 e2)) ∧ (w'.cell? ⟨b, o + k2 * 3, none⟩ = some (.int .i64 x0) ∧ w'.cell? ⟨b, o + k2 * 3 + 1, none⟩ = some (.int .u8 x1) ∧ w'.cell? ⟨b, o + k2 * 3 + 2, none⟩ = some (.int .i64 x2))) (first | exact ⟨⟨c0, c1, c2⟩, ⟨p0, p1, p2⟩⟩ | exact hk1) (first | (go_at_call 74; refine (HC.out _ ((Below.refl _ _).drew)).mono ?_; rintro e w1 ⟨rfl, HB1, hk1⟩))
          have hszr : B + 1 ≤ wr.heap.size := by have := HL.out.size; have := HSW.out; omega
          have HL1x : Hid (Below (B + 1) W0 w1) := HL.out.trans (HB1.out.mono hszr)
          have HO1x : Hid (w1.ownsRow (B + 1) 130 3 _ m2 (ecells ((F1 k ++ [(e0, e1, e2)]) ++ F2 k2))) := owns_upto HO.out (fun k hk => (HO.out.lt k hk).2) (fun k _ hk => HB1.out.block k hk)
          have hsz1 : B + 1 ≤ w1.heap.size := Nat.le_trans hszr HB1.out.size
          obtain ⟨⟨_, _, _⟩, d0, d1, d2⟩ := hk1
          clear p0 p1 p2 c0 c1 c2 HKS HC
          rcases Bool.eq_false_or_eq_true q with hq | hq
          · subst hq
            obtain ⟨LL, HLL⟩ : ∃ LL, Hid (LL = (F1 k ++ [(e0, e1, e2)]) ++ F2 k2) := ⟨_, rfl⟩
            rw [← HLL.out] at HO1x
            have hown := HO1x.out.alloc (.cells #[.int .i64 x0, .int .u8 x1, .int .i64 x2] 130)
            go_wp2_with (at_builtin; refine wpList_append_lies _ rfl (.tmp 44) (.tmp 49) 77 rfl (B + 1) 130 i0 _ 3 24 Tryz.underlying77 hi0 hz0 hz1 hz2 rfl (by decide) _ m2 (ecells LL) rfl hown ⟨w1.heap.size, 0, none⟩ 1 1 [.int .i64 x0, .int .u8 x1, .int .i64 x2] rfl rfl (news_three w1 _ _ _ _) (by simp [Value.oneCell']) (by decide) (by unfold maxLen; omega) (by omega) (by simp; omega) _ rfl ?_)
            intro g2 cap2 w2 hown2 hgrow2 _ _
            have HL2x : Hid (Below (B + 1) W0 w2) := (HL1x.out.alloc hsz1 _).grown hgrow2 (by simp; omega) (fun k hk => (HO1x.out.lt k hk).1)
            go_wp2
            go_roundw
            case rel =>
              have e9 : (F1 k ++ [(e0, e1, e2)]) ++ F2 (k2 + 1) = LL ++ [(x0, x1, x2)] := by rw [HLL.out, HSTEP.out]; simp
              refine ⟨k2 + 1, m2 + 1, by go_num, by omega, ?_, ?_, HL2x⟩
              · rw [e9, ecells_snoc]; exact hown2
              · show _ = _; rw [e9, List.length_append, HLL.out, HM2.out]; rfl
            case measure => simp [intOf]; omega
          · subst hq
            go_wp2
            go_roundw
            case rel =>
              have e9 : (F1 k ++ [(e0, e1, e2)]) ++ F2 (k2 + 1) = ((F1 k ++ [(e0, e1, e2)]) ++ F2 k2) := by rw [HSTEP.out]; simp
              refine ⟨k2 + 1, m2, by go_num, by omega, ?_, ?_, HL1x⟩
              · rw [e9]; exact HO1x.out
              · show _ = _; rw [e9, HM2.out]
            case measure => simp [intOf]; omega
        · obtain rfl : k2 = k := by omega
          have HFIN := HO.out
          rw [List.append_assoc, List.singleton_append, ← HPUT.out] at HFIN
          have HFL : Hid ((putE l (e0, e1, e2)).length = m2) := by have h := HM2.out; rw [List.append_assoc, List.singleton_append, ← HPUT.out] at h; exact h
          obtain ⟨a9, cap9, hv9, _⟩ := arcs_own HFIN HFL.out
          subst hv9
          have HFX : Hid (wr.ownsRow (B + 1) 130 3 (.slice a9 m2 cap9) m2 (ecells (putE l (e0, e1, e2)))) := HFIN
          clear HFIN
          go_wp2
          go_ret
          exact ⟨a9, m2, cap9, rfl, HFL, owns_low HFX.out (by rw [HB.out]; omega), HBW.out.trans (HL.out.mono (by rw [HB.out]; omega))⟩
end Go.Proofs.YtbepmeipjdpipaaGreat

namespace Go.Proofs.YtbepmeipjdpipaaGreat
open Go.RowKit

def lbAt (lb : List Int) (t : Int) : Int := lb.getD (t.toNat - 1) 0
def joinR (lb : List Int) (f : Int) (ts : List Int) (ar : List Ed) : List Ed := ts.foldl (fun a t => putE a (f, lbAt lb t, t)) ar
def joinF (lb : List Int) (fs ts : List Int) (ar : List Ed) : List Ed := fs.foldl (fun a f => joinR lb f ts a) ar
theorem mem_joinR {lb : List Int} {f : Int} {ts : List Int} : ∀ {ar : List Ed} {x : Ed}, x ∈ joinR lb f ts ar ↔ x ∈ ar ∨ ∃ t, t ∈ ts ∧ x = (f, lbAt lb t, t) := by
  induction ts with
  | nil => intro ar x; simp [joinR]
  | cons t ts ih =>
    intro ar x
    show x ∈ joinR lb f ts (putE ar (f, lbAt lb t, t)) ↔ _
    rw [ih, mem_putE]
    constructor
    · rintro ((h | h) | ⟨u, hu, h⟩)
      · exact .inr ⟨t, List.mem_cons_self .., h⟩
      · exact .inl h
      · exact .inr ⟨u, List.mem_cons_of_mem _ hu, h⟩
    · rintro (h | ⟨u, hu, h⟩)
      · exact .inl (.inr h)
      · rcases List.mem_cons.1 hu with rfl | hu
        · exact .inl (.inl h)
        · exact .inr ⟨u, hu, h⟩
theorem mem_joinF {lb : List Int} {fs ts : List Int} : ∀ {ar : List Ed} {x : Ed}, x ∈ joinF lb fs ts ar ↔ x ∈ ar ∨ ∃ f t, f ∈ fs ∧ t ∈ ts ∧ x = (f, lbAt lb t, t) := by
  induction fs with
  | nil => intro ar x; simp [joinF]
  | cons f fs ih =>
    intro ar x
    show x ∈ joinF lb fs ts (joinR lb f ts ar) ↔ _
    rw [ih, mem_joinR]
    constructor
    · rintro ((h | ⟨t, ht, h⟩) | ⟨g, t, hg, ht, h⟩)
      · exact .inl h
      · exact .inr ⟨f, t, List.mem_cons_self .., ht, h⟩
      · exact .inr ⟨g, t, List.mem_cons_of_mem _ hg, ht, h⟩
    · rintro (h | ⟨g, t, hg, ht, h⟩)
      · exact .inl (.inl h)
      · rcases List.mem_cons.1 hg with rfl | hg
        · exact .inl (.inr ⟨t, ht, h⟩)
        · exact .inr ⟨g, t, hg, ht, h⟩
theorem srt_joinR {lb : List Int} {f : Int} {ts : List Int} : ∀ {ar : List Ed}, SrtE ar → SrtE (joinR lb f ts ar) := by
  induction ts with
  | nil => intro ar h; exact h
  | cons t ts ih => intro ar h; exact ih (srt_putE h _)
theorem srt_joinF {lb : List Int} {fs ts : List Int} : ∀ {ar : List Ed}, SrtE ar → SrtE (joinF lb fs ts ar) := by
  induction fs with
  | nil => intro ar h; exact h
  | cons f fs ih => intro ar h; exact ih (srt_joinR h)

structure MkS where
  lb : List Int
  ar : List Ed
  bad : Bool
structure Lk where
  fi : List Int
  la : List Int
  nl : Bool
def stepK (op : Int) (s : MkS) (o y : Lk) : MkS × Lk :=
  if op = 2 then ({ s with ar := joinF s.lb o.la y.fi s.ar }, ⟨if o.nl = true then o.fi ++ y.fi else o.fi, if y.nl = true then o.la ++ y.la else y.la, o.nl && y.nl⟩)
  else if op = 3 then (s, ⟨o.fi ++ y.fi, o.la ++ y.la, o.nl || y.nl⟩)
  else (if op = 6 then s else { s with ar := joinF s.lb y.la y.fi s.ar }, ⟨y.fi, y.la, y.nl || !decide (op = 5)⟩)
def kidsK (lk : Nat → MkS → MkS × Lk) (op : Int) : List Int → MkS → Lk → MkS × Lk
  | [], s, o => (s, o)
  | z :: zs, s, o => if s.bad = true then (s, o) else
    kidsK lk op zs (stepK op (lk z.toNat s).1 o (lk z.toNat s).2).1 (stepK op (lk z.toNat s).1 o (lk z.toNat s).2).2
def lookK (ps : List Pc) : Nat → Nat → MkS → MkS × Lk
  | 0, _, s => (s, ⟨[], [], false⟩)
  | n + 1, z, s => if (pat ps z).1 = 1 then
      ({ s with lb := s.lb ++ [(pat ps z).2.1], bad := s.bad || decide (24 ≤ s.lb.length + 1) }, ⟨[((s.lb.length + 1 : Nat) : Int)], [((s.lb.length + 1 : Nat) : Int)], false⟩)
    else kidsK (lookK ps n) (pat ps z).1 (pat ps z).2.2 s ⟨[], [], decide ((pat ps z).1 = 2)⟩

structure MkOk (s : MkS) : Prop where
  len : s.lb.length ≤ 24
  bad : s.bad = decide (24 ≤ s.lb.length)
  lbl : ∀ x, x ∈ s.lb → 97 ≤ x ∧ x ≤ 100
  srt : SrtE s.ar
  arc : ∀ x, x ∈ s.ar → ∃ f t : Nat, 1 ≤ f ∧ f ≤ s.lb.length ∧ 1 ≤ t ∧ t ≤ s.lb.length ∧ x = ((f : Int), s.lb.getD (t - 1) 0, (t : Int))
def Sts (lo hi : Nat) (l : List Int) : Prop := l.length ≤ hi - lo ∧ ∀ x, x ∈ l → ∃ t : Nat, lo < t ∧ t ≤ hi ∧ x = (t : Int)
theorem Sts.nil (lo hi : Nat) : Sts lo hi [] := ⟨Nat.zero_le _, fun x h => by cases h⟩
theorem Sts.wide {lo hi lo' hi' : Nat} {l : List Int} (h : Sts lo hi l) (h1 : lo' ≤ lo) (h2 : hi ≤ hi') : Sts lo' hi' l :=
  ⟨by have := h.1; omega, fun x hx => by obtain ⟨t, a, b, c⟩ := h.2 x hx; exact ⟨t, by omega, by omega, c⟩⟩
theorem Sts.app {lo mid hi : Nat} {l l' : List Int} (h : Sts lo mid l) (h' : Sts mid hi l') (h1 : lo ≤ mid) (h2 : mid ≤ hi) : Sts lo hi (l ++ l') := by
  refine ⟨by rw [List.length_append]; have := h.1; have := h'.1; omega, fun x hx => ?_⟩
  rcases List.mem_append.1 hx with hx | hx
  · exact (h.wide (Nat.le_refl _) h2).2 x hx
  · exact (h'.wide h1 (Nat.le_refl _)).2 x hx
def Grew (s s' : MkS) : Prop := s.lb.length ≤ s'.lb.length ∧ ∀ i, i < s.lb.length → s'.lb.getD i 0 = s.lb.getD i 0
theorem Grew.refl (s : MkS) : Grew s s := ⟨Nat.le_refl _, fun _ _ => rfl⟩
theorem Grew.trans {a b c : MkS} (h : Grew a b) (k : Grew b c) : Grew a c := ⟨Nat.le_trans h.1 k.1, fun i hi => by rw [k.2 i (Nat.lt_of_lt_of_le hi h.1), h.2 i hi]⟩
theorem MkOk.join {s : MkS} (h : MkOk s) {fs ts : List Int} {lo hi : Nat} (hf : ∀ x, x ∈ fs → ∃ t : Nat, 1 ≤ t ∧ t ≤ s.lb.length ∧ x = (t : Int)) (ht : Sts lo hi ts) (hh : hi ≤ s.lb.length) : MkOk { s with ar := joinF s.lb fs ts s.ar } := by
  refine ⟨h.len, h.bad, h.lbl, srt_joinF h.srt, fun x hx => ?_⟩
  rcases mem_joinF.1 hx with hx | ⟨f, t, hf1, ht1, rfl⟩
  · exact h.arc x hx
  · obtain ⟨a, a1, a2, rfl⟩ := hf f hf1
    obtain ⟨b, b1, b2, rfl⟩ := ht.2 t ht1
    exact ⟨a, b, a1, a2, by omega, Nat.le_trans b2 hh, by unfold lbAt; simp⟩

def cntL (c : Nat → Nat) : List Int → Nat
  | [] => 0
  | z :: zs => c z.toNat + cntL c zs
def cntK (ps : List Pc) : Nat → Nat → Nat
  | 0, _ => 0
  | n + 1, z => if (pat ps z).1 = 1 then 1 else cntL (cntK ps n) (pat ps z).2.2
structure LkOk (s : MkS) (c : Nat) (r : MkS × Lk) : Prop where
  ok : MkOk r.1
  grew : Grew s r.1
  fi : Sts s.lb.length r.1.lb.length r.2.fi
  la : Sts s.lb.length r.1.lb.length r.2.la
  len : r.1.lb.length = min 24 (s.lb.length + c)
theorem Sts.pos {lo hi : Nat} {l : List Int} (h : Sts lo hi l) : ∀ x, x ∈ l → ∃ t : Nat, 1 ≤ t ∧ t ≤ hi ∧ x = (t : Int) := fun x hx => by
  obtain ⟨t, a, b, c⟩ := h.2 x hx
  exact ⟨t, by omega, b, c⟩
theorem stepK_ok {op : Int} {s s1 : MkS} {o y : Lk} {lo c : Nat} (hs : lo ≤ s.lb.length) (hf : Sts lo s.lb.length o.fi) (hl : Sts lo s.lb.length o.la) (h : LkOk s c (s1, y)) :
    MkOk (stepK op s1 o y).1 ∧ (stepK op s1 o y).1.lb = s1.lb ∧ Sts lo s1.lb.length (stepK op s1 o y).2.fi ∧ Sts lo s1.lb.length (stepK op s1 o y).2.la := by
  have hg := h.grew.1
  have h1 := h.ok
  have h2 := h.fi
  have h3 := h.la
  dsimp only at hg h1 h2 h3
  unfold stepK
  by_cases e2 : op = 2
  · rw [if_pos e2]
    refine ⟨h1.join (hl.wide (Nat.le_refl _) hg).pos h2 (Nat.le_refl _), rfl, ?_, ?_⟩
    · dsimp only
      split
      · exact hf.app h2 hs hg
      · exact hf.wide (Nat.le_refl _) hg
    · dsimp only
      split
      · exact hl.app h3 hs hg
      · exact h3.wide hs (Nat.le_refl _)
  · rw [if_neg e2]
    by_cases e3 : op = 3
    · rw [if_pos e3]
      exact ⟨h1, rfl, hf.app h2 hs hg, hl.app h3 hs hg⟩
    · rw [if_neg e3]
      dsimp only
      refine ⟨?_, ?_, h2.wide hs (Nat.le_refl _), h3.wide hs (Nat.le_refl _)⟩
      · split
        · exact h1
        · exact h1.join h3.pos h2 (Nat.le_refl _)
      · split <;> rfl
theorem kidsK_ok {lk : Nat → MkS → MkS × Lk} {ct : Nat → Nat} {op : Int} : ∀ {zs : List Int} {s : MkS} {o : Lk} {lo : Nat}, (∀ z, z ∈ zs → ∀ s, MkOk s → s.bad = false → LkOk s (ct z.toNat) (lk z.toNat s)) → MkOk s → lo ≤ s.lb.length → Sts lo s.lb.length o.fi → Sts lo s.lb.length o.la →
    MkOk (kidsK lk op zs s o).1 ∧ Grew s (kidsK lk op zs s o).1 ∧ Sts lo (kidsK lk op zs s o).1.lb.length (kidsK lk op zs s o).2.fi ∧ Sts lo (kidsK lk op zs s o).1.lb.length (kidsK lk op zs s o).2.la ∧ (kidsK lk op zs s o).1.lb.length = min 24 (s.lb.length + cntL ct zs)
  | [], s, o, lo, _, hs, hlo, hf, hl => ⟨hs, Grew.refl s, hf, hl, by show s.lb.length = min 24 (s.lb.length + 0); have := hs.len; omega⟩
  | z :: zs, s, o, lo, hk, hs, hlo, hf, hl => by
    unfold kidsK
    by_cases hb : s.bad = true
    · rw [if_pos hb]
      have h24 : 24 ≤ s.lb.length := by have := hs.bad; rw [hb] at this; exact of_decide_eq_true this.symm
      exact ⟨hs, Grew.refl s, hf, hl, by show s.lb.length = _; have := hs.len; omega⟩
    · rw [if_neg hb]
      have h0 := hk z (List.mem_cons_self ..) s hs (by simpa using hb)
      obtain ⟨g1, g2, g3, g4⟩ := stepK_ok (op := op) hlo hf hl h0
      have hle := h0.grew.1
      have hlen := h0.len
      have ih := kidsK_ok (lk := lk) (ct := ct) (op := op) (zs := zs) (lo := lo) (fun z hz => hk z (List.mem_cons_of_mem _ hz)) g1 (by rw [g2]; omega) (by rw [g2]; exact g3) (by rw [g2]; exact g4)
      obtain ⟨i1, i2, i3, i4, i5⟩ := ih
      refine ⟨i1, Grew.trans ⟨by rw [g2]; exact hle, fun i hi => by rw [g2]; exact h0.grew.2 i hi⟩ i2, i3, i4, ?_⟩
      rw [i5, g2, hlen]
      show _ = min 24 (s.lb.length + (ct z.toNat + cntL ct zs))
      omega
theorem lookK_ok (ps : List Pc) (hok : ∀ i, i < ps.length → formOk (pat ps i) = true ∧ kidsOk i (pat ps i).2.2 = true) : ∀ (n z : Nat), z < n → z < ps.length → ∀ s, MkOk s → s.bad = false → LkOk s (cntK ps n z) (lookK ps n z s) := by
  intro n
  induction n with
  | zero => intro z h; omega
  | succ n ih =>
    intro z hz hzl s hs hb
    have hlt : s.lb.length < 24 := by have := hs.bad; rw [hb] at this; have := of_decide_eq_false this.symm; omega
    unfold lookK cntK
    by_cases e : (pat ps z).1 = 1
    · rw [if_pos e, if_pos e]
      have hlab : 97 ≤ (pat ps z).2.1 ∧ (pat ps z).2.1 ≤ 100 := by
        have h1 := (hok z hzl).1
        unfold formOk at h1
        rw [if_pos e] at h1
        simp only [Bool.and_eq_true] at h1
        exact isL_yes h1.1
      have hle : (s.lb ++ [(pat ps z).2.1]).length = s.lb.length + 1 := by simp
      have hget : ∀ i, i < s.lb.length → (s.lb ++ [(pat ps z).2.1]).getD i 0 = s.lb.getD i 0 := fun i hi => by simp [List.getD, List.getElem?_append_left hi]
      have hst : Sts s.lb.length (s.lb.length + 1) [((s.lb.length + 1 : Nat) : Int)] := ⟨by simp, fun x hx => ⟨s.lb.length + 1, by omega, by omega, by simpa using hx⟩⟩
      refine ⟨⟨by dsimp only; omega, by dsimp only; rw [hb, hle]; rfl, fun x hx => ?_, hs.srt, fun x hx => ?_⟩, ⟨by dsimp only; omega, hget⟩, by dsimp only; rw [hle]; exact hst, by dsimp only; rw [hle]; exact hst, by dsimp only; rw [hle]; omega⟩
      · rcases List.mem_append.1 hx with h | h
        · exact hs.lbl x h
        · have : x = (pat ps z).2.1 := by simpa using h
          rw [this]; exact hlab
      · obtain ⟨f, t, a1, a2, a3, a4, a5⟩ := hs.arc x hx
        dsimp only
        exact ⟨f, t, a1, by omega, a3, by omega, by rw [hget _ (by omega)]; exact a5⟩
    · rw [if_neg e, if_neg e]
      have hk : ∀ k, k ∈ (pat ps z).2.2 → ∀ s, MkOk s → s.bad = false → LkOk s (cntK ps n k.toNat) (lookK ps n k.toNat s) := fun k hk s h1 h2 => by
        have h3 := List.all_eq_true.1 (hok z hzl).2 k hk
        simp only [Bool.and_eq_true, decide_eq_true_eq] at h3
        exact ih k.toNat (by omega) (by omega) s h1 h2
      obtain ⟨i1, i2, i3, i4, i5⟩ := kidsK_ok (op := (pat ps z).1) (o := ⟨[], [], decide ((pat ps z).1 = 2)⟩) hk hs (Nat.le_refl _) (Sts.nil _ _) (Sts.nil _ _)
      exact ⟨i1, i2, i3, i4, i5⟩
end Go.Proofs.YtbepmeipjdpipaaGreat

namespace Go.Proofs.YtbepmeipjdpipaaGreat
open Go.RowKit

structure SeS where
  lb : List Int
  bh : Nat → Nat → Bool
structure SeK where
  fi : Nat → Bool
  la : Nat → Bool
  nl : Bool
def orB (f g : Nat → Bool) : Nat → Bool := fun i => f i || g i
def followB (bh : Nat → Nat → Bool) (la fi : Nat → Bool) : Nat → Nat → Bool := fun a b => bh a b || (la a && fi b)
def stepB (op : Int) (t : SeS) (c y : SeK) : SeS × SeK :=
  if op = 2 then ({ t with bh := followB t.bh c.la y.fi }, ⟨if c.nl = true then orB c.fi y.fi else c.fi, if y.nl = true then orB y.la c.la else y.la, c.nl && y.nl⟩)
  else if op = 3 then (t, ⟨orB c.fi y.fi, orB c.la y.la, c.nl || y.nl⟩)
  else (if op = 6 then t else { t with bh := followB t.bh y.la y.fi }, ⟨y.fi, y.la, y.nl || !decide (op = 5)⟩)
def kidsB (sk : Nat → SeS → SeS × SeK) (op : Int) : List Int → SeS → SeK → SeS × SeK
  | [], t, c => (t, c)
  | z :: zs, t, c => kidsB sk op zs (stepB op (sk z.toNat t).1 c (sk z.toNat t).2).1 (stepB op (sk z.toNat t).1 c (sk z.toNat t).2).2
def oneB (n : Nat) : Nat → Bool := fun i => decide (i = n)
def noneB : Nat → Bool := fun _ => false
def seatB (ps : List Pc) : Nat → Nat → SeS → SeS × SeK
  | 0, _, t => (t, ⟨noneB, noneB, false⟩)
  | n + 1, z, t => if (pat ps z).1 = 1 then ({ t with lb := t.lb ++ [(pat ps z).2.1] }, ⟨oneB (t.lb.length + 1), oneB (t.lb.length + 1), false⟩)
    else kidsB (seatB ps n) (pat ps z).1 (pat ps z).2.2 t ⟨noneB, noneB, decide ((pat ps z).1 = 2)⟩
def TieS (s : MkS) (t : SeS) : Prop := t.lb = s.lb ∧ ∀ a b : Nat, t.bh a b = true ↔ ∃ l, ((a : Int), l, (b : Int)) ∈ s.ar
def TieR (f : Nat → Bool) (l : List Int) : Prop := ∀ i : Nat, f i = true ↔ (i : Int) ∈ l
def TieK (o : Lk) (c : SeK) : Prop := TieR c.fi o.fi ∧ TieR c.la o.la ∧ c.nl = o.nl
theorem TieR.or {f g : Nat → Bool} {l k : List Int} (h : TieR f l) (h' : TieR g k) : TieR (orB f g) (l ++ k) := fun i => by
  unfold orB
  rw [Bool.or_eq_true, h i, h' i, List.mem_append]
theorem TieR.or' {f g : Nat → Bool} {l k : List Int} (h : TieR f l) (h' : TieR g k) : TieR (orB g f) (l ++ k) := fun i => by
  unfold orB
  rw [Bool.or_eq_true, h i, h' i, List.mem_append]
  exact Or.comm
theorem TieR.no : TieR noneB [] := fun i => by simp [noneB]
theorem tie_join {s : MkS} {t : SeS} {la fi : Nat → Bool} {fs ts : List Int} (h : TieS s t) (hf : TieR la fs) (ht : TieR fi ts) : TieS { s with ar := joinF s.lb fs ts s.ar } { t with bh := followB t.bh la fi } := by
  refine ⟨h.1, fun a b => ?_⟩
  show (t.bh a b || (la a && fi b)) = true ↔ _
  rw [Bool.or_eq_true, Bool.and_eq_true, h.2 a b, hf a, ht b]
  constructor
  · rintro (⟨l, hl⟩ | ⟨h1, h2⟩)
    · exact ⟨l, mem_joinF.2 (.inl hl)⟩
    · exact ⟨lbAt s.lb b, mem_joinF.2 (.inr ⟨a, b, h1, h2, rfl⟩)⟩
  · rintro ⟨l, hl⟩
    rcases mem_joinF.1 hl with hl | ⟨f, u, h1, h2, e⟩
    · exact .inl ⟨l, hl⟩
    · simp only [Prod.mk.injEq] at e
      obtain ⟨rfl, _, rfl⟩ := e
      exact .inr ⟨h1, h2⟩
theorem tie_step {op : Int} {s : MkS} {t : SeS} {o y : Lk} {c d : SeK} (h : TieS s t) (hc : TieK o c) (hd : TieK y d) : TieS (stepK op s o y).1 (stepB op t c d).1 ∧ TieK (stepK op s o y).2 (stepB op t c d).2 := by
  obtain ⟨c1, c2, c3⟩ := hc
  obtain ⟨d1, d2, d3⟩ := hd
  unfold stepK stepB
  by_cases e2 : op = 2
  · rw [if_pos e2, if_pos e2]
    refine ⟨tie_join h c2 d1, ?_, ?_, ?_⟩
    · dsimp only
      rw [c3]
      split
      · exact c1.or d1
      · exact c1
    · dsimp only
      rw [d3]
      split
      · exact c2.or' d2
      · exact d2
    · dsimp only
      rw [c3, d3]
  · rw [if_neg e2, if_neg e2]
    by_cases e3 : op = 3
    · rw [if_pos e3, if_pos e3]
      exact ⟨h, c1.or d1, c2.or d2, by dsimp only; rw [c3, d3]⟩
    · rw [if_neg e3, if_neg e3]
      refine ⟨?_, d1, d2, by dsimp only; rw [d3]⟩
      by_cases e6 : op = 6
      · rw [if_pos e6, if_pos e6]; exact h
      · rw [if_neg e6, if_neg e6]; exact tie_join h d2 d1
theorem tie_kids {lk : Nat → MkS → MkS × Lk} {sk : Nat → SeS → SeS × SeK} {ct : Nat → Nat} {op : Int} : ∀ {zs : List Int} {s : MkS} {t : SeS} {o : Lk} {c : SeK} {lo : Nat},
    (∀ z, z ∈ zs → ∀ s, MkOk s → s.bad = false → LkOk s (ct z.toNat) (lk z.toNat s)) →
    (∀ z, z ∈ zs → ∀ s t, MkOk s → s.bad = false → s.lb.length + ct z.toNat < 24 → TieS s t → TieS (lk z.toNat s).1 (sk z.toNat t).1 ∧ TieK (lk z.toNat s).2 (sk z.toNat t).2) →
    MkOk s → lo ≤ s.lb.length → Sts lo s.lb.length o.fi → Sts lo s.lb.length o.la → s.lb.length + cntL ct zs < 24 → TieS s t → TieK o c →
    TieS (kidsK lk op zs s o).1 (kidsB sk op zs t c).1 ∧ TieK (kidsK lk op zs s o).2 (kidsB sk op zs t c).2
  | [], s, t, o, c, lo, _, _, _, _, _, _, _, h1, h2 => ⟨h1, h2⟩
  | z :: zs, s, t, o, c, lo, hk, ht, hs, hlo, hf, hl, hn, h1, h2 => by
    have hn' : s.lb.length + (ct z.toNat + cntL ct zs) < 24 := hn
    have hb : s.bad = false := by rw [hs.bad]; exact decide_eq_false (by omega)
    have h0 := hk z (List.mem_cons_self ..) s hs hb
    obtain ⟨t1, t2⟩ := ht z (List.mem_cons_self ..) s t hs hb (by omega) h1
    obtain ⟨g1, g2, g3, g4⟩ := stepK_ok (op := op) hlo hf hl h0
    obtain ⟨u1, u2⟩ := tie_step (op := op) t1 h2 t2
    have hlen := h0.len
    unfold kidsK kidsB
    rw [if_neg (by rw [hb]; simp)]
    exact tie_kids (lo := lo) (fun z hz => hk z (List.mem_cons_of_mem _ hz)) (fun z hz => ht z (List.mem_cons_of_mem _ hz)) g1 (by rw [g2]; omega) (by rw [g2]; exact g3) (by rw [g2]; exact g4) (by rw [g2]; omega) u1 u2
theorem tie_look (ps : List Pc) (hok : ∀ i, i < ps.length → formOk (pat ps i) = true ∧ kidsOk i (pat ps i).2.2 = true) : ∀ (n z : Nat), z < n → z < ps.length → ∀ s t, MkOk s → s.bad = false → s.lb.length + cntK ps n z < 24 → TieS s t → TieS (lookK ps n z s).1 (seatB ps n z t).1 ∧ TieK (lookK ps n z s).2 (seatB ps n z t).2 := by
  intro n
  induction n with
  | zero => intro z h; omega
  | succ n ih =>
    intro z hz hzl s t hs hb hc ht
    unfold lookK seatB
    unfold cntK at hc
    by_cases e : (pat ps z).1 = 1
    · rw [if_pos e, if_pos e]
      rw [ht.1]
      refine ⟨⟨rfl, ht.2⟩, ?_, ?_, rfl⟩
      all_goals
        intro i
        simp only [oneB, decide_eq_true_eq, List.mem_singleton]
        omega
    · rw [if_neg e, if_neg e]
      rw [if_neg e] at hc
      have hlt : ∀ k, k ∈ (pat ps z).2.2 → k.toNat < n ∧ k.toNat < ps.length := fun k hk => by
        have h3 := List.all_eq_true.1 (hok z hzl).2 k hk
        simp only [Bool.and_eq_true, decide_eq_true_eq] at h3
        omega
      exact tie_kids (ct := cntK ps n) (lo := s.lb.length) (fun k hk s h1 h2 => lookK_ok ps hok n k.toNat (hlt k hk).1 (hlt k hk).2 s h1 h2) (fun k hk s t h1 h2 h3 h4 => ih k.toNat (hlt k hk).1 (hlt k hk).2 s t h1 h2 h3 h4) hs (Nat.le_refl _) (Sts.nil _ _) (Sts.nil _ _) hc ht ⟨TieR.no, TieR.no, rfl⟩
end Go.Proofs.YtbepmeipjdpipaaGreat
