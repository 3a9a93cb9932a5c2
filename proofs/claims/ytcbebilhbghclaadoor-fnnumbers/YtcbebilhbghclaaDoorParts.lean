/-
  PartsOf of both packages.
-/
import Derived.Test.YtcbebilhbghclaaDoorMark
import Derived.Test.YtcbebilhbghclaaDoorShelfF
import Derived.Lib.Fields
namespace Go.Proofs.YtcbebilhbghclaaDoor
open Go.RowKit

/-- bytes as a text -/
def tx (l : List UInt8) : ByteArray := ⟨l.toArray⟩
/-- a byte that a line may have -/
def okB (c : UInt8) : Prop := 32 ≤ c.toNat ∧ c.toNat ≤ 126
/-- the parts of a line, as texts -/
def partsL (s : ByteArray) : List ByteArray := (Lib.fields s.data.toList).map tx
structure isLine (s : ByteArray) : Prop where
  short : s.size ≤ 600
  shown : ∀ c ∈ s.data.toList, okB c
  few : (Lib.fields s.data.toList).length ≤ 10

theorem isSp_blank {c : UInt8} (h : okB c) : Lib.isSp c = true ↔ c.toNat = 32 := by
  unfold okB at h
  unfold Lib.isSp
  constructor
  · intro e
    simp only [Bool.or_eq_true, beq_iff_eq] at e
    rcases e with ((((e | e) | e) | e) | e) | e <;> subst e <;> simp at h ⊢
  · intro e
    have : c = 32 := UInt8.toNat_inj.1 e
    subst this
    rfl

theorem go_blank_empty {l : List UInt8} {i : Nat} (h : i < l.length) (hs : Lib.isSp l[i] = true) : Lib.fieldsGo [] (l.drop i) = Lib.fieldsGo [] (l.drop (i + 1)) := by
  rw [List.drop_eq_getElem_cons h]
  simp [Lib.fieldsGo, hs]
theorem go_blank {l cur : List UInt8} {i : Nat} (h : i < l.length) (hs : Lib.isSp l[i] = true) (hc : cur ≠ []) : Lib.fieldsGo cur (l.drop i) = cur :: Lib.fieldsGo [] (l.drop (i + 1)) := by
  rw [List.drop_eq_getElem_cons h]
  cases cur with
  | nil => exact absurd rfl hc
  | cons a b => simp [Lib.fieldsGo, hs]
theorem go_on {l cur : List UInt8} {i : Nat} (h : i < l.length) (hs : Lib.isSp l[i] = false) : Lib.fieldsGo cur (l.drop i) = Lib.fieldsGo (cur ++ [l[i]]) (l.drop (i + 1)) := by
  rw [List.drop_eq_getElem_cons h]
  simp [Lib.fieldsGo, hs]

/-- the piece from b to i -/
def piece (s : ByteArray) (b i : Nat) : List UInt8 := (s.data.toList.drop b).take (i - b)
theorem piece_next (s : ByteArray) (b i : Nat) (hb : b ≤ i) (h : i < s.size) : piece s b (i + 1) = piece s b i ++ [s[i]] := by
  unfold piece
  have hs : s.data.size = s.size := rfl
  have hl : i - b < (s.data.toList.drop b).length := by simp; omega
  rw [show i + 1 - b = i - b + 1 by omega, List.take_succ_eq_append_getElem hl]
  have e : (s.data.toList.drop b)[i - b] = s.data.toList[b + (i - b)]'(by simp; omega) := by simp
  rw [e]
  simp only [show b + (i - b) = i by omega]
  rfl
theorem piece_nil (s : ByteArray) (i : Nat) : piece s i i = [] := by simp [piece]
theorem piece_ne (s : ByteArray) (b i : Nat) (hb : b < i) (h : i ≤ s.size) : piece s b i ≠ [] := by
  intro e
  have := congrArg List.length e
  have hs : s.data.size = s.size := rfl
  simp [piece] at this
  omega
theorem piece_text (s : ByteArray) (b i : Nat) : s.extract b i = tx (piece s b i) := by
  apply ByteArray.ext
  apply Array.toList_inj.1
  rw [Lib.extract_data]
  rfl

/-- at the head of each round of the model, at the place i, b the beginning -/
structure PAt (w : World) (s : ByteArray) (b i : Nat) (v : Value) (n : Nat) (l : List (List UInt8)) (wr : World) : Prop where
  le : i ≤ s.size
  beg : b ≤ i
  cnt : n ≤ i
  own : wr.ownsRow w.heap.size 9 1 v n ((l.map tx).map tv)
  rel : l ++ Lib.fieldsGo (piece s b i) (s.data.toList.drop i) = Lib.fields s.data.toList
  shown : ∀ c ∈ s.data.toList.take i, okB c
  bel : Below w.heap.size w wr
/-- behind the last round -/
structure PEnd (w : World) (s : ByteArray) (v : Value) (n : Nat) (wr : World) : Prop where
  own : wr.ownsRow w.heap.size 9 1 v n ((partsL s).map tv)
  shown : ∀ c ∈ s.data.toList, okB c
  bel : Below w.heap.size w wr

theorem PAt.shown_next {w wr : World} {s : ByteArray} {b i n : Nat} {v : Value} {l : List (List UInt8)} (h : PAt w s b i v n l wr) (hlt : i < s.size) (hc : okB s[i]) : ∀ c ∈ s.data.toList.take (i + 1), okB c := by
  have hl : i < s.data.toList.length := by have : s.data.size = s.size := rfl; simp; omega
  rw [List.take_succ_eq_append_getElem hl]
  intro c hc'
  rcases List.mem_append.1 hc' with hc' | hc'
  · exact h.shown c hc'
  · simp at hc'; subst hc'; exact hc
/-- a byte that is no blank -/
theorem PAt.letter {w wr : World} {s : ByteArray} {b i n : Nat} {v : Value} {l : List (List UInt8)} (h : PAt w s b i v n l wr) (hlt : i < s.size) (hc : okB s[i]) (hne : s[i].toNat ≠ 32) : PAt w s b (i + 1) v n l wr := by
  have hl : i < s.data.toList.length := by have : s.data.size = s.size := rfl; simp; omega
  refine ⟨by omega, by have := h.beg; omega, by have := h.cnt; omega, h.own, ?_, h.shown_next hlt hc, h.bel⟩
  have hsp : Lib.isSp s.data.toList[i] = false := by
    cases he : Lib.isSp s.data.toList[i] with
    | false => rfl
    | true => exact absurd ((isSp_blank hc).1 he) hne
  rw [← h.rel, go_on hl hsp, piece_next s b i h.beg hlt]
  rfl
/-- a blank behind a blank -/
theorem PAt.blank {w wr : World} {s : ByteArray} {i n : Nat} {v : Value} {l : List (List UInt8)} (h : PAt w s i i v n l wr) (hlt : i < s.size) (hc : okB s[i]) (hne : s[i].toNat = 32) : PAt w s (i + 1) (i + 1) v n l wr := by
  have hl : i < s.data.toList.length := by have : s.data.size = s.size := rfl; simp; omega
  refine ⟨by omega, by omega, by have := h.cnt; omega, h.own, ?_, h.shown_next hlt hc, h.bel⟩
  have hsp : Lib.isSp s.data.toList[i] = true := (isSp_blank hc).2 hne
  rw [← h.rel, piece_nil, piece_nil, go_blank_empty hl hsp]
/-- a blank behind a part -/
theorem PAt.part {w wr w1 : World} {s : ByteArray} {b i n : Nat} {v v1 : Value} {l : List (List UInt8)} {o : Obj} (h : PAt w s b i v n l wr) (hb : b < i) (hlt : i < s.size) (hc : okB s[i]) (hne : s[i].toNat = 32)
    (ho : w1.ownsRow w.heap.size 9 1 v1 (n + 1) ((l.map tx).map tv ++ [.string (s.extract b i)])) (hg : (wr.alloc o).grownBy w1 v.ownBlock) : PAt w s (i + 1) (i + 1) v1 (n + 1) (l ++ [piece s b i]) w1 := by
  have hl : i < s.data.toList.length := by have : s.data.size = s.size := rfl; simp; omega
  refine ⟨by omega, by omega, by have := h.cnt; omega, ?_, ?_, h.shown_next hlt hc, ?_⟩
  · rw [piece_text] at ho
    simpa [tv] using ho
  · have hsp : Lib.isSp s.data.toList[i] = true := (isSp_blank hc).2 hne
    rw [← h.rel, piece_nil, go_blank hl hsp (piece_ne s b i hb h.le)]
    simp
  · exact (h.bel.alloc h.bel.size o).grown hg (by have := h.bel.size; simp; omega) fun j hj => (h.own.lt j hj).1
/-- the end, without a part -/
theorem PAt.end_none {w wr : World} {s : ByteArray} {i n : Nat} {v : Value} {l : List (List UInt8)} (h : PAt w s i i v n l wr) (hlt : ¬ i < s.size) : PEnd w s v n wr := by
  have hs : s.data.size = s.size := rfl
  refine ⟨?_, ?_, h.bel⟩
  · have := h.rel
    rw [List.drop_of_length_le (by simp; omega), piece_nil] at this
    simp [Lib.fieldsGo] at this
    unfold partsL
    rw [← this]
    exact h.own
  · have := h.shown
    rw [List.take_of_length_le (by simp; omega)] at this
    exact this
/-- the end, with a part -/
theorem PAt.end_part {w wr w1 : World} {s : ByteArray} {b i n : Nat} {v v1 : Value} {l : List (List UInt8)} {o : Obj} (h : PAt w s b i v n l wr) (hb : b < i) (hlt : ¬ i < s.size)
    (ho : w1.ownsRow w.heap.size 9 1 v1 (n + 1) ((l.map tx).map tv ++ [.string (s.extract b i)])) (hg : (wr.alloc o).grownBy w1 v.ownBlock) : PEnd w s v1 (n + 1) w1 := by
  have hs : s.data.size = s.size := rfl
  refine ⟨?_, ?_, ?_⟩
  · have := h.rel
    rw [List.drop_of_length_le (by simp; omega)] at this
    have hne := piece_ne s b i hb h.le
    have e : Lib.fieldsGo (piece s b i) [] = [piece s b i] := by
      cases hp : piece s b i with
      | nil => exact absurd hp hne
      | cons x y => simp [Lib.fieldsGo]
    rw [e] at this
    unfold partsL
    rw [← this]
    rw [piece_text] at ho
    simpa [tv] using ho
  · have := h.shown
    rw [List.take_of_length_le (by simp; omega)] at this
    exact this
  · exact (h.bel.alloc h.bel.size o).grown hg (by have := h.bel.size; simp; omega) fun j hj => (h.own.lt j hj).1

end Go.Proofs.YtcbebilhbghclaaDoor
