/-
  Lists whose elements are a row of one-cell values (texts; atoms and filters of questions): how one lies in the world, one that is owned.
-/
import Derived.Test.YtkcflhlipdnbnaaRowD
import Derived.Test.YtkcflhlipdnbnaaEdB
import Derived.Laws.MakeOwn
import Derived.Lib.Strings
import Derived.WideShapes
namespace Go.Proofs.Ytkcflhlipdnbnaa
open Go.RowKit

/-- n elements of s cells that are reached by a slice; their block is one of lo .. hi - 1 -/
def FlIn (s lo hi : Nat) (w : World) (a : Option Addr) (n : Nat) (c : Nat → Value) : Prop :=
  n = 0 ∨ ∃ b o, a = some ⟨b, o, none⟩ ∧ lo ≤ b ∧ b < hi ∧ ∀ j, j < n * s → w.cell? ⟨b, o + j, none⟩ = some (c j)
/-- owned: their block is their own -/
def FlOwn (s lo hi : Nat) (w : World) (a : Option Addr) (n : Nat) (c : Nat → Value) : Prop :=
  n = 0 ∨ ∃ b, a = some ⟨b, 0, none⟩ ∧ lo ≤ b ∧ b < hi ∧ Blk w b (n * s) c
theorem FlIn.below {s lo hi B n : Nat} {w w' : World} {a : Option Addr} {c : Nat → Value} (h : FlIn s lo hi w a n c) (hb : Below B w w') (hB : hi ≤ B) : FlIn s lo hi w' a n c := by
  rcases h with h | ⟨b, o, e, h1, h2, h3⟩
  · exact .inl h
  · exact .inr ⟨b, o, e, h1, h2, fun j hj => cell_below (h3 j hj) hb (by omega)⟩
theorem FlIn.wide {s lo hi lo' hi' n : Nat} {w : World} {a : Option Addr} {c : Nat → Value} (h : FlIn s lo hi w a n c) (h1 : lo' ≤ lo) (h2 : hi ≤ hi') : FlIn s lo' hi' w a n c := by
  rcases h with h | ⟨b, o, e, h3, h4, h5⟩
  · exact .inl h
  · exact .inr ⟨b, o, e, by omega, by omega, h5⟩
theorem FlIn.kept {s lo hi n : Nat} {p : Nat → Prop} {w w' : World} {a : Option Addr} {c : Nat → Value} (h : FlIn s lo hi w a n c) (hk : KeptP p w w') (hh : hi ≤ w.heap.size) (hp : ∀ k, lo ≤ k → k < hi → ¬ p k) : FlIn s lo hi w' a n c := by
  rcases h with h | ⟨b, o, e, h1, h2, h3⟩
  · exact .inl h
  · exact .inr ⟨b, o, e, h1, h2, fun j hj => hk.cell (h3 j hj) (by omega) (hp b h1 h2)⟩
/-- an element's cells -/
theorem FlIn.at {s lo hi n k : Nat} {w : World} {a : Option Addr} {c : Nat → Value} (h : FlIn s lo hi w a n c) (hk : k < n) : ∃ b o, a = some ⟨b, o, none⟩ ∧ lo ≤ b ∧ b < hi ∧ ∀ i, i < s → w.cell? ⟨b, o + (k * s + i), none⟩ = some (c (k * s + i)) := by
  rcases h with h | ⟨b, o, e, h1, h2, h3⟩
  · omega
  · refine ⟨b, o, e, h1, h2, fun i hi => h3 _ ?_⟩
    have : (k + 1) * s ≤ n * s := Nat.mul_le_mul_right s (by omega)
    rw [Nat.add_mul, Nat.one_mul] at this
    omega
theorem FlIn.congr {s lo hi n : Nat} {w : World} {a : Option Addr} {c c' : Nat → Value} (h : FlIn s lo hi w a n c) (e : ∀ j, j < n * s → c j = c' j) : FlIn s lo hi w a n c' := by
  rcases h with h | ⟨b, o, e0, h1, h2, h3⟩
  · exact .inl h
  · exact .inr ⟨b, o, e0, h1, h2, fun j hj => by rw [h3 j hj, e j hj]⟩
theorem FlOwn.toIn {s lo hi n : Nat} {w : World} {a : Option Addr} {c : Nat → Value} (h : FlOwn s lo hi w a n c) : FlIn s lo hi w a n c := by
  rcases h with h | ⟨b, e, h1, h2, h3⟩
  · exact .inl h
  · exact .inr ⟨b, 0, e, h1, h2, fun j hj => by rw [Nat.zero_add]; exact h3.cell hj⟩
theorem FlOwn.below {s lo hi B n : Nat} {w w' : World} {a : Option Addr} {c : Nat → Value} (h : FlOwn s lo hi w a n c) (hb : Below B w w') (hB : hi ≤ B) : FlOwn s lo hi w' a n c := by
  rcases h with h | ⟨b, e, h1, h2, h3⟩
  · exact .inl h
  · exact .inr ⟨b, e, h1, h2, h3.of_block (hb.block b (by omega))⟩
theorem FlOwn.wide {s lo hi lo' hi' n : Nat} {w : World} {a : Option Addr} {c : Nat → Value} (h : FlOwn s lo hi w a n c) (h1 : lo' ≤ lo) (h2 : hi ≤ hi') : FlOwn s lo' hi' w a n c := by
  rcases h with h | ⟨b, e, h3, h4, h5⟩
  · exact .inl h
  · exact .inr ⟨b, e, by omega, by omega, h5⟩
theorem FlOwn.kept {s lo hi n : Nat} {p : Nat → Prop} {w w' : World} {a : Option Addr} {c : Nat → Value} (h : FlOwn s lo hi w a n c) (hk : KeptP p w w') (hp : ∀ k, lo ≤ k → k < hi → ¬ p k) : FlOwn s lo hi w' a n c := by
  rcases h with h | ⟨b, e, h1, h2, h3⟩
  · exact .inl h
  · exact .inr ⟨b, e, h1, h2, hk.blk h3 (hp b h1 h2)⟩
theorem FlOwn.setCell {s lo hi b j n : Nat} {w : World} {a : Option Addr} {c : Nat → Value} (h : FlOwn s lo hi w a n c) (hb : b < lo) (v : Value) : FlOwn s lo hi (w.setCell ⟨b, j, none⟩ v) a n c := by
  rcases h with h | ⟨g, e, h1, h2, h3⟩
  · exact .inl h
  · exact .inr ⟨g, e, h1, h2, h3.of_block (Below.heap_setCell w ⟨b, j, none⟩ v g (by simp; omega))⟩
theorem FlIn.setCell {s lo hi b j n : Nat} {w : World} {a : Option Addr} {c : Nat → Value} (h : FlIn s lo hi w a n c) (hb : b < lo) (v : Value) : FlIn s lo hi (w.setCell ⟨b, j, none⟩ v) a n c := by
  rcases h with h | ⟨g, o, e, h1, h2, h3⟩
  · exact .inl h
  · exact .inr ⟨g, o, e, h1, h2, fun i hi => by rw [← h3 i hi]; exact World.cell?_of_block (a := ⟨g, o + i, none⟩) (Below.heap_setCell w ⟨b, j, none⟩ v g (by simp; omega))⟩

/-- texts, atoms, filters -/
abbrev Tx := ByteArray
abbrev At := ByteArray × ByteArray × ByteArray
abbrev Fl := ByteArray × Int × ByteArray × Int
def tat (l : List Tx) (i : Nat) : Tx := l.getD i ByteArray.empty
def aat (l : List At) (i : Nat) : At := l.getD i (ByteArray.empty, ByteArray.empty, ByteArray.empty)
def fat (l : List Fl) (i : Nat) : Fl := l.getD i (ByteArray.empty, 0, ByteArray.empty, 0)
/-- their cells -/
def tC (l : List Tx) (j : Nat) : Value := .string (tat l j)
def aC (l : List At) (j : Nat) : Value := if j % 3 = 0 then .string (aat l (j / 3)).1 else if j % 3 = 1 then .string (aat l (j / 3)).2.1 else .string (aat l (j / 3)).2.2
def fC (l : List Fl) (j : Nat) : Value := if j % 4 = 0 then .string (fat l (j / 4)).1 else if j % 4 = 1 then .int .i64 (fat l (j / 4)).2.1 else if j % 4 = 2 then .string (fat l (j / 4)).2.2.1 else .int .i64 (fat l (j / 4)).2.2.2
theorem tC0 (l : List Tx) (i : Nat) : tC l (i * 1 + 0) = .string (tat l i) := by unfold tC; rw [show i * 1 + 0 = i by omega]
theorem aC0 (l : List At) (i : Nat) : aC l (i * 3 + 0) = .string (aat l i).1 := by unfold aC; rw [if_pos (by omega), show (i * 3 + 0) / 3 = i by omega]
theorem aC1 (l : List At) (i : Nat) : aC l (i * 3 + 1) = .string (aat l i).2.1 := by unfold aC; rw [if_neg (by omega), if_pos (by omega), show (i * 3 + 1) / 3 = i by omega]
theorem aC2 (l : List At) (i : Nat) : aC l (i * 3 + 2) = .string (aat l i).2.2 := by unfold aC; rw [if_neg (by omega), if_neg (by omega), show (i * 3 + 2) / 3 = i by omega]
theorem fC0 (l : List Fl) (i : Nat) : fC l (i * 4 + 0) = .string (fat l i).1 := by unfold fC; rw [if_pos (by omega), show (i * 4 + 0) / 4 = i by omega]
theorem fC1 (l : List Fl) (i : Nat) : fC l (i * 4 + 1) = .int .i64 (fat l i).2.1 := by unfold fC; rw [if_neg (by omega), if_pos (by omega), show (i * 4 + 1) / 4 = i by omega]
theorem fC2 (l : List Fl) (i : Nat) : fC l (i * 4 + 2) = .string (fat l i).2.2.1 := by unfold fC; rw [if_neg (by omega), if_neg (by omega), if_pos (by omega), show (i * 4 + 2) / 4 = i by omega]
theorem fC3 (l : List Fl) (i : Nat) : fC l (i * 4 + 3) = .int .i64 (fat l i).2.2.2 := by unfold fC; rw [if_neg (by omega), if_neg (by omega), if_neg (by omega), show (i * 4 + 3) / 4 = i by omega]
theorem tat_get {l : List Tx} {i : Nat} (h : i < l.length) : tat l i = l[i] := by simp [tat, List.getD, h]
theorem aat_get {l : List At} {i : Nat} (h : i < l.length) : aat l i = l[i] := by simp [aat, List.getD, h]
theorem fat_get {l : List Fl} {i : Nat} (h : i < l.length) : fat l i = l[i] := by simp [fat, List.getD, h]
theorem drop_t {l l' : List Tx} {n k : Nat} (h : l.length = n) (h' : l'.length = n) (hk : k < n) : (l.drop k = l'.drop k) ↔ (tat l k = tat l' k ∧ l.drop (k + 1) = l'.drop (k + 1)) := by
  rw [List.drop_eq_getElem_cons (by omega), List.drop_eq_getElem_cons (l := l') (by omega), List.cons.injEq, tat_get (by omega), tat_get (by omega)]
theorem drop_a {l l' : List At} {n k : Nat} (h : l.length = n) (h' : l'.length = n) (hk : k < n) : (l.drop k = l'.drop k) ↔ (aat l k = aat l' k ∧ l.drop (k + 1) = l'.drop (k + 1)) := by
  rw [List.drop_eq_getElem_cons (by omega), List.drop_eq_getElem_cons (l := l') (by omega), List.cons.injEq, aat_get (by omega), aat_get (by omega)]
theorem drop_f {l l' : List Fl} {n k : Nat} (h : l.length = n) (h' : l'.length = n) (hk : k < n) : (l.drop k = l'.drop k) ↔ (fat l k = fat l' k ∧ l.drop (k + 1) = l'.drop (k + 1)) := by
  rw [List.drop_eq_getElem_cons (by omega), List.drop_eq_getElem_cons (l := l') (by omega), List.cons.injEq, fat_get (by omega), fat_get (by omega)]
/-- equal texts, as the walk spells it -/
theorem toList_inj {s t : ByteArray} : (s.toList == t.toList) = true ↔ s = t := by
  constructor
  · intro h
    have h1 : s.toList = t.toList := by simpa using h
    rw [Lib.toList_data, Lib.toList_data] at h1
    exact Go.WideShapes.bytes_inj h1
  · rintro rfl; simp
theorem toList_eq {s t : ByteArray} : (s.toList == t.toList) = decide (s = t) := by
  rw [Bool.eq_iff_iff, toList_inj, decide_eq_true_eq]
/-- a block of four cells -/
theorem blk_four (w : World) (b : Nat) (hb : b = w.heap.size) (x y z u : Value) (T : TypeId) : Blk (w.alloc (.cells #[x, y, z, u] T)) b 4 (fun i => if i = 0 then x else if i = 1 then y else if i = 2 then z else u) :=
  hb ▸ blk_new w #[x, y, z, u] T _ (fun i hi => by
    have hi' : i < 4 := hi
    rcases i with _ | _ | _ | _ | i
    · rfl
    · rfl
    · rfl
    · rfl
    · omega)
end Go.Proofs.Ytkcflhlipdnbnaa
