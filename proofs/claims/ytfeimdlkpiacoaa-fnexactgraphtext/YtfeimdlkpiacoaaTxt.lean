/-
  The text of a bag: impl.BagText and spec.BagText.
-/
import Derived.Deep.DeepCutAuto
import Derived.Test.YtfeimdlkpiacoaaBld
import Derived.Test.YtfeimdlkpiacoaaSize
import Derived.Test.YtfeimdlkpiacoaaMarkB
namespace Go.Proofs.Ytfeimdlkpiacoaa
open Go.RowKit

/-- the bytes of an item -/
def itemTxt (x : It) : List UInt8 := vb x.1.length ++ vt x.1 ++ vb x.2
/-- the bytes of a bag, as far as place k -/
def txtTo (l : List It) (k : Nat) : List UInt8 := vb l.length ++ (l.take k).flatMap itemTxt
/-- the text of a bag; none of one that is not right -/
def txtOf (l : List It) : ByteArray := ⟨(if okBag l = true then txtTo l l.length else []).toArray⟩

theorem txtTo_step {l : List It} {k : Nat} (h : k < l.length) : txtTo l (k + 1) = txtTo l k ++ itemTxt (at' l k) := by
  have e : l.take (k + 1) = l.take k ++ [at' l k] := by rw [List.take_add_one]; simp [at', List.getD, h]
  unfold txtTo
  rw [e, List.flatMap_append, ← List.append_assoc]
  simp
theorem okItem_row {r : List Int} {t : Int} (h : okItem r t = true) : r.length ≤ 4 ∧ ∀ i, i < r.length → 0 ≤ r.getD i 0 ∧ r.getD i 0 ≤ 99 := by
  unfold okItem okRow okNums at h
  simp only [Bool.and_eq_true, decide_eq_true_eq, List.all_eq_true] at h
  refine ⟨h.1.2, fun i hi => ?_⟩
  have := h.1.1 (r.getD i 0) (by simp [List.getD, hi])
  exact this
theorem ok_item {l : List It} (h : okBag l = true) {k : Nat} (hk : k < l.length) : okItem (at' l k).1 (at' l k).2 = true := okAt_item (okBag_at h hk)
theorem vb_le (x : Int) : (vb x).length ≤ 10 := varB_le 9 x.toNat
theorem item_le {x : It} (h : okItem x.1 x.2 = true) : (itemTxt x).length ≤ 60 := by
  have h1 := (okItem_row h).1
  have h2 := vt_le x.1
  have h3 := vb_le x.1.length
  have h4 := vb_le x.2
  simp only [itemTxt, List.length_append]
  omega
theorem txt_le {l : List It} (h : okBag l = true) (k : Nat) (hk : k ≤ l.length) : (txtTo l k).length ≤ 10 + 60 * k := by
  induction k with
  | zero => have := vb_le l.length; simp [txtTo]; omega
  | succ k ih =>
    rw [txtTo_step (by omega), List.length_append]
    have := ih (by omega)
    have := item_le (ok_item h (k := k) (by omega))
    omega

theorem row_one (w : World) (x : Int) (b : Nat) (hb : b = w.heap.size) (T : TypeId) : RowIn w.heap.size (w.heap.size + 1) (w.alloc (.cells #[.int .i64 x] T)) (some ⟨b, 0, none⟩) [x] := by
  subst hb
  refine .inr ⟨_, 0, rfl, Nat.le_refl _, Nat.lt_succ_self _, fun i hi => ?_⟩
  have hi' : i = 0 := by simpa using hi
  subst hi'
  exact (blk_one w _ rfl _ _).cell (i := 0) (by omega)

/-- one number, then its bytes into the builder -/
theorem nums_one (x : Int) (w : World) (h0 : 0 ≤ x) (h1 : x ≤ 1000000000) (T : TypeId) (b : Nat) (hb : b = w.heap.size) :
    Calls Try.prog 50 #[.slice (some ⟨b, 0, none⟩) 1 1] (w.alloc (.cells #[.int .i64 x] T)) fun e w' => ∃ t : ByteArray, e = .returned (.string t) ∧ Hid (t.data.toList = vb x) ∧ Hid (Below w.heap.size w w') :=
  (varTexts_any w.heap.size (w.heap.size + 1) (some ⟨b, 0, none⟩) 1 1 [x] _ (row_one w x b hb T) (by simp) rfl (by omega) (fun i hi => by
    have : i = 0 := by omega
    subst this
    exact ⟨h0, h1⟩)).mono fun _ _ ⟨t, e1, e2, e3⟩ => ⟨t, e1, by have := e2.out; simpa [vt, Hid] using this, (below1' w _).trans (e3.out.mono (by simp))⟩

theorem heap_new (w : World) (o : Obj) : (w.alloc o).heap[w.heap.size]? = some o := by
  show (w.heap.push o)[w.heap.size]? = some o
  simp
theorem builder_lt {B b : Nat} {bs : List Value} {w : World} (h : Lib.IsBuilder 68 5 B b bs w) : b < w.heap.size := by
  rcases h with h | h <;> exact h.lt
theorem size_of_list {t : ByteArray} {l : List UInt8} (h : t.data.toList = l) : t.size = l.length := by
  rw [← h, Array.length_toList]; rfl

end Go.Proofs.Ytfeimdlkpiacoaa
