/-
  The laws' helpers markStringS and heldStringS.
-/
import Derived.Test.YtcbebilhbghclaaDoorStr
namespace Go.Proofs.YtcbebilhbghclaaDoor
open Go.RowKit

/-- j marks, from k on -/
def marks (k j : Nat) : List ByteArray := (List.range j).map fun i => markS (k + i)
theorem marks_len (k j : Nat) : (marks k j).length = j := by simp [marks]
theorem marks_succ (k j : Nat) : marks k (j + 1) = marks k j ++ [markS (k + j)] := by simp [marks, List.range_succ]
theorem marks_set (k j : Nat) (l : List ByteArray) (h : j < l.length) : (marks k j ++ l.drop j).set j (markS (k + j)) = marks k (j + 1) ++ l.drop (j + 1) := by
  rw [marks_succ, List.set_append_right _ _ (by rw [marks_len]; omega), marks_len, Nat.sub_self, List.drop_eq_getElem_cons h]
  simp only [List.set_cons_zero, List.append_assoc, List.cons_append, List.nil_append]
theorem marks_at (k n j : Nat) (h : j < n) : (marks k n)[j]? = some (markS (k + j)) := by simp [marks, h]

theorem markText_int (x : Int) (w : World) (h0 : 0 < x) (h1 : x ≤ 1000000000) :
    Calls Tryd.prog 37 #[.int .i64 x] w fun e w' => e = .returned (.string (markS x.toNat)) ∧ Below w.heap.size w w' := by
  obtain ⟨K, rfl⟩ := Int.eq_ofNat_of_zero_le (show 0 ≤ x by omega)
  exact markText_any K w (by omega) (by omega)

/-- at the head of each round of markStringS -/
structure MAt (w : World) (B g cap n k0 : Nat) (l : List ByteArray) (j : Nat) (wr : World) : Prop where
  le : j ≤ n
  own : wr.ownsRow B 9 1 (.slice (some ⟨g, 0, none⟩) n cap) n ((marks k0 j ++ l.drop j).map tv)
  kept : KeptBut g w wr

theorem MAt.next {w wr w1 : World} {B g cap n k0 j : Nat} {l : List ByteArray} (h : MAt w B g cap n k0 l j wr) (hl : l.length = n) (hlt : j < n) (hb : Below wr.heap.size wr w1)
    (ho : w1.ownsRow B 9 1 (.slice (some ⟨g, 0, none⟩) n cap) n ((marks k0 j ++ l.drop j).map tv)) : MAt w B g cap n k0 l (j + 1) (w1.setCell ⟨g, j, none⟩ (.string (markS (k0 + j)))) := by
  refine ⟨by omega, ?_, (h.kept.below hb).setCell _⟩
  have := (ho.stored j (tv (markS (k0 + j)))).1
  rw [← List.map_set, marks_set k0 j l (by omega)] at this
  exact this
theorem MAt.done {w wr : World} {B g cap n k0 j : Nat} {l : List ByteArray} (h : MAt w B g cap n k0 l j wr) (hl : l.length = n) (hj : j = n) : wr.ownsRow B 9 1 (.slice (some ⟨g, 0, none⟩) n cap) n ((marks k0 n).map tv) := by
  subst hj
  have := h.own
  rw [List.drop_of_length_le (by omega), List.append_nil] at this
  exact this

set_option maxHeartbeats 1000000 in
set_option maxRecDepth 100000 in
theorem mark_any (B g cap n k0 : Nat) (l : List ByteArray) (w : World) (hn : n ≤ 1000000) (hk0 : 0 < k0) (hk1 : k0 ≤ 1000000) (ho : w.ownsRow B 9 1 (.slice (some ⟨g, 0, none⟩) n cap) n (l.map tv)) :
    Calls Tryd.prog 23 #[.slice (some ⟨g, 0, none⟩) n cap, .int .i64 (k0 : Int)] w fun e w' => e = .returned (.int .i64 ((k0 : Int) + (n : Int))) ∧
      w'.ownsRow B 9 1 (.slice (some ⟨g, 0, none⟩) n cap) n ((marks k0 n).map tv) ∧ KeptBut g w w' := by
  have hl : l.length = n := by have := ho.1; simpa using this
  have HL : Hid (l.length = n) := hl
  have HO : Hid (w.ownsRow B 9 1 (.slice (some ⟨g, 0, none⟩) n cap) n (l.map tv)) := ho
  clear ho hl
  go_enter Tryd.func23, Tryd.ntmps23
  go_wp2
  go_loopw [1, 5] (fun kv i wr => ∃ j : Nat, i = .int .i64 j ∧ kv = .int .i64 ((k0 : Int) + (j : Int)) ∧ MAt w B g cap n k0 l j wr) (fun _ i _ => n - (intOf i).toNat)
  case atStart => exact ⟨0, rfl, by simp, by omega, by simpa [marks] using HO.out, KeptBut.refl _ _⟩
  case round =>
    obtain ⟨j, rfl, rfl, hM⟩ := hrel
    have HM : Hid (MAt w B g cap n k0 l j wr) := hM
    have hle := hM.le
    clear hM
    by_cases hlt : j < n
    · have hlt1 : (j : Int) < (n : Int) := by omega
      go_wp2_with fail
      refine (markText_int _ _ (by omega) (by omega)).mono ?_
      rintro e w1 ⟨rfl, hb1⟩
      rw [show ((k0 : Int) + (j : Int)).toNat = k0 + j by omega]
      have hown1 := own_below HM.out.own hb1
      obtain ⟨t, _, hcell⟩ := own_cells hown1 j hlt
      have hfr := hown1.frozenAt j
      have HO1 : Hid (w1.ownsRow B 9 1 (.slice (some ⟨g, 0, none⟩) n cap) n ((marks k0 j ++ l.drop j).map tv)) := hown1
      have HB1 : Hid (Below wr.heap.size wr w1) := hb1
      clear hown1 hb1
      go_wp2
      go_roundw
      case rel => exact ⟨j + 1, by go_num, by go_num, HM.out.next HL.out hlt HB1.out HO1.out⟩
      case measure => simp [intOf]; omega
    · have HD : Hid (wr.ownsRow B 9 1 (.slice (some ⟨g, 0, none⟩) n cap) n ((marks k0 n).map tv)) := HM.out.done HL.out (by omega)
      have hjn : j = n := by omega
      subst hjn
      go_wp2
      go_ret
      exact ⟨rfl, HD.out, HM.out.kept⟩

set_option maxHeartbeats 400000 in
theorem mark_none (ao : Option Addr) (cap : Nat) (k : Int) (w : World) :
    Calls Tryd.prog 23 #[.slice ao 0 cap, .int .i64 k] w fun e w' => e = .returned (.int .i64 k) ∧ w = w' := by
  go_enter Tryd.func23, Tryd.ntmps23
  go_wp2
  go_loop [1, 5] (fun kv i => kv = .int .i64 k ∧ i = .int .i64 0) (fun _ _ => 0)
  case atStart => exact ⟨rfl, rfl⟩
  case round =>
    obtain ⟨rfl, rfl⟩ := hrel
    go_wp2
    go_ret
    exact ⟨rfl, rfl⟩
set_option maxHeartbeats 400000 in
theorem held_none (ao : Option Addr) (cap : Nat) (k : Int) (w : World) :
    Calls Tryd.prog 24 #[.slice ao 0 cap, .int .i64 k] w fun e w' => e = .returned (.int .i64 k) ∧ w = w' := by
  go_enter Tryd.func24, Tryd.ntmps24
  go_wp2
  go_loop [1, 5] (fun kv i => kv = .int .i64 k ∧ i = .int .i64 0) (fun _ _ => 0)
  case atStart => exact ⟨rfl, rfl⟩
  case round =>
    obtain ⟨rfl, rfl⟩ := hrel
    go_wp2
    go_ret
    exact ⟨rfl, rfl⟩

set_option maxHeartbeats 1000000 in
set_option maxRecDepth 100000 in
theorem held_any (B g cap n k0 : Nat) (w : World) (hn : n ≤ 1000000) (hk0 : 0 < k0) (hk1 : k0 ≤ 1000000) (ho : w.ownsRow B 9 1 (.slice (some ⟨g, 0, none⟩) n cap) n ((marks k0 n).map tv)) :
    Calls Tryd.prog 24 #[.slice (some ⟨g, 0, none⟩) n cap, .int .i64 (k0 : Int)] w fun e w' => e = .returned (.int .i64 ((k0 : Int) + (n : Int))) ∧ Below w.heap.size w w' := by
  have HO : Hid (w.ownsRow B 9 1 (.slice (some ⟨g, 0, none⟩) n cap) n ((marks k0 n).map tv)) := ho
  clear ho
  go_enter Tryd.func24, Tryd.ntmps24
  go_wp2
  go_loopw [1, 5] (fun kv i wr => ∃ j : Nat, i = .int .i64 j ∧ kv = .int .i64 ((k0 : Int) + (j : Int)) ∧ j ≤ n ∧ Below w.heap.size w wr) (fun _ i _ => n - (intOf i).toNat)
  case atStart => exact ⟨0, rfl, by simp, by omega, Below.refl _ _⟩
  case round =>
    obtain ⟨j, rfl, rfl, hle, hbel⟩ := hrel
    have HB : Hid (Below w.heap.size w wr) := hbel
    clear hbel
    by_cases hlt : j < n
    · have hlt1 : (j : Int) < (n : Int) := by omega
      have hownr := own_below HO.out HB.out
      obtain ⟨t, ht, hcell⟩ := own_cells hownr j hlt
      rw [marks_at _ _ _ hlt] at ht
      obtain rfl := Option.some.inj ht
      have hcmp : ((markS (k0 + j)).toList == (markS ((k0 : Int) + (j : Int)).toNat).toList) = true := by
        rw [show ((k0 : Int) + (j : Int)).toNat = k0 + j by omega]; simp
      have hgr : g < wr.heap.size := (hownr.lt g rfl).2
      clear ht hownr
      go_wp2_with fail
      go_region_held (fun w' => w'.cell? ⟨g, j, none⟩ = some (.string (markS (k0 + j)))) (first | exact hcell | exact (hb1.cell hgr).trans hcell) ((go_at_call 37; refine (markText_int _ _ ?_ ?_).mono ?_; omega; omega; rintro e w1 ⟨rfl, hb1⟩))
      all_goals go_wp2
      all_goals go_roundw
      all_goals (try (case measure => simp [intOf]; omega))
      all_goals (case rel => exact ⟨j + 1, by go_num, by go_num, by omega, (HB.out.drew).trans (hb1.mono HB.out.size)⟩)
    · have hjn : j = n := by omega
      subst hjn
      go_wp2
      go_ret
      exact ⟨rfl, HB.out⟩
end Go.Proofs.YtcbebilhbghclaaDoor
