/-
  Slices of texts: what a call of its own keeps; the laws' helpers markText and eqStringS.
-/
import Derived.Test.YtcbebilhbghclaaDoorDec
import Derived.BigQuiet
import Derived.Deep.RegionHeld
import Derived.Laws.OwnMore
namespace Go.Proofs.YtcbebilhbghclaaDoor
open Go.RowKit

theorem Tryd.info9 : (Tryd.prog.info? 9).map (fun i => (i.zero, i.size, i.bytes)) = some (some (.string ⟨#[]⟩), 1, 16) := by kernel_rfl

/-- a text as a cell -/
def tv (t : ByteArray) : Value := .string t

theorem own_below {w w' : World} {B : Nat} {e : TypeId} {v : Value} {n : Nat} {xs : List Value} (h : w.ownsRow B e 1 v n xs) (hb : Below w.heap.size w w') : w'.ownsRow B e 1 v n xs := by
  refine ⟨h.1, ?_⟩
  rcases h.2 with hn | ⟨g, cap, cur, rfl, hg, hh, r⟩
  · exact .inl hn
  · refine .inr ⟨g, cap, cur, rfl, hg, ?_, r⟩
    rw [hb.block g (by
      rcases Nat.lt_or_ge g w.heap.size with h1 | h1
      · exact h1
      · rw [Array.getElem?_eq_none h1] at hh; cases hh)]
    exact hh

/-- as it was, but for one block, and what is new -/
structure KeptBut (g : Nat) (w w' : World) : Prop where
  os : w'.os = w.os
  tape : w'.tape = w.tape
  output : w'.output = w.output
  size : w.heap.size ≤ w'.heap.size
  block : ∀ k, k < w.heap.size → k ≠ g → w'.heap[k]? = w.heap[k]?
theorem KeptBut.refl (g : Nat) (w : World) : KeptBut g w w := ⟨rfl, rfl, rfl, Nat.le_refl _, fun _ _ _ => rfl⟩
theorem KeptBut.below {g : Nat} {w w1 w2 : World} (h : KeptBut g w w1) (hb : Below w1.heap.size w1 w2) : KeptBut g w w2 :=
  ⟨hb.os.trans h.os, hb.tape.trans h.tape, hb.output.trans h.output, Nat.le_trans h.size hb.size, fun k hk hg => (hb.block k (Nat.lt_of_lt_of_le hk h.size)).trans (h.block k hk hg)⟩
theorem KeptBut.setCell {g j : Nat} {w w1 : World} (h : KeptBut g w w1) (u : Value) : KeptBut g w (w1.setCell ⟨g, j, none⟩ u) := by
  have hb : Below g w1 (w1.setCell ⟨g, j, none⟩ u) := (Below.refl g w1).setCell (Nat.le_refl _) u
  exact ⟨hb.os.trans h.os, hb.tape.trans h.tape, hb.output.trans h.output, Nat.le_trans h.size hb.size, fun k hk hg => (Below.heap_setCell w1 ⟨g, j, none⟩ u k hg).trans (h.block k hk hg)⟩
theorem KeptBut.to_below {g B : Nat} {w w1 : World} (h : KeptBut g w w1) (hg : B ≤ g) (hB : B ≤ w.heap.size) : Below B w w1 :=
  ⟨h.os, h.tape, h.output, h.size, fun k hk => h.block k (by omega) (by omega)⟩
theorem KeptBut.own {g B : Nat} {w w1 : World} {e : TypeId} {v : Value} {n : Nat} {xs : List Value} (h : KeptBut g w w1) (ho : w.ownsRow B e 1 v n xs) (hne : v.ownBlock ≠ some g) : w1.ownsRow B e 1 v n xs := by
  refine ⟨ho.1, ?_⟩
  rcases ho.2 with hn | ⟨g', cap, cur, rfl, hg, hh, r⟩
  · exact .inl hn
  · refine .inr ⟨g', cap, cur, rfl, hg, ?_, r⟩
    rw [h.block g' (by
      rcases Nat.lt_or_ge g' w.heap.size with h1 | h1
      · exact h1
      · rw [Array.getElem?_eq_none h1] at hh; cases hh) (by intro e; subst e; exact hne rfl)]
    exact hh

/-- the mark of k, k above 0 -/
def markS (k : Nat) : ByteArray := ⟨#[109]⟩ ++ ⟨(Lib.decDigits k).toArray⟩

set_option maxHeartbeats 1000000 in
set_option maxRecDepth 100000 in
theorem markText_any (K : Nat) (w : World) (h0 : 0 < K) (h1 : K ≤ 1000000000) :
    Calls Tryd.prog 37 #[.int .i64 (K : Int)] w fun e w' => e = .returned (.string (markS K)) ∧ Below w.heap.size w w' := by
  have hz : ¬ (K : Int) ≤ 0 := by omega
  have HZ : Hid (K ≠ 0) := by show K ≠ 0; omega
  go_enter Tryd.func37, Tryd.ntmps37
  go_wp2
  go_loopw [0, 3] (fun n s wr => ∃ (u : Nat) (t : ByteArray), n = .int .i64 (u : Int) ∧ s = .string t ∧ DAt K u t ∧ Below w.heap.size w wr) (fun n _ _ => (intOf n).toNat)
  case atStart => exact ⟨K, ⟨#[]⟩, rfl, rfl, ⟨by omega, by simp⟩, Below.refl _ _⟩
  case round =>
    obtain ⟨u, t, rfl, rfl, hD, hbel⟩ := hrel
    have HD : Hid (DAt K u t) := hD
    have hle := hD.le
    have hlen := hD.len (by omega)
    have hsz := hbel.size
    clear hD
    by_cases hu : u = 0
    · subst hu
      have HE : Hid (t.data.toList = Lib.decDigits K) := HD.out.done HZ.out
      go_wp2
      go_ret
      exact ⟨by unfold markS; rw [← HE.out]; rfl, hbel⟩
    · have hpos : (0 : Int) < (u : Int) := by omega
      have HU : Hid (u ≠ 0) := hu
      have hconv := conv_one wr (fig (u % 10)) (48 + (u : Int) % 10) (by rw [← figI_mod]; unfold figI fig; rw [if_pos (by omega)]; simp; omega)
      clear hu
      go_wp2
      go_roundw
      case rel => exact ⟨u / 10, _, by go_num, rfl, HD.out.next HU.out, hbel.alloc hsz _⟩
      case measure => have := HU.out; simp [intOf]; omega

/-- where the texts of a slice lie -/
theorem own_cells {w : World} {B g cap n : Nat} {l : List ByteArray} (h : w.ownsRow B 9 1 (.slice (some ⟨g, 0, none⟩) n cap) n (l.map tv)) (k : Nat) (hk : k < n) : ∃ t, l[k]? = some t ∧ w.cell? ⟨g, k, none⟩ = some (.string t) := by
  have hl : l.length = n := by have := h.1; simpa using this
  refine ⟨l[k], by simp, ?_⟩
  have := h.cellAt k (by omega)
  rw [this]
  simp [tv, hl, hk]

set_option maxHeartbeats 1000000 in
set_option maxRecDepth 100000 in
theorem eqS_same (B1 B2 n : Nat) (va vb : Value) (l : List ByteArray) (w : World) (hn : n ≤ 1000000) (ha : w.ownsRow B1 9 1 va n (l.map tv)) (hb : w.ownsRow B2 9 1 vb n (l.map tv)) :
    Calls Tryd.prog 22 #[va, vb] w fun e w' => e = .returned (.bool true) ∧ Below w.heap.size w w' := by
  by_cases h0 : n = 0
  · subst h0
    obtain ⟨ao, ca, rfl⟩ : ∃ ao ca, va = .slice ao 0 ca := by rcases ha.2 with ⟨rfl, _⟩ | ⟨g, cap, _, rfl, _⟩ <;> exact ⟨_, _, rfl⟩
    obtain ⟨bo, cb, rfl⟩ : ∃ ao ca, vb = .slice ao 0 ca := by rcases hb.2 with ⟨rfl, _⟩ | ⟨g, cap, _, rfl, _⟩ <;> exact ⟨_, _, rfl⟩
    clear ha hb
    go_enter Tryd.func22, Tryd.ntmps22
    go_wp2
    go_loop [5] (fun i => i = .int .i64 0) (fun _ => 0)
    case atStart => rfl
    case round =>
      subst hrel
      go_wp2
      go_ret
      exact ⟨rfl, Below.refl _ _⟩
  · obtain ⟨ga, ca, rfl, _, _⟩ := ha.form (by omega)
    obtain ⟨gb, cb, rfl, _, _⟩ := hb.form (by omega)
    have HA : Hid (w.ownsRow B1 9 1 (.slice (some ⟨ga, 0, none⟩) n ca) n (l.map tv)) := ha
    have HB : Hid (w.ownsRow B2 9 1 (.slice (some ⟨gb, 0, none⟩) n cb) n (l.map tv)) := hb
    clear ha hb
    go_enter Tryd.func22, Tryd.ntmps22
    go_wp2
    go_loopw [5] (fun i wr => ∃ k : Nat, i = .int .i64 k ∧ k ≤ n ∧ ∃ q, wr = w.drewN q) (fun i _ => n - (intOf i).toNat)
    case atStart => exact ⟨0, rfl, by omega, 0, rfl⟩
    case round =>
      obtain ⟨k, rfl, hk, q, rfl⟩ := hrel
      by_cases hlt : k < n
      · obtain ⟨t, ht1, hta⟩ := own_cells HA.out k hlt
        obtain ⟨t', ht2, htb⟩ := own_cells HB.out k hlt
        obtain rfl : t = t' := by rw [ht1] at ht2; exact Option.some.inj ht2
        clear ht1 ht2
        have hlt1 : (k : Int) < (n : Int) := by omega
        go_wp2_with fail
        go_quiet (fail)
        go_wp2
        go_roundw
        case rel => exact ⟨k + 1, by go_num, by omega, _, rfl⟩
        case measure => simp [intOf]; omega
      · go_wp2
        go_ret
        exact ⟨rfl, below_drewN (Below.refl _ _) _⟩
end Go.Proofs.YtcbebilhbghclaaDoor
