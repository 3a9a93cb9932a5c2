/-
  Rows that a call owns; what is kept; toIntS, slices.Clone, marks in a row; itemOk; how long a row is.
-/
import Derived.Test.YtfeimdlkpiacoaaRowC
import Derived.Deep.OwnRows
import Derived.Lib.SliceRun
namespace Go.Proofs.Ytfeimdlkpiacoaa
open Go.RowKit

/-- a block whose first n cells are known, none of them frozen -/
def Blk (w : World) (b n : Nat) (f : Nat → Value) : Prop := ∃ cur e, w.heap[b]? = some (.cells cur e (0, 0)) ∧ ∀ i, i < n → cur[i]? = some (f i)

theorem Blk.lt {w : World} {b n : Nat} {f : Nat → Value} (h : Blk w b n f) : b < w.heap.size := by
  obtain ⟨cur, e, hb, _⟩ := h
  exact (Array.getElem?_eq_some_iff.1 hb).1
theorem Blk.cell {w : World} {b n i : Nat} {f : Nat → Value} (h : Blk w b n f) (hi : i < n) : w.cell? ⟨b, i, none⟩ = some (f i) := by
  obtain ⟨cur, e, hb, hc⟩ := h
  simp [World.cell?, hb, hc i hi]
theorem Blk.frozen {w : World} {b n : Nat} {f : Nat → Value} (h : Blk w b n f) (i : Nat) : w.frozen? ⟨b, i, none⟩ = false := by
  obtain ⟨cur, e, hb, hc⟩ := h
  simp [World.frozen?, hb]
theorem Blk.congr {w : World} {b n : Nat} {f g : Nat → Value} (h : Blk w b n f) (e : ∀ i, i < n → f i = g i) : Blk w b n g := by
  obtain ⟨cur, t, hb, hc⟩ := h
  exact ⟨cur, t, hb, fun i hi => by rw [hc i hi, e i hi]⟩
theorem Blk.of_block {w w' : World} {b n : Nat} {f : Nat → Value} (h : Blk w b n f) (e : w'.heap[b]? = w.heap[b]?) : Blk w' b n f := by
  obtain ⟨cur, t, hb, hc⟩ := h
  exact ⟨cur, t, by rw [e]; exact hb, hc⟩
theorem Blk.set {w : World} {b n : Nat} {f : Nat → Value} (h : Blk w b n f) (i : Nat) (hi : i < n) (v : Value) : Blk (w.setCell ⟨b, i, none⟩ v) b n (fun j => if j = i then v else f j) := by
  obtain ⟨c, t, hb, hc⟩ := h
  refine ⟨c.setIfInBounds i v, t, ?_, fun j hj => ?_⟩
  · simp [World.setCell, Array.getElem?_modify, hb]
  · rw [Array.getElem?_setIfInBounds]
    by_cases e : j = i
    · subst e
      have := (Array.getElem?_eq_some_iff.1 (hc j hj)).1
      simp [this]
    · rw [if_neg (fun h => e h.symm)]
      show c[j]? = some (if j = i then v else f j)
      rw [if_neg e]
      exact hc j hj
theorem blk_own {w : World} {B e s n cap g : Nat} {xs : List Value} (h : w.ownsRow B e s (.slice (some ⟨g, 0, none⟩) n cap) n xs) : Blk w g (n * s) (fun i => xs.getD i (.int .i64 0)) := by
  rcases h.2 with ⟨h1, _⟩ | ⟨g', cap', cur, h1, _, hb, _, _, hs, ht⟩
  · cases h1
  · simp only [Value.slice.injEq, Option.some.injEq, Addr.mk.injEq] at h1
    obtain ⟨⟨rfl, _⟩, _, rfl⟩ := h1
    refine ⟨cur, e, hb, fun i hi => ?_⟩
    have hl := h.1
    have hx : xs[i]? = some (xs.getD i (.int .i64 0)) := by simp [List.getD, List.getElem?_eq_getElem (show i < xs.length by omega)]
    rw [← hx, ← ht, List.getElem?_take_of_lt hi]
    simp

/-- all blocks but those of p are as they were -/
structure KeptP (p : Nat → Prop) (w w' : World) : Prop where
  os : w'.os = w.os
  tape : w'.tape = w.tape
  output : w'.output = w.output
  size : w.heap.size ≤ w'.heap.size
  block : ∀ k, k < w.heap.size → ¬ p k → w'.heap[k]? = w.heap[k]?
theorem KeptP.refl (p : Nat → Prop) (w : World) : KeptP p w w := ⟨rfl, rfl, rfl, Nat.le_refl _, fun _ _ _ => rfl⟩
theorem KeptP.trans {p : Nat → Prop} {a b c : World} (h : KeptP p a b) (k : KeptP p b c) : KeptP p a c :=
  ⟨k.os.trans h.os, k.tape.trans h.tape, k.output.trans h.output, Nat.le_trans h.size k.size, fun i hi hp => (k.block i (Nat.lt_of_lt_of_le hi h.size) hp).trans (h.block i hi hp)⟩
theorem KeptP.of_below {p : Nat → Prop} {B : Nat} {w w' : World} (h : Below B w w') (hp : ∀ k, k < w.heap.size → ¬ p k → k < B) : KeptP p w w' :=
  ⟨h.os, h.tape, h.output, h.size, fun k hk hn => h.block k (hp k hk hn)⟩
theorem KeptP.setCell {p : Nat → Prop} {g j : Nat} {w w1 : World} (h : KeptP p w w1) (hg : p g) (u : Value) : KeptP p w (w1.setCell ⟨g, j, none⟩ u) := by
  have hb : Below g w1 (w1.setCell ⟨g, j, none⟩ u) := (Below.refl g w1).setCell (Nat.le_refl _) u
  exact ⟨hb.os.trans h.os, hb.tape.trans h.tape, hb.output.trans h.output, Nat.le_trans h.size hb.size, fun k hk hn => (Below.heap_setCell w1 ⟨g, j, none⟩ u k (by intro e; subst e; exact hn hg)).trans (h.block k hk hn)⟩
theorem KeptP.mono {p p' : Nat → Prop} {w w' : World} (h : KeptP p w w') (hp : ∀ k, p k → p' k) : KeptP p' w w' :=
  ⟨h.os, h.tape, h.output, h.size, fun k hk hn => h.block k hk (fun h => hn (hp k h))⟩
theorem KeptP.to_below {p : Nat → Prop} {B : Nat} {w w' : World} (h : KeptP p w w') (hB : B ≤ w.heap.size) (hp : ∀ k, p k → B ≤ k) : Below B w w' :=
  ⟨h.os, h.tape, h.output, h.size, fun k hk => h.block k (by omega) (fun h => by have := hp k h; omega)⟩
theorem KeptP.cell {p : Nat → Prop} {w w' : World} (h : KeptP p w w') {b o : Nat} {v : Value} (hc : w.cell? ⟨b, o, none⟩ = some v) (hb : b < w.heap.size) (hn : ¬ p b) : w'.cell? ⟨b, o, none⟩ = some v := by
  rw [← hc]; unfold World.cell?; rw [h.block b hb hn]
theorem KeptP.blk {p : Nat → Prop} {w w' : World} {b n : Nat} {f : Nat → Value} (h : KeptP p w w') (hc : Blk w b n f) (hn : ¬ p b) : Blk w' b n f := hc.of_block (h.block b hc.lt hn)

/-- a row that is owned: its block is its own -/
def RowOwn (lo hi : Nat) (w : World) (a : Option Addr) (l : List Int) : Prop :=
  l = [] ∨ ∃ b, a = some ⟨b, 0, none⟩ ∧ lo ≤ b ∧ b < hi ∧ Blk w b l.length (fun i => .int .i64 (l.getD i 0))

theorem RowOwn.toIn {lo hi : Nat} {w : World} {a : Option Addr} {l : List Int} (h : RowOwn lo hi w a l) : RowIn lo hi w a l := by
  rcases h with h | ⟨b, e, h1, h2, h3⟩
  · exact .inl h
  · exact .inr ⟨b, 0, e, h1, h2, fun i hi => by rw [Nat.zero_add]; exact h3.cell hi⟩
theorem RowOwn.below {lo hi B : Nat} {w w' : World} {a : Option Addr} {l : List Int} (h : RowOwn lo hi w a l) (hb : Below B w w') (hB : hi ≤ B) : RowOwn lo hi w' a l := by
  rcases h with h | ⟨b, e, h1, h2, h3⟩
  · exact .inl h
  · exact .inr ⟨b, e, h1, h2, h3.of_block (hb.block b (by omega))⟩
theorem RowOwn.wide {lo hi lo' hi' : Nat} {w : World} {a : Option Addr} {l : List Int} (h : RowOwn lo hi w a l) (h1 : lo' ≤ lo) (h2 : hi ≤ hi') : RowOwn lo' hi' w a l := by
  rcases h with h | ⟨b, e, h3, h4, h5⟩
  · exact .inl h
  · exact .inr ⟨b, e, by omega, by omega, h5⟩
theorem RowIn.kept {lo hi : Nat} {p : Nat → Prop} {w w' : World} {a : Option Addr} {l : List Int} (h : RowIn lo hi w a l) (hk : KeptP p w w') (hh : hi ≤ w.heap.size) (hp : ∀ k, lo ≤ k → k < hi → ¬ p k) : RowIn lo hi w' a l := by
  rcases h with h | ⟨b, o, e, h1, h2, h3⟩
  · exact .inl h
  · exact .inr ⟨b, o, e, h1, h2, fun i hi => hk.cell (h3 i hi) (by omega) (hp b h1 h2)⟩

/-- marks from K on -/
def marks (K n : Nat) : List Int := (List.range n).map fun i => ((K + i : Nat) : Int)
theorem marks_len (K n : Nat) : (marks K n).length = n := by simp [marks]
theorem marks_get {K n i : Nat} (h : i < n) : (marks K n).getD i 0 = ((K + i : Nat) : Int) := by simp [marks, List.getD, h]

set_option maxHeartbeats 1000000 in
set_option maxRecDepth 100000 in
theorem markInts_any (p : Nat → Prop) (lo hi : Nat) (a : Option Addr) (n cap K : Nat) (l : List Int) (w : World) (ha : RowOwn lo hi w a l) (hn : l.length = n) (hm : n ≤ 1048576) (hK : K ≤ 1099511627776) (hp : ∀ b, a = some ⟨b, 0, none⟩ → l ≠ [] → p b) :
    Calls Try.prog 22 #[.slice a n cap, .int .i64 (K : Int)] w fun e w' => e = .returned (.int .i64 ((K + n : Nat) : Int)) ∧ RowOwn lo hi w' a (marks K n) ∧ KeptP p w w' ∧ w'.heap.size = w.heap.size := by
  have HN : Hid (l.length = n) := hn
  by_cases h0 : n = 0
  · subst h0
    clear ha hn hp
    go_enter Try.func22, Try.ntmps22
    go_wp2
    go_loop [5, 1] (fun i k => i = .int .i64 0 ∧ k = .int .i64 (K : Int)) (fun _ _ => 0)
    case atStart => exact ⟨rfl, rfl⟩
    case round =>
      obtain ⟨rfl, rfl⟩ := hrel
      go_wp2
      go_ret
      exact ⟨rfl, .inl (by simp [marks]), KeptP.refl _ _, rfl⟩
  · obtain ⟨b, rfl, h1, h2, hb⟩ : ∃ b, a = some ⟨b, 0, none⟩ ∧ lo ≤ b ∧ b < hi ∧ Blk w b l.length (fun i => .int .i64 (l.getD i 0)) := by
      rcases ha with rfl | h
      · exact absurd HN.out (by simp; omega)
      · exact h
    have HP : Hid (p b) := hp b rfl (by intro e; subst e; exact h0 (by simpa using hn.symm))
    have HX : Hid (lo ≤ b ∧ b < hi) := ⟨h1, h2⟩
    have HB0 : Hid (Blk w b n (fun i => .int .i64 (l.getD i 0))) := by rw [hn] at hb; exact hb
    clear ha hb hn hp h1 h2
    go_enter Try.func22, Try.ntmps22
    go_wp2
    go_loopw [5, 1] (fun i s wr => ∃ k : Nat, i = .int .i64 k ∧ s = .int .i64 ((K + k : Nat) : Int) ∧ k ≤ n ∧ Hid (Blk wr b n (fun j => if j < k then .int .i64 ((K + j : Nat) : Int) else .int .i64 (l.getD j 0))) ∧ Hid (KeptP p w wr) ∧ wr.heap.size = w.heap.size) (fun i _ _ => n - (intOf i).toNat)
    case atStart => exact ⟨0, rfl, rfl, by omega, HB0.out.congr (fun i _ => by simp), KeptP.refl _ _, rfl⟩
    case round =>
      obtain ⟨k, rfl, rfl, hk, HB, HL, hsz⟩ := hrel
      by_cases hlt : k < n
      · have hlt1 : (k : Int) < (n : Int) := by omega
        have hcb := HB.out.cell hlt
        have hfb := HB.out.frozen k
        go_wp2
        go_roundw
        case rel =>
          refine ⟨k + 1, by go_num, by go_num, by omega, ?_, HL.out.setCell HP.out _, by simpa using hsz⟩
          refine (HB.out.set k hlt _).congr fun j hj => ?_
          by_cases e : j = k
          · subst e; simp
          · by_cases e2 : j < k
            · simp [e, e2, show j < k + 1 by omega]
            · simp [e, e2, show ¬ j < k + 1 by omega]
        case measure => simp [intOf]; omega
      · obtain rfl : k = n := by omega
        go_wp2
        go_ret
        refine ⟨rfl, .inr ⟨b, rfl, HX.out.1, HX.out.2, ?_⟩, HL.out, hsz⟩
        rw [marks_len]
        exact HB.out.congr fun j hj => by rw [marks_get hj, if_pos hj]

set_option maxHeartbeats 1000000 in
set_option maxRecDepth 100000 in
theorem heldInts_any (lo hi : Nat) (a : Option Addr) (n cap K : Nat) (w : World) (ha : RowIn lo hi w a (marks K n)) (hm : n ≤ 1048576) (hK : K ≤ 1099511627776) :
    Calls Try.prog 23 #[.slice a n cap, .int .i64 (K : Int)] w fun e w' => e = .returned (.int .i64 ((K + n : Nat) : Int)) ∧ w = w' := by
  have HA : Hid (RowIn lo hi w a (marks K n)) := ha
  clear ha
  go_enter Try.func23, Try.ntmps23
  go_wp2
  go_loop [5, 1] (fun i s => ∃ k : Nat, i = .int .i64 k ∧ s = .int .i64 ((K + k : Nat) : Int) ∧ k ≤ n) (fun i _ => n - (intOf i).toNat)
  case atStart => exact ⟨0, rfl, rfl, by omega⟩
  case round =>
    obtain ⟨k, rfl, rfl, hk⟩ := hrel
    by_cases hlt : k < n
    · have hlt1 : (k : Int) < (n : Int) := by omega
      obtain ⟨b, o, rfl, h1, h2, hc⟩ : ∃ b o, a = some ⟨b, o, none⟩ ∧ lo ≤ b ∧ b < hi ∧ ∀ i, i < (marks K n).length → w.cell? ⟨b, o + i, none⟩ = some (.int .i64 ((marks K n).getD i 0)) := by
        rcases HA.out with h | h
        · exact absurd (marks_len K n) (by rw [h]; simp; omega)
        · exact h
      have hca := hc k (by rw [marks_len]; exact hlt)
      rw [marks_get hlt] at hca
      clear hc h1 h2
      go_wp2
      go_roundw
      case rel => exact ⟨k + 1, by go_num, by go_num, by omega⟩
      case measure => simp [intOf]; omega
    · obtain rfl : k = n := by omega
      go_wp2
      go_ret
      exact ⟨rfl, rfl⟩
end Go.Proofs.Ytfeimdlkpiacoaa
