/-
  Graphs that come in, that are compared, marked and held: toGraph, eqEdge, eqEdgeS, eqGraph, markEdgeS, markGraph, heldEdgeS, heldGraph; a graph out of its reading.
-/
import Derived.Test.YtfeimdlkpiacoaaEdM
import Derived.Test.YtfeimdlkpiacoaaHeld
import Derived.Deep.Strs
import Derived.Deep.SlicePairs
import Derived.ProofKit
import Derived.OpenShut
import Derived.ChangeOld
namespace Go.Proofs.Ytfeimdlkpiacoaa
open Go.RowKit

/-- a graph as a value -/
abbrev gv (s : Int) (a : Option Addr) (n cap : Nat) : Value := .agg #[.int .i64 s, .slice a n cap]

set_option maxHeartbeats 1000000 in
set_option maxRecDepth 100000 in
theorem toGraph_any (lo hi : Nat) (s : Int) (a : Option Addr) (n cap : Nat) (l : List Ed) (w : World) (ha : EdgesIn lo hi w a l) (hh : hi ≤ w.heap.size) (hn : l.length = n) (hm : n ≤ 1048576) :
    Calls Try.prog 11 #[gv s a n cap] w fun e w' => ∃ g : Nat, e = .returned (gv s (some ⟨g, 0, none⟩) n n) ∧ Hid (EdgesOwn w.heap.size w'.heap.size w' (some ⟨g, 0, none⟩) l) ∧ Hid (Below w.heap.size w w') := by
  have HC : Hid (∀ w0, Below w.heap.size w w0 → Calls Try.prog 33 #[.slice a n cap] w0 fun e w' => ∃ g : Nat, e = .returned (.slice (some ⟨g, 0, none⟩) n n) ∧ Hid (EdgesOwn w0.heap.size w'.heap.size w' (some ⟨g, 0, none⟩) l) ∧ Hid (Below w0.heap.size w0 w')) :=
    fun w0 h => toEdges_any lo hi a n cap l w0 (ha.below h hh) (Nat.le_trans hh h.size) hn hm
  clear ha hh hn
  go_enter Try.func11, Try.ntmps11
  go_wp2_with fail
  refine (HC.out _ (below3 w _ _ _)).mono ?_
  rintro e w1 ⟨g, rfl, hx, hb⟩
  have hb1 := hb.out
  clear hb
  have k1 := ((blk_two (w.alloc (.cells #[.int .i64 s, .slice a n cap] 24)) (w.heap.size + 1) (by simp) (.int .i64 0) (.slice none 0 0) 29).alloc (.cells #[.int .i64 s, .slice none 0 0] 29)).of_block (hb1.block (w.heap.size + 1) (by simp))
  have k2 := (blk_two ((w.alloc (.cells #[.int .i64 s, .slice a n cap] 24)).alloc (.cells #[.int .i64 0, .slice none 0 0] 29)) (w.heap.size + 1 + 1) (by simp) (.int .i64 s) (.slice none 0 0) 29).of_block (hb1.block (w.heap.size + 1 + 1) (by simp))
  have c0 : w1.cell? ⟨w.heap.size + 1, 0, none⟩ = some (.int .i64 0) := k1.cell (i := 0) (by omega)
  have c1 : w1.cell? ⟨w.heap.size + 1, 1, none⟩ = some (.slice none 0 0) := k1.cell (i := 1) (by omega)
  have d0 : w1.cell? ⟨w.heap.size + 1 + 1, 0, none⟩ = some (.int .i64 s) := k2.cell (i := 0) (by omega)
  have d1 : w1.cell? ⟨w.heap.size + 1 + 1, 1, none⟩ = some (.slice none 0 0) := k2.cell (i := 1) (by omega)
  have f0 : w1.frozen? ⟨w.heap.size + 1, 0, none⟩ = false := k1.frozen 0
  have f1 : w1.frozen? ⟨w.heap.size + 1, 1, none⟩ = false := k1.frozen 1
  have f3 : w1.frozen? ⟨w.heap.size + 1 + 1, 1, none⟩ = false := k2.frozen 1
  clear k1 k2
  have HX : Hid (EdgesOwn (w.heap.size + 1 + 1 + 1) w1.heap.size w1 (some ⟨g, 0, none⟩) l) := by have := hx.out; simp at this; exact this
  have HB : Hid (Below w.heap.size w w1) := (below3 w _ _ _).trans (hb1.mono (by simp; omega))
  clear hx hb1
  go_wp2
  refine bodyPost_ret (v := .agg #[.int .i64 s, .slice (some ⟨g, 0, none⟩) n n]) (by simp [results, Try.results11, go_sem, c0, c1]) rfl ?_
  refine ⟨g, rfl, ?_, ?_⟩
  · have := (((HX.out.setCell (b := w.heap.size + 1 + 1) (j := 1) (by omega) (.slice (some ⟨g, 0, none⟩) n n)).setCell (b := w.heap.size + 1) (j := 0) (by omega) (.int .i64 s)).setCell (b := w.heap.size + 1) (j := 1) (by omega) (.slice (some ⟨g, 0, none⟩) n n))
    exact (this.wide (by omega) (by simp))
  · exact ((HB.out.setCell (by simp; omega) _).setCell (by simp) _).setCell (by simp) _

set_option maxHeartbeats 1000000 in
theorem eqEdge_any (x y : Ed) (r : Bool) (w : World) (hr : r = decide (x = y)) : Calls Try.prog 60 #[ev x, ev y] w fun e w' => e = .returned (.bool r) ∧ Hid (Below w.heap.size w w') := by
  obtain ⟨x0, x1, x2⟩ := x
  obtain ⟨y0, y1, y2⟩ := y
  have HR : Hid (r = decide (x0 = y0 ∧ x1 = y1 ∧ x2 = y2)) := by show _ = _; rw [hr]; simp
  clear hr
  by_cases h0 : x0 = y0
  · subst h0
    by_cases h1 : x1 = y1
    · subst h1
      by_cases h2 : x2 = y2
      · subst h2
        obtain rfl : r = true := by rw [HR.out]; simp
        go_enter Try.func60, Try.ntmps60
        go_wp2
        go_ret
        exact ⟨rfl, below2 w _ _⟩
      · have hn : decide (x2 = y2) = false := decide_eq_false h2
        obtain rfl : r = false := by rw [HR.out]; simp [h2]
        go_enter Try.func60, Try.ntmps60
        go_wp2
        go_ret
        exact ⟨rfl, below2 w _ _⟩
    · have hn : decide (x1 = y1) = false := decide_eq_false h1
      obtain rfl : r = false := by rw [HR.out]; simp [h1]
      go_enter Try.func60, Try.ntmps60
      go_wp2
      go_ret
      exact ⟨rfl, below2 w _ _⟩
  · have hn : decide (x0 = y0) = false := decide_eq_false h0
    obtain rfl : r = false := by rw [HR.out]; simp [h0]
    go_enter Try.func60, Try.ntmps60
    go_wp2
    go_ret
    exact ⟨rfl, below2 w _ _⟩

theorem below_edge {w w' : World} {b o : Nat} {x : Ed} (h : EdgeAt w b o x) (hb : Below w.heap.size w w') : EdgeAt w' b o x := h.below hb (lt_of_cell h.1)
theorem drop_of_getD {l l' : List Ed} {n k : Nat} (h : l.length = n) (h' : l'.length = n) (hk : k < n) : (l.drop k = l'.drop k) ↔ (eat l k = eat l' k ∧ l.drop (k + 1) = l'.drop (k + 1)) := by
  rw [List.drop_eq_getElem_cons (by omega), List.drop_eq_getElem_cons (l := l') (by omega), List.cons.injEq, eat_get (by omega), eat_get (by omega)]

set_option maxHeartbeats 2000000 in
set_option maxRecDepth 100000 in
theorem eqEdges_any (lo hi lo' hi' : Nat) (a a' : Option Addr) (n n' cap cap' : Nat) (l l' : List Ed) (r : Bool) (w : World) (ha : EdgesIn lo hi w a l) (hb : EdgesIn lo' hi' w a' l') (hh : hi ≤ w.heap.size) (hh' : hi' ≤ w.heap.size) (hn : l.length = n) (hn' : l'.length = n') (hm : n ≤ 1048576) (hr : r = decide (l = l')) :
    Calls Try.prog 36 #[.slice a n cap, .slice a' n' cap'] w fun e w' => e = .returned (.bool r) ∧ Hid (Below w.heap.size w w') := by
  have HN : Hid (l.length = n) := hn
  have HN' : Hid (l'.length = n') := hn'
  have HA : Hid (EdgesIn lo hi w a l) := ha
  have HA' : Hid (EdgesIn lo' hi' w a' l') := hb
  have HH : Hid (hi ≤ w.heap.size ∧ hi' ≤ w.heap.size) := ⟨hh, hh'⟩
  have HR : Hid (r = decide (l = l')) := hr
  clear ha hb hh hh' hn hn' hr
  by_cases he : n = n'
  · subst he
    go_enter Try.func36, Try.ntmps36
    go_wp2
    go_loopw [5] (fun i wr => ∃ k : Nat, i = .int .i64 k ∧ k ≤ n ∧ Hid (l = l' ↔ l.drop k = l'.drop k) ∧ Hid (Below w.heap.size w wr)) (fun i _ => n - (intOf i).toNat)
    case atStart => exact ⟨0, rfl, by omega, by show _ ↔ _; simp, Below.refl _ _⟩
    case round =>
      obtain ⟨k, rfl, hk, HE, HL⟩ := hrel
      by_cases hlt : k < n
      · have hlt1 : (k : Int) < (n : Int) := by omega
        have hlt0 : 0 ≤ (k : Int) := by omega
        obtain ⟨b, o, rfl, _, _, hx⟩ := (HA.out.below HL.out HH.out.1).edge (k := k) (by rw [HN.out]; exact hlt)
        obtain ⟨b', o', rfl, _, _, hy⟩ := (HA'.out.below HL.out HH.out.2).edge (k := k) (by rw [HN'.out]; exact hlt)
        obtain ⟨x, HX⟩ : ∃ x : Ed, Hid (x = eat l k) := ⟨_, rfl⟩
        obtain ⟨y, HY⟩ : ∃ x : Ed, Hid (x = eat l' k) := ⟨_, rfl⟩
        rw [← HX.out] at hx
        rw [← HY.out] at hy
        have HEX : Hid (EdgeAt wr b (o + k * 3) x) := hx
        have HEY : Hid (EdgeAt wr b' (o' + k * 3) y) := hy
        obtain ⟨q, HQ⟩ : ∃ q : Bool, Hid (q = decide (x = y)) := ⟨_, rfl⟩
        have HD : Hid ((l = l') ↔ (x = y ∧ l.drop (k + 1) = l'.drop (k + 1))) := HE.out.trans (by rw [HX.out, HY.out]; exact drop_of_getD HN.out HN'.out hlt)
        have HCQ := HQ
        obtain ⟨x0, x1, x2⟩ := x
        obtain ⟨y0, y1, y2⟩ := y
        obtain ⟨p0, p1, p2⟩ := hx
        obtain ⟨q0, q1, q2⟩ := hy
        dsimp only at p0 p1 p2 q0 q1 q2
        have HC : Hid (∀ w0, Below wr.heap.size wr w0 → Calls Try.prog 60 #[ev (x0, x1, x2), ev (y0, y1, y2)] w0 fun e w' => e = .returned (.bool q) ∧ Hid (Below wr.heap.size wr w') ∧ (EdgeAt w' b (o + k * 3) (x0, x1, x2) ∧ EdgeAt w' b' (o' + k * 3) (y0, y1, y2))) := fun w0 h =>
          (eqEdge_any _ _ q w0 HCQ.out).mono fun _ _ ⟨h1, h2⟩ =>
            have hk := h.trans (h2.out.mono h.size)
            ⟨h1, hk, below_edge HEX.out hk, below_edge HEY.out hk⟩
        clear HCQ
        go_wp2_with fail
        go_region_held3 (fun w' => (w'.cell? ⟨b, o + k * 3, none⟩ = some (.int .i64 x0) ∧ w'.cell? ⟨b, o + k * 3 + 1, none⟩ = some (.int .u8 x1) ∧ w'.cell? ⟨b, o + k * 3 + 2, none⟩ = some (.int .i64 x2)) ∧ (w'.cell? ⟨b', o' + k * 3, none⟩ = some (.int .i64 y0) ∧ w'.cell? ⟨b', o' + k * 3 + 1, none⟩ = some (.int .u8 y1) ∧ w'.cell? ⟨b', o' + k * 3 + 2, none⟩ = some (.int .i64 y2))) (first | exact ⟨⟨p0, p1, p2⟩, ⟨q0, q1, q2⟩⟩ | exact hk1) (first | (go_at_call 60; refine (HC.out _ ((Below.refl _ _).drew)).mono ?_; rintro e w1 ⟨rfl, HB1, hk1⟩))
        have HL1 : Hid (Below w.heap.size w w1) := HL.out.trans (HB1.out.mono HL.out.size)
        rcases Bool.eq_false_or_eq_true q with hq | hq
        · subst hq
          go_wp2
          go_roundw
          case rel =>
            have e : (x0, x1, x2) = ((y0, y1, y2) : Ed) := of_decide_eq_true HQ.out.symm
            exact ⟨k + 1, by go_num, by omega, HD.out.trans ⟨fun h => h.2, fun h => ⟨e, h⟩⟩, HL1⟩
          case measure => simp [intOf]; omega
        · subst hq
          go_wp2
          go_ret
          have e : ¬ (x0, x1, x2) = ((y0, y1, y2) : Ed) := of_decide_eq_false HQ.out.symm
          refine ⟨?_, HL1⟩
          have : r = false := by rw [HR.out]; exact decide_eq_false fun h => e (HD.out.1 h).1
          rw [this]; rfl
      · go_wp2
        go_ret
        refine ⟨?_, HL⟩
        have : r = true := by
          rw [HR.out]
          refine decide_eq_true (HE.out.2 ?_)
          rw [List.drop_of_length_le (by rw [HN.out]; omega), List.drop_of_length_le (by rw [HN'.out]; omega)]
        rw [this]; rfl
  · have hne : decide ((n : Int) = (n' : Int)) = false := by simp; omega
    have hr : r = false := by rw [HR.out]; exact decide_eq_false fun h => he (by rw [← HN.out, h, HN'.out])
    subst hr
    go_enter Try.func36, Try.ntmps36
    go_wp2
    go_ret
    exact ⟨rfl, Below.refl _ _⟩

set_option maxHeartbeats 1000000 in
set_option maxRecDepth 100000 in
theorem eqGraph_any (lo hi lo' hi' : Nat) (s s' : Int) (a a' : Option Addr) (n n' cap cap' : Nat) (l l' : List Ed) (r : Bool) (w : World) (ha : EdgesIn lo hi w a l) (hb : EdgesIn lo' hi' w a' l') (hh : hi ≤ w.heap.size) (hh' : hi' ≤ w.heap.size) (hn : l.length = n) (hn' : l'.length = n') (hm : n ≤ 1048576) (hr : r = decide (s = s' ∧ l = l')) :
    Calls Try.prog 13 #[gv s a n cap, gv s' a' n' cap'] w fun e w' => e = .returned (.bool r) ∧ Hid (Below w.heap.size w w') := by
  obtain ⟨q, HQ⟩ : ∃ q : Bool, Hid (q = decide (l = l')) := ⟨_, rfl⟩
  have HC : Hid (∀ w0, Below w.heap.size w w0 → Calls Try.prog 36 #[.slice a n cap, .slice a' n' cap'] w0 fun e w' => e = .returned (.bool q) ∧ Hid (Below w0.heap.size w0 w')) := fun w0 h =>
    eqEdges_any lo hi lo' hi' a a' n n' cap cap' l l' q w0 (ha.below h hh) (hb.below h hh') (Nat.le_trans hh h.size) (Nat.le_trans hh' h.size) hn hn' hm HQ.out
  have HR : Hid (r = decide (s = s' ∧ l = l')) := hr
  clear ha hb hh hh' hn hn' hr hm
  by_cases he : s = s'
  · subst he
    obtain rfl : r = q := by rw [HR.out, HQ.out]; simp
    go_enter Try.func13, Try.ntmps13
    go_wp2_with fail
    refine (HC.out _ (below2 w _ _)).mono ?_
    rintro e w1 ⟨rfl, HB⟩
    have HL : Hid (Below w.heap.size w w1) := (below2 w _ _).trans (HB.out.mono (by simp; omega))
    rcases Bool.eq_false_or_eq_true r with hq | hq
    · subst hq
      go_wp2
      go_ret
      exact ⟨rfl, HL⟩
    · subst hq
      go_wp2
      go_ret
      exact ⟨rfl, HL⟩
  · have hne : decide (s = s') = false := decide_eq_false he
    obtain rfl : r = false := by rw [HR.out]; simp [he]
    go_enter Try.func13, Try.ntmps13
    go_wp2
    go_ret
    exact ⟨rfl, below2 w _ _⟩

/-- marks from K on, three an edge -/
def marksE (K n : Nat) : List Ed := (List.range n).map fun i => (((K + i * 3 : Nat) : Int), ((K + i * 3 + 1 : Nat) : Int) % 256, ((K + i * 3 + 2 : Nat) : Int))
theorem marksE_len (K n : Nat) : (marksE K n).length = n := by simp [marksE]
theorem marksE_at {K n i : Nat} (h : i < n) : eat (marksE K n) i = (((K + i * 3 : Nat) : Int), ((K + i * 3 + 1 : Nat) : Int) % 256, ((K + i * 3 + 2 : Nat) : Int)) := by simp [marksE, eat, List.getD, h]

set_option maxHeartbeats 2000000 in
set_option maxRecDepth 100000 in
theorem markEdges_any (lo hi : Nat) (a : Option Addr) (n cap K : Nat) (l : List Ed) (w : World) (ha : EdgesOwn lo hi w a l) (hn : l.length = n) (hm : n ≤ 1048576) (hK : K ≤ 1099511627776) :
    Calls Try.prog 43 #[.slice a n cap, .int .i64 (K : Int)] w fun e w' => e = .returned (.int .i64 ((K + n * 3 : Nat) : Int)) ∧ Hid (EdgesOwn lo hi w' a (marksE K n)) ∧ Hid (KeptP (fun c => lo ≤ c ∧ c < hi) w w') := by
  have HN : Hid (l.length = n) := hn
  by_cases h0 : n = 0
  · subst h0
    clear ha hn
    go_enter Try.func43, Try.ntmps43
    go_wp2
    go_loop [5, 1] (fun i k => i = .int .i64 0 ∧ k = .int .i64 (K : Int)) (fun _ _ => 0)
    case atStart => exact ⟨rfl, rfl⟩
    case round =>
      obtain ⟨rfl, rfl⟩ := hrel
      go_wp2
      go_ret
      exact ⟨rfl, .inl (by simp [marksE]), KeptP.refl _ _⟩
  · obtain ⟨b, rfl, h1, h2, hb⟩ : ∃ b, a = some ⟨b, 0, none⟩ ∧ lo ≤ b ∧ b < hi ∧ EBlk w b l := by
      rcases ha with rfl | h
      · exact absurd HN.out (by simp; omega)
      · exact h
    have HX : Hid (lo ≤ b ∧ b < hi) := ⟨h1, h2⟩
    have HB0 : Hid (EBlk w b l) := hb
    clear ha hb hn h1 h2
    go_enter Try.func43, Try.ntmps43
    go_wp2
    go_loopw [5, 1] (fun i s wr => ∃ k : Nat, i = .int .i64 k ∧ s = .int .i64 ((K + k * 3 : Nat) : Int) ∧ k ≤ n ∧ Hid (∃ L : List Ed, L.length = n ∧ EBlk wr b L ∧ ∀ j, j < k → eat L j = eat (marksE K n) j) ∧ Hid (KeptP (fun c => lo ≤ c ∧ c < hi) w wr)) (fun i _ _ => n - (intOf i).toNat)
    case atStart => exact ⟨0, rfl, by simp, by omega, ⟨l, HN.out, HB0.out, fun j hj => absurd hj (by omega)⟩, KeptP.refl _ _⟩
    case round =>
      obtain ⟨k, rfl, rfl, hk, HP, HL⟩ := hrel
      by_cases hlt : k < n
      · have hlt1 : (k : Int) < (n : Int) := by omega
        obtain ⟨L, hL, hblk, hall⟩ := HP.out
        have HBK : Hid (EBlk wr b L) := hblk
        have HALL : Hid (∀ j, j < k → eat L j = eat (marksE K n) j) := hall
        have HLL : Hid (L.length = n) := hL
        have hd0 := Blk.cell hblk (i := k * 3) (by omega)
        have hd1 := Blk.cell hblk (i := k * 3 + 1) (by omega)
        have hd2 := Blk.cell hblk (i := k * 3 + 2) (by omega)
        have hf0 := Blk.frozen hblk (k * 3)
        have hf1 := Blk.frozen hblk (k * 3 + 1)
        have hf2 := Blk.frozen hblk (k * 3 + 2)
        clear hblk hall hL
        go_wp2
        go_roundw
        case rel =>
          have hst := HBK.out.put (k := k) (by rw [HLL.out]; exact hlt) (eat (marksE K n) k)
          rw [marksE_at hlt] at hst
          refine ⟨k + 1, by go_num, by go_num, by omega, ⟨L.set k (eat (marksE K n) k), by rw [List.length_set]; exact HLL.out, ?_, fun j hj => ?_⟩, ?_⟩
          · rw [marksE_at hlt]
            have e0 : ((K + k * 3 : Nat) : Int) = (K : Int) + (k : Int) * 3 := by omega
            have e1 : ((K + k * 3 + 1 : Nat) : Int) = (K : Int) + (k : Int) * 3 + 1 := by omega
            have e2 : ((K + k * 3 + 2 : Nat) : Int) = (K : Int) + (k : Int) * 3 + 1 + 1 := by omega
            rw [e0, e1, e2] at hst ⊢
            exact hst
          · rw [eat_set (by rw [HLL.out]; exact hlt)]
            by_cases e : j = k
            · subst e; rw [if_pos rfl]
            · rw [if_neg e]; exact HALL.out j (by omega)
          · exact ((HL.out.setCell HX.out _).setCell HX.out _).setCell HX.out _
        case measure => simp [intOf]; omega
      · obtain rfl : k = n := by omega
        go_wp2
        go_ret
        obtain ⟨L, hL, hblk, hall⟩ := HP.out
        have : L = marksE K k := eat_ext (by rw [hL, marksE_len]) (fun i hi => hall i (by rw [← hL]; exact hi))
        subst this
        exact ⟨rfl, .inr ⟨b, rfl, HX.out.1, HX.out.2, hblk⟩, HL⟩

set_option maxHeartbeats 1000000 in
theorem markGraph_any (lo hi : Nat) (s : Int) (a : Option Addr) (n cap K : Nat) (l : List Ed) (w : World) (ha : EdgesOwn lo hi w a l) (hh : hi ≤ w.heap.size) (hn : l.length = n) (hm : n ≤ 1048576) (hK : K ≤ 1099511627776) :
    Calls Try.prog 17 #[gv s a n cap, .int .i64 (K : Int)] w fun e w' => ∃ m : Nat, e = .returned (.int .i64 (m : Int)) ∧ Hid (m = K + n * 3) ∧ Hid (EdgesOwn lo hi w' a (marksE K n)) ∧ Hid (KeptP (fun c => lo ≤ c ∧ c < hi) w w') := by
  have HA : Hid (EdgesOwn lo hi w a l) := ha
  have HH : Hid (hi ≤ w.heap.size) := hh
  have HN : Hid (l.length = n) := hn
  clear ha hh hn
  go_enter Try.func17, Try.ntmps17
  go_wp2_with fail
  refine (markEdges_any lo hi a n cap K l _ (HA.out.below (below1 w _) HH.out) HN.out hm hK).mono ?_
  rintro e w1 ⟨rfl, HX, HK⟩
  obtain ⟨m, HM⟩ : ∃ m : Nat, Hid (m = K + n * 3) := ⟨_, rfl⟩
  rw [← HM.out]
  go_wp2
  go_ret
  have h1 := KeptP.of_below (p := fun c => lo ≤ c ∧ c < hi) (below1 w (.cells #[.int .i64 s, .slice a n cap] 29)) (fun k hk _ => hk)
  exact ⟨m, rfl, HM, HX, h1.trans HK.out⟩
open Go.ChangeShapes Go.WideShapes Go.ChangeAt Go.Deep in
set_option maxRecDepth 100000 in
/-- edges that came in, out of their reading -/
theorem edges_trod {H : Type} {enc : TypeId × Value → H} {W : World} {fuel : Nat} {v : Value} {x : DataW H × List MemPlace}
    (hf : DataW.trod enc Try.prog W 0 (fun _ => true) true fuel 22 [v] = some x) : ∃ (ao : Option Addr) (n cap : Nat) (l : List Ed), v = .slice ao n cap ∧ n ≤ maxLen ∧ l.length = n ∧ EdgesIn 0 W.heap.size W ao l := by
  rcases open_slice Try.underlying22 hf with ⟨hcs, _⟩ | ⟨a, len, cap, m, n, D, Pl, hcs, _, hl, hm, hmm, _, hx⟩
  · simp at hcs
    subst hcs
    exact ⟨none, 0, 0, [], rfl, Nat.zero_le _, rfl, .inl rfl⟩
  · simp at hcs
    subst hcs
    have ce : Try.prog.cellsOf 34 = 3 := by kernel_rfl
    have hlm : len ≤ m := by rw [hmm]; simp; exact hl
    have each : ∀ i, i < len → ∃ q : Ed, W.cell? (a.add (i * 3)) = some (.int .i64 q.1) ∧ W.cell? (a.add (i * 3 + 1)) = some (.int .u8 q.2.1) ∧ W.cell? (a.add (i * 3 + 2)) = some (.int .i64 q.2.2) := by
      intro i hi
      obtain ⟨cs', h1, h2⟩ := hx i (by omega)
      rw [ce] at h1
      obtain ⟨_, hlen, hcell⟩ := World.cells?_some h1
      obtain ⟨y0, y1, y2, k, _, _, g0, g1, g2⟩ := trod_struct3 Try.underlying34 h2
      match cs', hlen with
      | [v0, v1, v2], _ =>
        have c3 : Try.prog.cellsOf 3 = 1 := by kernel_rfl
        have c5 : Try.prog.cellsOf 5 = 1 := by kernel_rfl
        simp only [c3, c5, List.drop_zero, List.drop_succ_cons, List.take_succ_cons, List.take_zero] at g0 g1 g2
        obtain ⟨z0, e0, _, _⟩ := DataW.trod_int Try.underlying3 g0
        obtain ⟨z1, e1, _, _⟩ := DataW.trod_int Try.underlying5 g1
        obtain ⟨z2, e2, _, _⟩ := DataW.trod_int Try.underlying3 g2
        simp at e0 e1 e2
        have q0 := hcell 0 (by omega)
        have q1 := hcell 1 (by omega)
        have q2 := hcell 2 (by omega)
        rw [add_add] at q0 q1 q2
        subst e0 e1 e2
        exact ⟨(z0, z1, z2), by simpa using q0, by simpa using q1, by simpa using q2⟩
    obtain ⟨f, hfn⟩ := choose_lt each
    have hgd : ∀ i, i < len → eat ((List.range len).map f) i = f i := fun i hi => by simp [eat, List.getD, hi]
    refine ⟨some a, len, cap, (List.range len).map f, rfl, by omega, by simp, ?_⟩
    by_cases h0 : len = 0
    · exact .inl (by subst h0; rfl)
    · obtain ⟨b, off, spot⟩ := a
      have c0 := (hfn 0 (by omega)).1
      obtain rfl := spot_none (by simpa using c0)
      rw [add_none] at c0
      refine .inr ⟨b, off, rfl, Nat.zero_le _, lt_of_cell c0, fun i hi => ?_⟩
      simp at hi
      obtain ⟨c0, c1, c2⟩ := hfn i hi
      rw [add_none] at c0 c1 c2
      rw [hgd i hi]
      exact ⟨c0, by rw [Nat.add_assoc]; exact c1, by rw [Nat.add_assoc]; exact c2⟩
theorem cells24 : Try.prog.cellsOf 24 = 2 := by kernel_rfl
theorem cells34 : Try.prog.cellsOf 34 = 3 := by kernel_rfl
open Go.ChangeShapes Go.WideShapes Go.ChangeAt Go.Deep in
set_option maxRecDepth 100000 in
/-- a graph that came in, out of its reading -/
theorem graph_in {H : Type} {enc : TypeId × Value → H} {W : World} {r : Reach} {b0 : Nat} {v : Value} {d : DataW H} {ps : List MemPlace} (hv : Value.okWide Try.prog W r b0 24 v)
    (h : DataW.Trod enc Try.prog W 0 (fun _ => true) true 24 v d ps) : ∃ (s : Int) (ao : Option Addr) (n cap : Nat) (l : List Ed), v = gv s ao n cap ∧ n ≤ maxLen ∧ l.length = n ∧ EdgesIn 0 W.heap.size W ao l := by
  obtain ⟨cs, rfl, hsz⟩ := okWide_struct Try.underlying24 hv
  have h1 : cs.size = 2 := hsz.trans cells24
  obtain ⟨v0, v1, rfl⟩ : ∃ v0 v1, cs = #[v0, v1] := by
    refine ⟨cs[0], cs[1], ?_⟩
    apply Array.ext (by simpa using h1)
    intro i hi hi'
    simp at hi'
    rcases (show i = 0 ∨ i = 1 by omega) with rfl | rfl <;> rfl
  obtain ⟨fuel, hf⟩ := h
  obtain ⟨y0, y1, n, hx, _, g0, g1⟩ := trod_struct2 Try.underlying24 hf
  have c3 : Try.prog.cellsOf 3 = 1 := by kernel_rfl
  have c56 : Try.prog.cellsOf 22 = 1 := by kernel_rfl
  have h0' : DataW.trod enc Try.prog W 0 (fun _ => true) true n 3 [v0] = some y0 := by simpa [Value.cells, c3] using g0
  have h1' : DataW.trod enc Try.prog W 0 (fun _ => true) true n 22 [v1] = some y1 := by simpa [Value.cells, c56] using g1
  obtain ⟨z, e, _, _⟩ := DataW.trod_int Try.underlying3 h0'
  simp at e
  obtain ⟨ao, n', cap, l, rfl, hm, hl, hb⟩ := edges_trod h1'
  subst e
  exact ⟨z, ao, n', cap, l, rfl, hm, hl, hb⟩
open Go.ChangeShapes Go.WideShapes Go.ChangeAt Go.Deep in
set_option maxRecDepth 100000 in
/-- an edge that came in, out of its reading -/
theorem edge_in {H : Type} {enc : TypeId × Value → H} {W : World} {r : Reach} {b0 : Nat} {v : Value} {d : DataW H} {ps : List MemPlace} (hv : Value.okWide Try.prog W r b0 34 v)
    (h : DataW.Trod enc Try.prog W 0 (fun _ => true) true 34 v d ps) : ∃ x : Ed, v = ev x := by
  obtain ⟨cs, rfl, hsz⟩ := okWide_struct Try.underlying34 hv
  have h1 : cs.size = 3 := hsz.trans cells34
  obtain ⟨v0, v1, v2, rfl⟩ : ∃ v0 v1 v2, cs = #[v0, v1, v2] := by
    refine ⟨cs[0], cs[1], cs[2], ?_⟩
    apply Array.ext (by simpa using h1)
    intro i hi hi'
    simp at hi'
    rcases (show i = 0 ∨ i = 1 ∨ i = 2 by omega) with rfl | rfl | rfl <;> rfl
  obtain ⟨fuel, hf⟩ := h
  obtain ⟨y0, y1, y2, k, _, _, g0, g1, g2⟩ := trod_struct3 Try.underlying34 hf
  have c3 : Try.prog.cellsOf 3 = 1 := by kernel_rfl
  have c5 : Try.prog.cellsOf 5 = 1 := by kernel_rfl
  have h0' : DataW.trod enc Try.prog W 0 (fun _ => true) true k 3 [v0] = some y0 := by simpa [Value.cells, c3] using g0
  have h1' : DataW.trod enc Try.prog W 0 (fun _ => true) true k 5 [v1] = some y1 := by simpa [Value.cells, c5] using g1
  have h2' : DataW.trod enc Try.prog W 0 (fun _ => true) true k 3 [v2] = some y2 := by simpa [Value.cells, c3] using g2
  obtain ⟨z0, e0, _, _⟩ := DataW.trod_int Try.underlying3 h0'
  obtain ⟨z1, e1, _, _⟩ := DataW.trod_int Try.underlying5 h1'
  obtain ⟨z2, e2, _, _⟩ := DataW.trod_int Try.underlying3 h2'
  simp at e0 e1 e2
  subst e0 e1 e2
  exact ⟨(z0, z1, z2), rfl⟩
end Go.Proofs.Ytfeimdlkpiacoaa
