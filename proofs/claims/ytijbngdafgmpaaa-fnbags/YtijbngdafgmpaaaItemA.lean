/-
  Items: how long they are (szItem, szItemS, szBag), one made new (toItem), two held against one another (eqItem).
-/
import Derived.Test.YtijbngdafgmpaaaBag
namespace Go.Proofs.Ytijbngdafgmpaaa
open Go.RowKit

set_option maxHeartbeats 400000 in
theorem szInts_yes (a : Option Addr) (n cap L : Nat) (w : World) (hm : n ≤ 9223372036854775807) (hL : L ≤ 1048576) (h : n ≤ L) :
    Calls Try.prog 100 #[.slice a n cap, .int .i64 (L : Int)] w fun e w' => e = .returned (.int .i64 ((L - n : Nat) : Int)) ∧ w = w' := by
  have e : ((L - n : Nat) : Int) = (L : Int) - (n : Int) := by omega
  have hn : ¬ (L : Int) - (n : Int) < 0 := by omega
  rw [e]
  go_enter Try.func100, Try.ntmps100
  go_wp2
  go_ret
  exact ⟨rfl, rfl⟩
set_option maxHeartbeats 400000 in
theorem szInts_no (a : Option Addr) (n cap L : Nat) (w : World) (hm : n ≤ 9223372036854775807) (hL : L ≤ 1048576) (h : L < n) :
    Calls Try.prog 100 #[.slice a n cap, .int .i64 (L : Int)] w fun e w' => e = .returned (.int .i64 (-1)) ∧ w = w' := by
  have hn : (L : Int) - (n : Int) < 0 := by omega
  go_enter Try.func100, Try.ntmps100
  go_wp2
  go_ret
  exact ⟨rfl, rfl⟩

set_option maxHeartbeats 400000 in
theorem szItem_yes (a : Option Addr) (n cap L : Nat) (t : Int) (w : World) (hm : n ≤ 9223372036854775807) (hL : L ≤ 1048576) (h : n ≤ L) :
    Calls Try.prog 92 #[.agg #[.slice a n cap, .int .i64 t], .int .i64 (L : Int)] w fun e w' => e = .returned (.int .i64 ((L - n : Nat) : Int)) ∧ Below w.heap.size w w' := by
  have hn : ¬ ((L - n : Nat) : Int) < 0 := by omega
  go_enter Try.func92, Try.ntmps92
  go_wp2_with fail
  refine (szInts_yes a n cap L _ hm hL h).mono ?_
  rintro e w' ⟨rfl, rfl⟩
  go_wp2
  go_ret
  exact ⟨rfl, (Below.refl _ _).alloc (Nat.le_refl _) _⟩

set_option maxHeartbeats 400000 in
theorem szItem_no (a : Option Addr) (n cap L : Nat) (t : Int) (w : World) (hm : n ≤ 9223372036854775807) (hL : L ≤ 1048576) (h : L < n) :
    Calls Try.prog 92 #[.agg #[.slice a n cap, .int .i64 t], .int .i64 (L : Int)] w fun e w' => e = .returned (.int .i64 (-1)) ∧ Below w.heap.size w w' := by
  go_enter Try.func92, Try.ntmps92
  go_wp2_with fail
  refine (szInts_no a n cap L _ hm hL h).mono ?_
  rintro e w' ⟨rfl, rfl⟩
  go_wp2
  go_ret
  exact ⟨rfl, (Below.refl _ _).alloc (Nat.le_refl _) _⟩

/-- what lay ahead of two blocks -/
theorem below2 (w : World) (o1 o2 : Obj) : Below w.heap.size w ((w.alloc o1).alloc o2) := ((Below.refl _ _).alloc (Nat.le_refl _) _).alloc (by simp) _

set_option maxHeartbeats 1000000 in
theorem eqItem_any (lo hi lo' hi' : Nat) (a a' : Option Addr) (n n' cap cap' : Nat) (t t' : Int) (l l' : List Int) (r : Bool) (w : World) (ha : RowIn lo hi w a l) (hb : RowIn lo' hi' w a' l') (hh : hi ≤ w.heap.size) (hh' : hi' ≤ w.heap.size) (hn : l.length = n) (hn' : l'.length = n') (hm : n ≤ 1048576) (hr : r = decide ((l, t) = (l', t'))) :
    Calls Try.prog 94 #[.agg #[.slice a n cap, .int .i64 t], .agg #[.slice a' n' cap', .int .i64 t']] w fun e w' => e = .returned (.bool r) ∧ Below w.heap.size w w' := by
  have HR : Hid (r = decide ((l, t) = (l', t'))) := hr
  have HA : Hid (RowIn lo hi w a l) := ha
  have HB : Hid (RowIn lo' hi' w a' l') := hb
  have HN : Hid (l.length = n) := hn
  have HN' : Hid (l'.length = n') := hn'
  have HH : Hid (hi ≤ w.heap.size ∧ hi' ≤ w.heap.size) := ⟨hh, hh'⟩
  obtain ⟨s, HS⟩ : ∃ s : Bool, Hid (s = decide (l = l')) := ⟨_, rfl⟩
  clear ha hb hr hn hn' hh hh'
  go_enter Try.func94, Try.ntmps94
  go_wp2_with fail
  refine (eqInts_any lo hi lo' hi' a a' n n' cap cap' l l' s _ (HA.out.below (below2 _ _ _) HH.out.1) (HB.out.below (below2 _ _ _) HH.out.2) HN.out HN'.out hm HS.out).mono ?_
  rintro e w1 ⟨rfl, hb1⟩
  have hc1 : w1.cell? ⟨w.heap.size, 1, none⟩ = some (.int .i64 t) := by rw [hb1.cell (by simp; omega)]; simp
  have hc2 : w1.cell? ⟨w.heap.size + 1, 1, none⟩ = some (.int .i64 t') := by rw [hb1.cell (by simp)]; simp
  have HB1 : Hid (Below w.heap.size w w1) := (below2 w _ _).trans (hb1.mono (by simp; omega))
  clear hb1
  cases s
  · go_wp2
    go_ret
    refine ⟨?_, HB1.out⟩
    have h1 : ¬ l = l' := by have := HS.out; simpa using this.symm
    have : r = false := by rw [HR.out]; simp [h1]
    rw [this]; rfl
  · have h1 : l = l' := by have := HS.out; simpa using this.symm
    have HT : Hid (r = decide (t = t')) := by show _ = _; rw [HR.out]; simp [h1]
    clear h1
    by_cases ht : t = t'
    · subst ht
      go_wp2
      go_ret
      refine ⟨?_, HB1.out⟩
      have : r = true := by rw [HT.out]; simp
      rw [this]; rfl
    · go_wp2
      go_ret
      refine ⟨?_, HB1.out⟩
      have : r = false := by rw [HT.out]; simp [ht]
      rw [this]; rfl

theorem blk_new (w : World) (cs : Array Value) (T : TypeId) (f : Nat → Value) (h : ∀ i, i < cs.size → cs[i]? = some (f i)) : Blk (w.alloc (.cells cs T)) w.heap.size cs.size f := by
  refine ⟨cs, T, ?_, h⟩
  show (w.heap.push _)[w.heap.size]? = _
  simp
/-- a new block of two cells -/
theorem blk_two (w : World) (b : Nat) (hb : b = w.heap.size) (x y : Value) (T : TypeId) : Blk (w.alloc (.cells #[x, y] T)) b 2 (fun i => if i = 0 then x else y) :=
  hb ▸ blk_new w #[x, y] T _ (fun i hi => by
    have hi' : i < 2 := hi
    rcases i with _ | _ | i
    · rfl
    · rfl
    · omega)
theorem Blk.alloc {w : World} {b n : Nat} {f : Nat → Value} (h : Blk w b n f) (o : Obj) : Blk (w.alloc o) b n f := h.of_block (Below.heap_alloc w o b h.lt)

/-- toIntS, its answer behind a letter -/
theorem toIL (lo hi : Nat) (a : Option Addr) (n cap : Nat) (l : List Int) (w : World) (ha : RowIn lo hi w a l) (hh : hi ≤ w.heap.size) (hn : l.length = n) (hm : n ≤ 1048576) :
    Calls Try.prog 39 #[.slice a n cap] w fun e w' => ∃ g : Nat, e = .returned (.slice (some ⟨g, 0, none⟩) n n) ∧ Hid (RowOwn w.heap.size w'.heap.size w' (some ⟨g, 0, none⟩) l) ∧ Hid (Below w.heap.size w w') :=
  (toInts_any lo hi a n cap l w ha hh hn hm).mono fun _ _ ⟨h1, h2, h3, _⟩ => ⟨_, h1, h2, h3⟩

theorem below3 (w : World) (o1 o2 o3 : Obj) : Below w.heap.size w (((w.alloc o1).alloc o2).alloc o3) := (below2 w o1 o2).alloc (by simp; omega) _

theorem RowOwn.setCell {lo hi b j : Nat} {w : World} {a : Option Addr} {l : List Int} (h : RowOwn lo hi w a l) (hb : b < lo) (v : Value) : RowOwn lo hi (w.setCell ⟨b, j, none⟩ v) a l := by
  rcases h with h | ⟨g, e, h1, h2, h3⟩
  · exact .inl h
  · exact .inr ⟨g, e, h1, h2, h3.of_block (Below.heap_setCell w ⟨b, j, none⟩ v g (by simp; omega))⟩

set_option maxHeartbeats 1000000 in
theorem toItem_any (lo hi : Nat) (a : Option Addr) (n cap : Nat) (t : Int) (l : List Int) (w : World) (ha : RowIn lo hi w a l) (hh : hi ≤ w.heap.size) (hn : l.length = n) (hm : n ≤ 1048576) :
    Calls Try.prog 93 #[.agg #[.slice a n cap, .int .i64 t]] w fun e w' => ∃ g : Nat, e = .returned (.agg #[.slice (some ⟨g, 0, none⟩) n n, .int .i64 t]) ∧ Hid (RowOwn w.heap.size w'.heap.size w' (some ⟨g, 0, none⟩) l) ∧ Hid (Below w.heap.size w w') := by
  have HA : Hid (RowIn lo hi w a l) := ha
  have HN : Hid (l.length = n) := hn
  have HH : Hid (hi ≤ w.heap.size) := hh
  clear ha hn hh
  go_enter Try.func93, Try.ntmps93
  go_wp2_with fail
  refine (toIL lo hi a n cap l _ (HA.out.below (below3 w _ _ _) HH.out) (by have := HH.out; simp; omega) HN.out hm).mono ?_
  rintro e w1 ⟨g, rfl, hx, hb⟩
  have hb1 := hb.out
  clear hb
  have k0 := (((blk_two w w.heap.size rfl (.slice a n cap) (.int .i64 t) 118).alloc (.cells #[.slice none 0 0, .int .i64 0] 35)).alloc (.cells #[.slice none 0 0, .int .i64 0] 35)).of_block (hb1.block w.heap.size (by simp; omega))
  have k1 := ((blk_two (w.alloc (.cells #[.slice a n cap, .int .i64 t] 118)) (w.heap.size + 1) (by simp) (.slice none 0 0) (.int .i64 0) 35).alloc (.cells #[.slice none 0 0, .int .i64 0] 35)).of_block (hb1.block (w.heap.size + 1) (by simp))
  have k2 := (blk_two ((w.alloc (.cells #[.slice a n cap, .int .i64 t] 118)).alloc (.cells #[.slice none 0 0, .int .i64 0] 35)) (w.heap.size + 1 + 1) (by simp) (.slice none 0 0) (.int .i64 0) 35).of_block (hb1.block (w.heap.size + 1 + 1) (by simp))
  have c0 : w1.cell? ⟨w.heap.size, 1, none⟩ = some (.int .i64 t) := k0.cell (i := 1) (by omega)
  have c1 : w1.cell? ⟨w.heap.size + 1, 0, none⟩ = some (.slice none 0 0) := k1.cell (i := 0) (by omega)
  have c2 : w1.cell? ⟨w.heap.size + 1, 1, none⟩ = some (.int .i64 0) := k1.cell (i := 1) (by omega)
  have c3 : w1.cell? ⟨w.heap.size + 1 + 1, 0, none⟩ = some (.slice none 0 0) := k2.cell (i := 0) (by omega)
  have c4 : w1.cell? ⟨w.heap.size + 1 + 1, 1, none⟩ = some (.int .i64 0) := k2.cell (i := 1) (by omega)
  have f1 : w1.frozen? ⟨w.heap.size + 1, 0, none⟩ = false := k1.frozen 0
  have f2 : w1.frozen? ⟨w.heap.size + 1, 1, none⟩ = false := k1.frozen 1
  have f3 : w1.frozen? ⟨w.heap.size + 1 + 1, 0, none⟩ = false := k2.frozen 0
  have f4 : w1.frozen? ⟨w.heap.size + 1 + 1, 1, none⟩ = false := k2.frozen 1
  clear k0 k1 k2
  have HX : Hid (RowOwn (w.heap.size + 1 + 1 + 1) w1.heap.size w1 (some ⟨g, 0, none⟩) l) := by have := hx.out; simp at this; exact this
  have HB : Hid (Below w.heap.size w w1) := (below3 w _ _ _).trans (hb1.mono (by simp; omega))
  clear hx hb1
  go_wp2
  refine bodyPost_ret (v := .agg #[.slice (some ⟨g, 0, none⟩) n n, .int .i64 t]) (by simp [results, Try.results93, go_sem, c1, c2]) rfl ?_
  refine ⟨g, rfl, ?_, ?_⟩
  · have := ((((HX.out.setCell (b := w.heap.size + 1 + 1) (j := 0) (by omega) (.slice (some ⟨g, 0, none⟩) n n)).setCell (b := w.heap.size + 1 + 1) (j := 1) (by omega) (.int .i64 t)).setCell (b := w.heap.size + 1) (j := 0) (by omega) (.slice (some ⟨g, 0, none⟩) n n)).setCell (b := w.heap.size + 1) (j := 1) (by omega) (.int .i64 t))
    exact (this.wide (by omega) (by simp))
  · exact (((HB.out.setCell (by simp; omega) _).setCell (by simp; omega) _).setCell (by simp) _).setCell (by simp) _
end Go.Proofs.Ytijbngdafgmpaaa
