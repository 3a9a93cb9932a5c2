/-
  Paths: how one lies in the world (PathIn), one that is owned (PathOwn); a path that came in, out of its reading; how long one is (szPath), made new (toPath).
-/
import Derived.Test.YtkcflhlipdnbnaaHld
import Derived.Test.YtkcflhlipdnbnaaApp
import Derived.Laws.MakeOwn
namespace Go.Proofs.Ytkcflhlipdnbnaa
open Go.RowKit

/-- a piece: Op, Label, Kids -/
abbrev Pc := Int × Int × List Int
def pat (l : List Pc) (i : Nat) : Pc := l.getD i (0, 0, [])
theorem pat_get {l : List Pc} {i : Nat} (h : i < l.length) : pat l i = l[i] := by simp [pat, List.getD, h]
theorem pat_ext {l l' : List Pc} (h1 : l.length = l'.length) (h : ∀ i, i < l.length → pat l i = pat l' i) : l = l' := by
  apply List.ext_getElem h1
  intro i hi hi'
  have := h i hi
  rwa [pat_get hi, pat_get hi'] at this
abbrev pv (a : Option Addr) (n cap : Nat) : Value := .agg #[.slice a n cap]
/-- a piece that lies at a place -/
def PieceAt (lo hi : Nat) (w : World) (b o : Nat) (x : Pc) : Prop :=
  w.cell? ⟨b, o, none⟩ = some (.int .i64 x.1) ∧ w.cell? ⟨b, o + 1, none⟩ = some (.int .u8 x.2.1) ∧ ∃ ra rc, w.cell? ⟨b, o + 2, none⟩ = some (.slice ra x.2.2.length rc) ∧ RowIn lo hi w ra x.2.2
/-- pieces that are reached by a slice; blocks are of lo .. hi - 1 -/
def PathIn (lo hi : Nat) (w : World) (a : Option Addr) (l : List Pc) : Prop :=
  l = [] ∨ ∃ b o, a = some ⟨b, o, none⟩ ∧ lo ≤ b ∧ b < hi ∧ ∀ i, i < l.length → PieceAt lo hi w b (o + i * 3) (pat l i)

theorem PieceAt.below {lo hi B : Nat} {w w' : World} {b o : Nat} {x : Pc} (h : PieceAt lo hi w b o x) (hb : Below B w w') (hB : hi ≤ B) (hl : b < B) : PieceAt lo hi w' b o x := by
  obtain ⟨h1, h2, ra, rc, h3, h4⟩ := h
  exact ⟨cell_below h1 hb hl, cell_below h2 hb hl, ra, rc, cell_below h3 hb hl, h4.below hb hB⟩
theorem PathIn.below {lo hi B : Nat} {w w' : World} {a : Option Addr} {l : List Pc} (h : PathIn lo hi w a l) (hb : Below B w w') (hB : hi ≤ B) : PathIn lo hi w' a l := by
  rcases h with h | ⟨b, o, e, h1, h2, h3⟩
  · exact .inl h
  · exact .inr ⟨b, o, e, h1, h2, fun i hi => (h3 i hi).below hb hB (by omega)⟩
theorem PathIn.wide {lo hi lo' hi' : Nat} {w : World} {a : Option Addr} {l : List Pc} (h : PathIn lo hi w a l) (h1 : lo' ≤ lo) (h2 : hi ≤ hi') : PathIn lo' hi' w a l := by
  rcases h with h | ⟨b, o, e, h3, h4, h5⟩
  · exact .inl h
  · refine .inr ⟨b, o, e, by omega, by omega, fun i hi => ?_⟩
    obtain ⟨g1, g2, ra, rc, g3, g4⟩ := h5 i hi
    exact ⟨g1, g2, ra, rc, g3, g4.wide h1 h2⟩
theorem PathIn.kept {lo hi : Nat} {p : Nat → Prop} {w w' : World} {a : Option Addr} {l : List Pc} (h : PathIn lo hi w a l) (hk : KeptP p w w') (hh : hi ≤ w.heap.size) (hp : ∀ k, lo ≤ k → k < hi → ¬ p k) : PathIn lo hi w' a l := by
  rcases h with h | ⟨b, o, e, h1, h2, h3⟩
  · exact .inl h
  · refine .inr ⟨b, o, e, h1, h2, fun i hi => ?_⟩
    obtain ⟨g1, g2, ra, rc, g3, g4⟩ := h3 i hi
    exact ⟨hk.cell g1 (by omega) (hp b h1 h2), hk.cell g2 (by omega) (hp b h1 h2), ra, rc, hk.cell g3 (by omega) (hp b h1 h2), g4.kept hk hh hp⟩
/-- a piece of a path -/
theorem PathIn.piece {lo hi : Nat} {w : World} {a : Option Addr} {l : List Pc} (h : PathIn lo hi w a l) {k : Nat} (hk : k < l.length) : ∃ b o, a = some ⟨b, o, none⟩ ∧ lo ≤ b ∧ b < hi ∧ PieceAt lo hi w b (o + k * 3) (pat l k) := by
  rcases h with rfl | ⟨b, o, e, h1, h2, h3⟩
  · simp at hk
  · exact ⟨b, o, e, h1, h2, h3 k hk⟩

/-- the kids of all pieces ahead of place k -/
def kidsLen (l : List Pc) : Nat → Nat
  | 0 => 0
  | k + 1 => kidsLen l k + (pat l k).2.2.length
theorem kidsLen_mono (l : List Pc) {i k : Nat} (h : i ≤ k) : kidsLen l i ≤ kidsLen l k := by
  induction k with
  | zero => obtain rfl : i = 0 := by omega
            exact Nat.le_refl _
  | succ k ih =>
    rcases Nat.lt_or_ge i (k + 1) with h1 | h1
    · have := ih (by omega); simp only [kidsLen]; omega
    · obtain rfl : i = k + 1 := by omega
      exact Nat.le_refl _
theorem kids_le (l : List Pc) {i k : Nat} (h : i < k) : (pat l i).2.2.length ≤ kidsLen l k := by
  have := kidsLen_mono l (i := i + 1) (k := k) (by omega)
  simp only [kidsLen] at this
  omega

open Go.ChangeShapes Go.WideShapes Go.ChangeAt Go.Deep in
/-- a row that came in, out of its reading -/
theorem kids_trod {H : Type} {enc : TypeId × Value → H} {W : World} {fuel : Nat} {ao : Option Addr} {n cap : Nat} {x : DataW H × List MemPlace}
    (hf : DataW.trod enc Try.prog W 0 (fun _ => true) true fuel 68 [.slice ao n cap] = some x) : ∃ l : List Int, l.length = n ∧ RowIn 0 W.heap.size W ao l ∧ n ≤ maxLen := by
  rcases open_ints Try.underlying68 Try.underlying3 (by kernel_rfl) hf with ⟨hcs, _⟩ | ⟨x, l, c, zs, hcs, _, hl, hm, hz, _, hcell, hwz⟩
  · simp at hcs
    obtain ⟨rfl, rfl, rfl⟩ := hcs
    exact ⟨[], rfl, .inl rfl, Nat.zero_le _⟩
  · simp at hcs
    obtain ⟨rfl, rfl, rfl⟩ := hcs
    have hzl : zs.length = cap := by simpa using hz
    refine ⟨zs.take n, by simp; omega, ?_, by omega⟩
    by_cases h0 : n = 0
    · exact .inl (by subst h0; simp)
    · obtain ⟨b, off, spot⟩ := x
      have c0 := hcell 0 (by omega)
      obtain rfl := spot_none c0
      rw [add_none] at c0
      refine .inr ⟨b, off, rfl, Nat.zero_le _, lt_of_cell c0, fun i hi => ?_⟩
      have hi' : i < n := by simp at hi; omega
      have ck := hcell i (by omega)
      rw [add_none] at ck
      rw [ck]
      simp [List.getD, List.getElem?_take_of_lt hi']

open Go.ChangeShapes Go.WideShapes Go.ChangeAt Go.Deep in
set_option maxRecDepth 100000 in
/-- pieces that came in, out of their reading -/
theorem pieces_trod {H : Type} {enc : TypeId × Value → H} {W : World} {fuel : Nat} {v : Value} {x : DataW H × List MemPlace}
    (hf : DataW.trod enc Try.prog W 0 (fun _ => true) true fuel 22 [v] = some x) : ∃ (ao : Option Addr) (n cap : Nat) (l : List Pc), v = .slice ao n cap ∧ n ≤ maxLen ∧ (l.length = n ∧ ∀ i, i < n → (pat l i).2.2.length ≤ maxLen) ∧ PathIn 0 W.heap.size W ao l := by
  rcases open_slice Try.underlying22 hf with ⟨hcs, _⟩ | ⟨a, len, cap, m, n, D, Pl, hcs, _, hl, hm, hmm, _, hx⟩
  · simp at hcs
    subst hcs
    exact ⟨none, 0, 0, [], rfl, Nat.zero_le _, ⟨rfl, fun i hi => absurd hi (Nat.not_lt_zero _)⟩, .inl rfl⟩
  · simp at hcs
    subst hcs
    have ce : Try.prog.cellsOf 123 = 3 := by kernel_rfl
    have hlm : len ≤ m := by rw [hmm]; simp; exact hl
    have each : ∀ i, i < len → ∃ q : (Option Addr × Nat) × Pc, W.cell? (a.add (i * 3)) = some (.int .i64 q.2.1) ∧ W.cell? (a.add (i * 3 + 1)) = some (.int .u8 q.2.2.1) ∧ W.cell? (a.add (i * 3 + 2)) = some (.slice q.1.1 q.2.2.2.length q.1.2) ∧ RowIn 0 W.heap.size W q.1.1 q.2.2.2 ∧ q.2.2.2.length ≤ maxLen := by
      intro i hi
      obtain ⟨cs', h1, h2⟩ := hx i (by omega)
      rw [ce] at h1
      obtain ⟨_, hlen, hcell⟩ := World.cells?_some h1
      obtain ⟨y0, y1, y2, k, _, _, g0, g1, g2⟩ := trod_struct3 Try.underlying123 h2
      match cs', hlen with
      | [v0, v1, v2], _ =>
        have c3 : Try.prog.cellsOf 3 = 1 := by kernel_rfl
        have c5 : Try.prog.cellsOf 5 = 1 := by kernel_rfl
        have c29 : Try.prog.cellsOf 68 = 1 := by kernel_rfl
        simp only [c3, c5, c29, List.drop_zero, List.drop_succ_cons, List.take_succ_cons, List.take_zero] at g0 g1 g2
        obtain ⟨z0, e0, _, _⟩ := DataW.trod_int Try.underlying3 g0
        obtain ⟨z1, e1, _, _⟩ := DataW.trod_int Try.underlying5 g1
        have e2 : ∃ ra rn rc, v2 = .slice ra rn rc := by
          rcases open_ints Try.underlying68 Try.underlying3 (by kernel_rfl) g2 with ⟨h, _⟩ | ⟨_, _, _, _, h, _⟩ <;> (simp at h; exact ⟨_, _, _, h⟩)
        obtain ⟨ra, rn, rc, e2⟩ := e2
        rw [e2] at g2
        obtain ⟨kl, hl1, hl2, hl3⟩ := kids_trod g2
        simp at e0 e1
        have q0 := hcell 0 (by omega)
        have q1 := hcell 1 (by omega)
        have q2 := hcell 2 (by omega)
        rw [add_add] at q0 q1 q2
        subst e0 e1 e2
        exact ⟨((ra, rc), (z0, z1, kl)), by simpa using q0, by simpa using q1, by rw [hl1]; simpa using q2, hl2, by rw [hl1]; exact hl3⟩
    obtain ⟨f, hfn⟩ := choose_lt each
    have hgd : ∀ i, i < len → pat ((List.range len).map fun i => (f i).2) i = (f i).2 := fun i hi => by simp [pat, List.getD, hi]
    refine ⟨some a, len, cap, (List.range len).map fun i => (f i).2, rfl, by omega, ⟨by simp, fun i hi => by rw [hgd i hi]; exact (hfn i hi).2.2.2.2⟩, ?_⟩
    by_cases h0 : len = 0
    · exact .inl (by subst h0; rfl)
    · obtain ⟨b, off, spot⟩ := a
      have c0 := (hfn 0 (by omega)).1
      obtain rfl := spot_none (by simpa using c0)
      rw [add_none] at c0
      refine .inr ⟨b, off, rfl, Nat.zero_le _, lt_of_cell c0, fun i hi => ?_⟩
      simp at hi
      obtain ⟨c0, c1, c2, c3, _⟩ := hfn i hi
      rw [add_none] at c0 c1 c2
      rw [hgd i hi]
      exact ⟨c0, by rw [Nat.add_assoc]; exact c1, _, _, by rw [Nat.add_assoc]; exact c2, c3⟩
theorem cellsPath : Try.prog.cellsOf 24 = 1 := by kernel_rfl
open Go.ChangeShapes Go.WideShapes Go.ChangeAt Go.Deep in
set_option maxRecDepth 100000 in
/-- a path that came in, out of its reading -/
theorem path_in {H : Type} {enc : TypeId × Value → H} {W : World} {r : Reach} {b0 : Nat} {v : Value} {d : DataW H} {ps : List MemPlace} (hv : Value.okWide Try.prog W r b0 24 v)
    (h : DataW.Trod enc Try.prog W 0 (fun _ => true) true 24 v d ps) : ∃ (ao : Option Addr) (n cap : Nat) (l : List Pc), v = pv ao n cap ∧ n ≤ maxLen ∧ (l.length = n ∧ ∀ i, i < n → (pat l i).2.2.length ≤ maxLen) ∧ PathIn 0 W.heap.size W ao l := by
  obtain ⟨cs, rfl, hsz⟩ := okWide_struct Try.underlying24 hv
  have h1 : cs.size = 1 := hsz.trans cellsPath
  obtain ⟨v0, rfl⟩ : ∃ v0, cs = #[v0] := by
    refine ⟨cs[0], ?_⟩
    apply Array.ext (by simpa using h1)
    intro i hi hi'
    simp at hi'
    subst hi'
    rfl
  obtain ⟨fuel, hf⟩ := h
  obtain ⟨y0, n, hx, _, h0⟩ := trod_struct1 Try.underlying24 hf
  have c47 : Try.prog.cellsOf 22 = 1 := by kernel_rfl
  have h0' : DataW.trod enc Try.prog W 0 (fun _ => true) true n 22 [v0] = some y0 := by simpa [Value.cells, c47] using h0
  obtain ⟨ao, n', cap, l, rfl, hm, hl, hb⟩ := pieces_trod h0'
  exact ⟨ao, n', cap, l, rfl, hm, hl, hb⟩

set_option maxHeartbeats 400000 in
theorem szInts_yes (a : Option Addr) (n cap L : Nat) (w : World) (hm : n ≤ 9223372036854775807) (hL : L ≤ 1048576) (h : n ≤ L) :
    Calls Try.prog 95 #[.slice a n cap, .int .i64 (L : Int)] w fun e w' => e = .returned (.int .i64 ((L - n : Nat) : Int)) ∧ w = w' := by
  have e : ((L - n : Nat) : Int) = (L : Int) - (n : Int) := by omega
  have hn : ¬ (L : Int) - (n : Int) < 0 := by omega
  rw [e]
  go_enter Try.func95, Try.ntmps95
  go_wp2
  go_ret
  exact ⟨rfl, rfl⟩
set_option maxHeartbeats 400000 in
theorem szInts_no (a : Option Addr) (n cap L : Nat) (w : World) (hm : n ≤ 9223372036854775807) (hL : L ≤ 1048576) (h : L < n) :
    Calls Try.prog 95 #[.slice a n cap, .int .i64 (L : Int)] w fun e w' => e = .returned (.int .i64 (-1)) ∧ w = w' := by
  have hn : (L : Int) - (n : Int) < 0 := by omega
  go_enter Try.func95, Try.ntmps95
  go_wp2
  go_ret
  exact ⟨rfl, rfl⟩
set_option maxHeartbeats 400000 in
theorem szPiece_yes (x y : Int) (a : Option Addr) (n cap L : Nat) (w : World) (hm : n ≤ 9223372036854775807) (hL : L ≤ 1048576) (h : n ≤ L) :
    Calls Try.prog 73 #[.agg #[.int .i64 x, .int .u8 y, .slice a n cap], .int .i64 (L : Int)] w fun e w' => e = .returned (.int .i64 ((L - n : Nat) : Int)) ∧ Below w.heap.size w w' := by
  have hn : ¬ ((L - n : Nat) : Int) < 0 := by omega
  go_enter Try.func73, Try.ntmps73
  go_wp2_with fail
  refine (szInts_yes a n cap L _ hm hL h).mono ?_
  rintro e w' ⟨rfl, rfl⟩
  go_wp2
  go_ret
  exact ⟨rfl, below1 _ _⟩
set_option maxHeartbeats 400000 in
theorem szPiece_no (x y : Int) (a : Option Addr) (n cap L : Nat) (w : World) (hm : n ≤ 9223372036854775807) (hL : L ≤ 1048576) (h : L < n) :
    Calls Try.prog 73 #[.agg #[.int .i64 x, .int .u8 y, .slice a n cap], .int .i64 (L : Int)] w fun e w' => e = .returned (.int .i64 (-1)) ∧ Below w.heap.size w w' := by
  go_enter Try.func73, Try.ntmps73
  go_wp2_with fail
  refine (szInts_no a n cap L _ hm hL h).mono ?_
  rintro e w' ⟨rfl, rfl⟩
  go_wp2
  go_ret
  exact ⟨rfl, below1 _ _⟩

set_option maxHeartbeats 1000000 in
set_option maxRecDepth 100000 in
theorem szPieces_any (lo hi : Nat) (a : Option Addr) (n cap L : Nat) (l : List Pc) (w : World) (ha : PathIn lo hi w a l) (hh : hi ≤ w.heap.size) (hn : l.length = n) (hm : n ≤ maxLen) (hr : ∀ i, i < n → (pat l i).2.2.length ≤ maxLen) (hL : L ≤ 1048576) :
    Calls Try.prog 32 #[.slice a n cap, .int .i64 (L : Int)] w fun e w' => ∃ r : Int, e = .returned (.int .i64 r) ∧ Hid (r = -1 ∨ (0 ≤ r ∧ ((n + kidsLen l n : Nat) : Int) + r = L)) ∧ Hid (Below w.heap.size w w') := by
  have HN : Hid (l.length = n) := hn
  have HA : Hid (PathIn lo hi w a l) := ha
  have HH : Hid (hi ≤ w.heap.size) := hh
  have HR : Hid (∀ i, i < n → (pat l i).2.2.length ≤ maxLen) := hr
  have hm' : n ≤ 9223372036854775807 := by simpa [maxLen] using hm
  clear ha hn hh hr hm
  by_cases h0 : L < n
  · have hd : (L : Int) - (n : Int) < 0 := by omega
    go_enter Try.func32, Try.ntmps32
    go_wp2
    go_ret
    exact ⟨-1, rfl, .inl rfl, Below.refl _ _⟩
  · have hd : ¬ (L : Int) - (n : Int) < 0 := by omega
    go_enter Try.func32, Try.ntmps32
    go_wp2
    go_loopw [5, 1] (fun i s wr => ∃ k m : Nat, i = .int .i64 k ∧ s = .int .i64 (m : Int) ∧ k ≤ n ∧ Hid (n + kidsLen l k + m = L) ∧ Hid (Below w.heap.size w wr)) (fun i _ _ => n - (intOf i).toNat)
    case atStart => exact ⟨0, L - n, rfl, by simp; omega, by omega, by show _ = _; simp [kidsLen]; omega, Below.refl _ _⟩
    case round =>
      obtain ⟨k, m, rfl, rfl, hk, HE, HL⟩ := hrel
      have hmL : m ≤ 1048576 := by have := HE.out; omega
      by_cases hlt : k < n
      · have hlt1 : (k : Int) < (n : Int) := by omega
        obtain ⟨b, o, rfl, h1, h2, hc0, hc1, ra, rc, hc2, _⟩ := (HA.out.below HL.out HH.out).piece (k := k) (by rw [HN.out]; exact hlt)
        have hq : (pat l k).2.2.length ≤ 9223372036854775807 := by have := HR.out k hlt; simpa [maxLen] using this
        have HS : Hid (kidsLen l (k + 1) = kidsLen l k + (pat l k).2.2.length) := rfl
        obtain ⟨q, HQ⟩ : ∃ q : Nat, Hid (q = (pat l k).2.2.length) := ⟨_, rfl⟩
        obtain ⟨x, HX⟩ : ∃ x, Hid (x = (pat l k).1) := ⟨_, rfl⟩
        obtain ⟨y, HY⟩ : ∃ x, Hid (x = (pat l k).2.1) := ⟨_, rfl⟩
        rw [← HX.out] at hc0
        rw [← HY.out] at hc1
        rw [← HQ.out] at hc2 hq HS
        by_cases hfit : q ≤ m
        · go_wp2_with fail
          refine (szPiece_yes x y ra q rc m wr hq hmL hfit).mono ?_
          rintro e w1 ⟨rfl, hb1⟩
          have hd2 : ¬ ((m - q : Nat) : Int) < 0 := by omega
          go_wp2
          go_roundw
          case rel => exact ⟨k + 1, m - q, by go_num, rfl, by omega, by have := HE.out; have := HS.out; show _ = _; omega, HL.out.trans (hb1.mono HL.out.size)⟩
          case measure => simp [intOf]; omega
        · go_wp2_with fail
          refine (szPiece_no x y ra q rc m wr hq hmL (by omega)).mono ?_
          rintro e w1 ⟨rfl, hb1⟩
          go_wp2
          go_ret
          exact ⟨-1, rfl, .inl rfl, HL.out.trans (hb1.mono HL.out.size)⟩
      · obtain rfl : k = n := by omega
        go_wp2
        go_ret
        exact ⟨m, rfl, .inr ⟨by omega, by have := HE.out; omega⟩, HL.out⟩

set_option maxHeartbeats 1000000 in
theorem szPath_any (lo hi : Nat) (a : Option Addr) (n cap L : Nat) (l : List Pc) (w : World) (ha : PathIn lo hi w a l) (hh : hi ≤ w.heap.size) (hn : l.length = n) (hm : n ≤ maxLen) (hr : ∀ i, i < n → (pat l i).2.2.length ≤ maxLen) (hL : L ≤ 1048576) :
    Calls Try.prog 8 #[pv a n cap, .int .i64 (L : Int)] w fun e w' => ∃ r : Int, e = .returned (.int .i64 r) ∧ Hid (r = -1 ∨ (0 ≤ r ∧ ((n + kidsLen l n : Nat) : Int) + r = L)) ∧ Hid (Below w.heap.size w w') := by
  have HC' : Hid (∀ o, Calls Try.prog 32 #[.slice a n cap, .int .i64 (L : Int)] (w.alloc o) fun e w' => ∃ r : Int, e = .returned (.int .i64 r) ∧ Hid (r = -1 ∨ (0 ≤ r ∧ ((n + kidsLen l n : Nat) : Int) + r = L)) ∧ Hid (Below (w.alloc o).heap.size (w.alloc o) w')) := fun o => szPieces_any lo hi a n cap L l (w.alloc o) (ha.below (below1 _ _) hh) (by simp; omega) hn hm hr hL
  clear ha hh hn hm hr
  unfold pv
  go_enter Try.func8, Try.ntmps8
  go_wp2_with fail
  refine (HC'.out _).mono ?_
  rintro e w1 ⟨r, rfl, H1, H2⟩
  have HB : Hid (Below w.heap.size w w1) := (below1 _ _).trans (H2.out.mono (by simp))
  clear H2
  by_cases hr : r < 0
  · go_wp2
    go_ret
    exact ⟨-1, rfl, .inl rfl, HB⟩
  · go_wp2
    go_ret
    exact ⟨r, rfl, H1, HB⟩

set_option maxHeartbeats 1000000 in
set_option maxRecDepth 100000 in
theorem toInts_any (lo hi : Nat) (a : Option Addr) (n cap : Nat) (l : List Int) (w : World) (ha : RowIn lo hi w a l) (hh : hi ≤ w.heap.size) (hn : l.length = n) (hm : n ≤ 1048576) :
    Calls Try.prog 96 #[.slice a n cap] w fun e w' => e = .returned (.slice (some ⟨w.heap.size, 0, none⟩) n n) ∧ RowOwn w.heap.size w'.heap.size w' (some ⟨w.heap.size, 0, none⟩) l ∧ Below w.heap.size w w' ∧ w'.heap.size = w.heap.size + 1 := by
  have HN : Hid (l.length = n) := hn
  have HA : Hid (RowIn lo hi w a l) := ha
  have HH : Hid (hi ≤ w.heap.size) := hh
  have hmk := run_make_row' (P := Try.prog) 68 3 (.int .i64 0) 8 Try.underlying68 Try.info3 rfl .i64 .i64 n (by omega) (by omega)
  clear ha hn hh
  go_enter Try.func96, Try.ntmps96
  go_wp2
  go_loopw [4] (fun i wr => ∃ k : Nat, i = .int .i64 k ∧ k ≤ n ∧ Hid (Blk wr w.heap.size n (fun j => if j < k then .int .i64 (l.getD j 0) else .int .i64 0)) ∧ Hid (Below w.heap.size w wr) ∧ wr.heap.size = w.heap.size + 1) (fun i _ => n - (intOf i).toNat)
  case atStart =>
    refine ⟨0, rfl, by omega, ?_, below1 _ _, by simp⟩
    obtain ⟨c, hb, hn', hc⟩ := World.rowIs_made w (.int .i64 0) n 3
    exact ⟨c, 3, hb, fun i hi => by rw [hc i hi]; simp⟩
  case round =>
    obtain ⟨k, rfl, hk, HB, HL, hsz⟩ := hrel
    by_cases hlt : k < n
    · have hlt1 : (k : Int) < (n : Int) := by omega
      obtain ⟨b, o, rfl, h1, h2, hc⟩ : ∃ b o, a = some ⟨b, o, none⟩ ∧ lo ≤ b ∧ b < hi ∧ ∀ i, i < l.length → w.cell? ⟨b, o + i, none⟩ = some (.int .i64 (l.getD i 0)) := by
        rcases HA.out with rfl | h
        · exact absurd HN.out (by simp; omega)
        · exact h
      have hca := cell_below (hc k (by rw [HN.out]; exact hlt)) HL.out (by have := HH.out; omega)
      clear hc h1 h2
      have hcb := HB.out.cell hlt
      have hfb := HB.out.frozen k
      go_wp2
      go_roundw
      case rel =>
        refine ⟨k + 1, by go_num, by omega, ?_, HL.out.setCell (Nat.le_refl _) _, by simpa using hsz⟩
        refine (HB.out.set k hlt _).congr fun j hj => ?_
        by_cases e : j = k
        · subst e; simp
        · by_cases e2 : j < k
          · simp [e, e2, show j < k + 1 by omega]
          · simp [e, e2, show ¬ j < k + 1 by omega]
      case measure => simp [intOf]; omega
    · go_wp2
      go_ret
      refine ⟨rfl, ?_, HL.out, hsz⟩
      by_cases h0 : l = []
      · exact .inl h0
      · refine .inr ⟨_, rfl, Nat.le_refl _, by omega, ?_⟩
        rw [HN.out]
        exact HB.out.congr fun j hj => by simp [show j < k by omega]
/-- toIntS, its answer behind a letter -/
theorem toIL (lo hi : Nat) (a : Option Addr) (n cap : Nat) (l : List Int) (w : World) (ha : RowIn lo hi w a l) (hh : hi ≤ w.heap.size) (hn : l.length = n) (hm : n ≤ 1048576) :
    Calls Try.prog 96 #[.slice a n cap] w fun e w' => ∃ g : Nat, e = .returned (.slice (some ⟨g, 0, none⟩) n n) ∧ Hid (RowOwn w.heap.size w'.heap.size w' (some ⟨g, 0, none⟩) l) ∧ Hid (Below w.heap.size w w') :=
  (toInts_any lo hi a n cap l w ha hh hn hm).mono fun _ _ ⟨h1, h2, h3, _⟩ => ⟨_, h1, h2, h3⟩
theorem RowOwn.setCellP {lo hi b j : Nat} {w : World} {a : Option Addr} {l : List Int} (h : RowOwn lo hi w a l) (hb : b < lo) (v : Value) : RowOwn lo hi (w.setCell ⟨b, j, none⟩ v) a l := by
  rcases h with h | ⟨g, e, h1, h2, h3⟩
  · exact .inl h
  · exact .inr ⟨g, e, h1, h2, h3.of_block (Below.heap_setCell w ⟨b, j, none⟩ v g (by simp; omega))⟩

set_option maxHeartbeats 2000000 in
theorem toPiece_any (lo hi : Nat) (x y : Int) (a : Option Addr) (n cap : Nat) (l : List Int) (w : World) (ha : RowIn lo hi w a l) (hh : hi ≤ w.heap.size) (hn : l.length = n) (hm : n ≤ 1048576) :
    Calls Try.prog 76 #[.agg #[.int .i64 x, .int .u8 y, .slice a n cap]] w fun e w' => ∃ g : Nat, e = .returned (.agg #[.int .i64 x, .int .u8 y, .slice (some ⟨g, 0, none⟩) n n]) ∧ Hid (RowOwn w.heap.size w'.heap.size w' (some ⟨g, 0, none⟩) l) ∧ Hid (Below w.heap.size w w') := by
  have HA : Hid (RowIn lo hi w a l) := ha
  have HN : Hid (l.length = n) := hn
  have HH : Hid (hi ≤ w.heap.size) := hh
  clear ha hn hh
  obtain ⟨B, HB⟩ : ∃ B, Hid (B = w.heap.size) := ⟨_, rfl⟩
  obtain ⟨W, HW⟩ : ∃ W, Hid (W = ((w.alloc (.cells #[.int .i64 x, .int .u8 y, .slice a n cap] 123)).alloc (.cells #[.int .i64 0, .int .u8 0, .slice none 0 0] 120)).alloc (.cells #[.int .i64 x, .int .u8 y, .slice none 0 0] 120)) := ⟨_, rfl⟩
  have HBW : Hid (Below w.heap.size w W) := by rw [HW.out]; exact below3 w _ _ _
  have HSW : Hid (W.heap.size = B + 3) := by rw [HW.out, HB.out]; show _ = _; simp
  have K1 : Hid (Blk W (B + 1) 3 (fun i => if i = 0 then .int .i64 0 else if i = 1 then .int .u8 0 else .slice none 0 0)) := by
    rw [HW.out]
    exact (blk_three _ (B + 1) (by rw [HB.out]; simp) _ _ _ _).alloc _
  have K2 : Hid (Blk W (B + 1 + 1) 3 (fun i => if i = 0 then .int .i64 x else if i = 1 then .int .u8 y else .slice none 0 0)) := by
    rw [HW.out]
    exact blk_three _ (B + 1 + 1) (by rw [HB.out]; simp) _ _ _ _
  go_enter Try.func76, Try.ntmps76
  go_wp2_with fail
  rw [← HB.out, ← HW.out]
  refine (toIL lo hi a n cap l W (HA.out.below HBW.out HH.out) (Nat.le_trans HH.out HBW.out.size) HN.out hm).mono ?_
  rintro e w1 ⟨g, rfl, HX, HB1⟩
  have L1 := (K1.out.of_block (HB1.out.block _ K1.out.lt))
  have L2 := (K2.out.of_block (HB1.out.block _ K2.out.lt))
  have c0 : w1.cell? ⟨B + 1, 0, none⟩ = some (.int .i64 0) := L1.cell (i := 0) (by omega)
  have c1 : w1.cell? ⟨B + 1, 1, none⟩ = some (.int .u8 0) := L1.cell (i := 1) (by omega)
  have c2 : w1.cell? ⟨B + 1, 2, none⟩ = some (.slice none 0 0) := L1.cell (i := 2) (by omega)
  have d0 : w1.cell? ⟨B + 1 + 1, 0, none⟩ = some (.int .i64 x) := L2.cell (i := 0) (by omega)
  have d1 : w1.cell? ⟨B + 1 + 1, 1, none⟩ = some (.int .u8 y) := L2.cell (i := 1) (by omega)
  have d2 : w1.cell? ⟨B + 1 + 1, 2, none⟩ = some (.slice none 0 0) := L2.cell (i := 2) (by omega)
  have f0 := L1.frozen 0
  have f1 := L1.frozen 1
  have f2 := L1.frozen 2
  have f3 := L2.frozen 2
  have HX1 : Hid (RowOwn (B + 3) w1.heap.size w1 (some ⟨g, 0, none⟩) l) := by rw [← HSW.out]; exact HX
  have HBB : Hid (Below w.heap.size w w1) := HBW.out.trans (HB1.out.mono HBW.out.size)
  clear L1 L2 K1 K2 HX HB1 HBW HW
  go_wp2
  refine bodyPost_ret (v := .agg #[.int .i64 x, .int .u8 y, .slice (some ⟨g, 0, none⟩) n n]) (by simp [results, Try.results76, go_sem, c0, c1, c2]) rfl ?_
  refine ⟨g, rfl, ?_, ?_⟩
  · show RowOwn _ _ _ _ _
    have := (((HX1.out.setCellP (b := B + 1 + 1) (j := 2) (by omega) (.slice (some ⟨g, 0, none⟩) n n)).setCellP (b := B + 1) (j := 0) (by omega) (.int .i64 x)).setCellP (b := B + 1) (j := 1) (by omega) (.int .u8 y)).setCellP (b := B + 1) (j := 2) (by omega) (.slice (some ⟨g, 0, none⟩) n n)
    exact this.wide (by have := HB.out; omega) (by simp)
  · show Below _ _ _
    have hB := HB.out
    exact (((HBB.out.setCell (p := ⟨B + 1 + 1, 2, none⟩) (by show w.heap.size ≤ B + 1 + 1; omega) _).setCell (p := ⟨B + 1, 0, none⟩) (by show w.heap.size ≤ B + 1; omega) _).setCell (p := ⟨B + 1, 1, none⟩) (by show w.heap.size ≤ B + 1; omega) _).setCell (p := ⟨B + 1, 2, none⟩) (by show w.heap.size ≤ B + 1; omega) _
end Go.Proofs.Ytkcflhlipdnbnaa
