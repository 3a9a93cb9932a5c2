/-
  Paths: how one lies in the world (PathIn), one that is owned (PathOwn); a path that came in, out of its reading; how long one is (szPath), made new (toPath).
-/
import Derived.Test.YtkcflhlipdnbnaaJn02
import Derived.Laws.MakeOwn
namespace Go.Proofs.Ytkcflhlipdnbnaa
open Go.RowKit

/-- a piece: Op, Label, Kids -/
abbrev Pc := Int × Int × List Int
def pat (l : List Pc) (i : Nat) : Pc := l.getD i (0, 0, [])
theorem pat_get {l : List Pc} {i : Nat} (h : i < l.length) : pat l i = l[i] := by simp [pat, List.getD, h]
theorem pat_ext {l l' : List Pc} (h1 : l.length = l'.length) (h : ∀ i, i < l.length → pat l i = pat l' i) : l = l' := by
  apply List.ext_getElem h1
  intro i hi hi'
  have := h i hi
  rwa [pat_get hi, pat_get hi'] at this
abbrev pv (a : Option Addr) (n cap : Nat) : Value := .agg #[.slice a n cap]
/-- a piece that lies at a place -/
def PieceAt (lo hi : Nat) (w : World) (b o : Nat) (x : Pc) : Prop :=
  w.cell? ⟨b, o, none⟩ = some (.int .i64 x.1) ∧ w.cell? ⟨b, o + 1, none⟩ = some (.int .u8 x.2.1) ∧ ∃ ra rc, w.cell? ⟨b, o + 2, none⟩ = some (.slice ra x.2.2.length rc) ∧ RowIn lo hi w ra x.2.2
/-- pieces that are reached by a slice; blocks are of lo .. hi - 1 -/
def PathIn (lo hi : Nat) (w : World) (a : Option Addr) (l : List Pc) : Prop :=
  l = [] ∨ ∃ b o, a = some ⟨b, o, none⟩ ∧ lo ≤ b ∧ b < hi ∧ ∀ i, i < l.length → PieceAt lo hi w b (o + i * 3) (pat l i)

theorem PieceAt.below {lo hi B : Nat} {w w' : World} {b o : Nat} {x : Pc} (h : PieceAt lo hi w b o x) (hb : Below B w w') (hB : hi ≤ B) (hl : b < B) : PieceAt lo hi w' b o x := by
  obtain ⟨h1, h2, ra, rc, h3, h4⟩ := h
  exact ⟨cell_below h1 hb hl, cell_below h2 hb hl, ra, rc, cell_below h3 hb hl, h4.below hb hB⟩
theorem PathIn.below {lo hi B : Nat} {w w' : World} {a : Option Addr} {l : List Pc} (h : PathIn lo hi w a l) (hb : Below B w w') (hB : hi ≤ B) : PathIn lo hi w' a l := by
  rcases h with h | ⟨b, o, e, h1, h2, h3⟩
  · exact .inl h
  · exact .inr ⟨b, o, e, h1, h2, fun i hi => (h3 i hi).below hb hB (by omega)⟩
theorem PathIn.wide {lo hi lo' hi' : Nat} {w : World} {a : Option Addr} {l : List Pc} (h : PathIn lo hi w a l) (h1 : lo' ≤ lo) (h2 : hi ≤ hi') : PathIn lo' hi' w a l := by
  rcases h with h | ⟨b, o, e, h3, h4, h5⟩
  · exact .inl h
  · refine .inr ⟨b, o, e, by omega, by omega, fun i hi => ?_⟩
    obtain ⟨g1, g2, ra, rc, g3, g4⟩ := h5 i hi
    exact ⟨g1, g2, ra, rc, g3, g4.wide h1 h2⟩
theorem PathIn.kept {lo hi : Nat} {p : Nat → Prop} {w w' : World} {a : Option Addr} {l : List Pc} (h : PathIn lo hi w a l) (hk : KeptP p w w') (hh : hi ≤ w.heap.size) (hp : ∀ k, lo ≤ k → k < hi → ¬ p k) : PathIn lo hi w' a l := by
  rcases h with h | ⟨b, o, e, h1, h2, h3⟩
  · exact .inl h
  · refine .inr ⟨b, o, e, h1, h2, fun i hi => ?_⟩
    obtain ⟨g1, g2, ra, rc, g3, g4⟩ := h3 i hi
    exact ⟨hk.cell g1 (by omega) (hp b h1 h2), hk.cell g2 (by omega) (hp b h1 h2), ra, rc, hk.cell g3 (by omega) (hp b h1 h2), g4.kept hk hh hp⟩
/-- a piece of a path -/
theorem PathIn.piece {lo hi : Nat} {w : World} {a : Option Addr} {l : List Pc} (h : PathIn lo hi w a l) {k : Nat} (hk : k < l.length) : ∃ b o, a = some ⟨b, o, none⟩ ∧ lo ≤ b ∧ b < hi ∧ PieceAt lo hi w b (o + k * 3) (pat l k) := by
  rcases h with rfl | ⟨b, o, e, h1, h2, h3⟩
  · simp at hk
  · exact ⟨b, o, e, h1, h2, h3 k hk⟩

/-- the kids of all pieces ahead of place k -/
def kidsLen (l : List Pc) : Nat → Nat
  | 0 => 0
  | k + 1 => kidsLen l k + (pat l k).2.2.length
theorem kidsLen_mono (l : List Pc) {i k : Nat} (h : i ≤ k) : kidsLen l i ≤ kidsLen l k := by
  induction k with
  | zero => obtain rfl : i = 0 := by omega
            exact Nat.le_refl _
  | succ k ih =>
    rcases Nat.lt_or_ge i (k + 1) with h1 | h1
    · have := ih (by omega); simp only [kidsLen]; omega
    · obtain rfl : i = k + 1 := by omega
      exact Nat.le_refl _
theorem kids_le (l : List Pc) {i k : Nat} (h : i < k) : (pat l i).2.2.length ≤ kidsLen l k := by
  have := kidsLen_mono l (i := i + 1) (k := k) (by omega)
  simp only [kidsLen] at this
  omega

open Go.ChangeShapes Go.WideShapes Go.ChangeAt Go.Deep in
/-- a row that came in, out of its reading -/
theorem kids_trod {H : Type} {enc : TypeId × Value → H} {W : World} {fuel : Nat} {ao : Option Addr} {n cap : Nat} {x : DataW H × List MemPlace}
    (hf : DataW.trod enc Try.prog W 0 (fun _ => true) true fuel 68 [.slice ao n cap] = some x) : ∃ l : List Int, l.length = n ∧ RowIn 0 W.heap.size W ao l ∧ n ≤ maxLen := by
  rcases open_ints Try.underlying68 Try.underlying3 (by kernel_rfl) hf with ⟨hcs, _⟩ | ⟨x, l, c, zs, hcs, _, hl, hm, hz, _, hcell, hwz⟩
  · simp at hcs
    obtain ⟨rfl, rfl, rfl⟩ := hcs
    exact ⟨[], rfl, .inl rfl, Nat.zero_le _⟩
  · simp at hcs
    obtain ⟨rfl, rfl, rfl⟩ := hcs
    have hzl : zs.length = cap := by simpa using hz
    refine ⟨zs.take n, by simp; omega, ?_, by omega⟩
    by_cases h0 : n = 0
    · exact .inl (by subst h0; simp)
    · obtain ⟨b, off, spot⟩ := x
      have c0 := hcell 0 (by omega)
      obtain rfl := spot_none c0
      rw [add_none] at c0
      refine .inr ⟨b, off, rfl, Nat.zero_le _, lt_of_cell c0, fun i hi => ?_⟩
      have hi' : i < n := by simp at hi; omega
      have ck := hcell i (by omega)
      rw [add_none] at ck
      rw [ck]
      simp [List.getD, List.getElem?_take_of_lt hi']

open Go.ChangeShapes Go.WideShapes Go.ChangeAt Go.Deep in
set_option maxRecDepth 100000 in
/-- pieces that came in, out of their reading -/
theorem pieces_trod {H : Type} {enc : TypeId × Value → H} {W : World} {fuel : Nat} {v : Value} {x : DataW H × List MemPlace}
    (hf : DataW.trod enc Try.prog W 0 (fun _ => true) true fuel 22 [v] = some x) : ∃ (ao : Option Addr) (n cap : Nat) (l : List Pc), v = .slice ao n cap ∧ n ≤ maxLen ∧ (l.length = n ∧ ∀ i, i < n → (pat l i).2.2.length ≤ maxLen) ∧ PathIn 0 W.heap.size W ao l := by
  rcases open_slice Try.underlying22 hf with ⟨hcs, _⟩ | ⟨a, len, cap, m, n, D, Pl, hcs, _, hl, hm, hmm, _, hx⟩
  · simp at hcs
    subst hcs
    exact ⟨none, 0, 0, [], rfl, Nat.zero_le _, ⟨rfl, fun i hi => absurd hi (Nat.not_lt_zero _)⟩, .inl rfl⟩
  · simp at hcs
    subst hcs
    have ce : Try.prog.cellsOf 123 = 3 := by kernel_rfl
    have hlm : len ≤ m := by rw [hmm]; simp; exact hl
    have each : ∀ i, i < len → ∃ q : (Option Addr × Nat) × Pc, W.cell? (a.add (i * 3)) = some (.int .i64 q.2.1) ∧ W.cell? (a.add (i * 3 + 1)) = some (.int .u8 q.2.2.1) ∧ W.cell? (a.add (i * 3 + 2)) = some (.slice q.1.1 q.2.2.2.length q.1.2) ∧ RowIn 0 W.heap.size W q.1.1 q.2.2.2 ∧ q.2.2.2.length ≤ maxLen := by
      intro i hi
      obtain ⟨cs', h1, h2⟩ := hx i (by omega)
      rw [ce] at h1
      obtain ⟨_, hlen, hcell⟩ := World.cells?_some h1
      obtain ⟨y0, y1, y2, k, _, _, g0, g1, g2⟩ := trod_struct3 Try.underlying123 h2
      match cs', hlen with
      | [v0, v1, v2], _ =>
        have c3 : Try.prog.cellsOf 3 = 1 := by kernel_rfl
        have c5 : Try.prog.cellsOf 5 = 1 := by kernel_rfl
        have c29 : Try.prog.cellsOf 68 = 1 := by kernel_rfl
        simp only [c3, c5, c29, List.drop_zero, List.drop_succ_cons, List.take_succ_cons, List.take_zero] at g0 g1 g2
        obtain ⟨z0, e0, _, _⟩ := DataW.trod_int Try.underlying3 g0
        obtain ⟨z1, e1, _, _⟩ := DataW.trod_int Try.underlying5 g1
        have e2 : ∃ ra rn rc, v2 = .slice ra rn rc := by
          rcases open_ints Try.underlying68 Try.underlying3 (by kernel_rfl) g2 with ⟨h, _⟩ | ⟨_, _, _, _, h, _⟩ <;> (simp at h; exact ⟨_, _, _, h⟩)
        obtain ⟨ra, rn, rc, e2⟩ := e2
        rw [e2] at g2
        obtain ⟨kl, hl1, hl2, hl3⟩ := kids_trod g2
        simp at e0 e1
        have q0 := hcell 0 (by omega)
        have q1 := hcell 1 (by omega)
        have q2 := hcell 2 (by omega)
        rw [add_add] at q0 q1 q2
        subst e0 e1 e2
        exact ⟨((ra, rc), (z0, z1, kl)), by simpa using q0, by simpa using q1, by rw [hl1]; simpa using q2, hl2, by rw [hl1]; exact hl3⟩
    obtain ⟨f, hfn⟩ := choose_lt each
    have hgd : ∀ i, i < len → pat ((List.range len).map fun i => (f i).2) i = (f i).2 := fun i hi => by simp [pat, List.getD, hi]
    refine ⟨some a, len, cap, (List.range len).map fun i => (f i).2, rfl, by omega, ⟨by simp, fun i hi => by rw [hgd i hi]; exact (hfn i hi).2.2.2.2⟩, ?_⟩
    by_cases h0 : len = 0
    · exact .inl (by subst h0; rfl)
    · obtain ⟨b, off, spot⟩ := a
      have c0 := (hfn 0 (by omega)).1
      obtain rfl := spot_none (by simpa using c0)
      rw [add_none] at c0
      refine .inr ⟨b, off, rfl, Nat.zero_le _, lt_of_cell c0, fun i hi => ?_⟩
      simp at hi
      obtain ⟨c0, c1, c2, c3, _⟩ := hfn i hi
      rw [add_none] at c0 c1 c2
      rw [hgd i hi]
      exact ⟨c0, by rw [Nat.add_assoc]; exact c1, _, _, by rw [Nat.add_assoc]; exact c2, c3⟩
theorem cellsPath : Try.prog.cellsOf 24 = 1 := by kernel_rfl
open Go.ChangeShapes Go.WideShapes Go.ChangeAt Go.Deep in
set_option maxRecDepth 100000 in
/-- a path that came in, out of its reading -/
theorem path_in {H : Type} {enc : TypeId × Value → H} {W : World} {r : Reach} {b0 : Nat} {v : Value} {d : DataW H} {ps : List MemPlace} (hv : Value.okWide Try.prog W r b0 24 v)
    (h : DataW.Trod enc Try.prog W 0 (fun _ => true) true 24 v d ps) : ∃ (ao : Option Addr) (n cap : Nat) (l : List Pc), v = pv ao n cap ∧ n ≤ maxLen ∧ (l.length = n ∧ ∀ i, i < n → (pat l i).2.2.length ≤ maxLen) ∧ PathIn 0 W.heap.size W ao l := by
  obtain ⟨cs, rfl, hsz⟩ := okWide_struct Try.underlying24 hv
  have h1 : cs.size = 1 := hsz.trans cellsPath
  obtain ⟨v0, rfl⟩ : ∃ v0, cs = #[v0] := by
    refine ⟨cs[0], ?_⟩
    apply Array.ext (by simpa using h1)
    intro i hi hi'
    simp at hi'
    subst hi'
    rfl
  obtain ⟨fuel, hf⟩ := h
  obtain ⟨y0, n, hx, _, h0⟩ := trod_struct1 Try.underlying24 hf
  have c47 : Try.prog.cellsOf 22 = 1 := by kernel_rfl
  have h0' : DataW.trod enc Try.prog W 0 (fun _ => true) true n 22 [v0] = some y0 := by simpa [Value.cells, c47] using h0
  obtain ⟨ao, n', cap, l, rfl, hm, hl, hb⟩ := pieces_trod h0'
  exact ⟨ao, n', cap, l, rfl, hm, hl, hb⟩

set_option maxHeartbeats 400000 in
theorem szInts_yes (a : Option Addr) (n cap L : Nat) (w : World) (hm : n ≤ 9223372036854775807) (hL : L ≤ 1048576) (h : n ≤ L) :
    Calls Try.prog 95 #[.slice a n cap, .int .i64 (L : Int)] w fun e w' => e = .returned (.int .i64 ((L - n : Nat) : Int)) ∧ w = w' := by
  have e : ((L - n : Nat) : Int) = (L : Int) - (n : Int) := by omega
  have hn : ¬ (L : Int) - (n : Int) < 0 := by omega
  rw [e]
  go_enter Try.func95, Try.ntmps95
  go_wp2
  go_ret
  exact ⟨rfl, rfl⟩
set_option maxHeartbeats 400000 in
theorem szInts_no (a : Option Addr) (n cap L : Nat) (w : World) (hm : n ≤ 9223372036854775807) (hL : L ≤ 1048576) (h : L < n) :
    Calls Try.prog 95 #[.slice a n cap, .int .i64 (L : Int)] w fun e w' => e = .returned (.int .i64 (-1)) ∧ w = w' := by
  have hn : (L : Int) - (n : Int) < 0 := by omega
  go_enter Try.func95, Try.ntmps95
  go_wp2
  go_ret
  exact ⟨rfl, rfl⟩
set_option maxHeartbeats 400000 in
theorem szPiece_yes (x y : Int) (a : Option Addr) (n cap L : Nat) (w : World) (hm : n ≤ 9223372036854775807) (hL : L ≤ 1048576) (h : n ≤ L) :
    Calls Try.prog 73 #[.agg #[.int .i64 x, .int .u8 y, .slice a n cap], .int .i64 (L : Int)] w fun e w' => e = .returned (.int .i64 ((L - n : Nat) : Int)) ∧ Below w.heap.size w w' := by
  have hn : ¬ ((L - n : Nat) : Int) < 0 := by omega
  go_enter Try.func73, Try.ntmps73
  go_wp2_with fail
  refine (szInts_yes a n cap L _ hm hL h).mono ?_
  rintro e w' ⟨rfl, rfl⟩
  go_wp2
  go_ret
  exact ⟨rfl, below1 _ _⟩
set_option maxHeartbeats 400000 in
theorem szPiece_no (x y : Int) (a : Option Addr) (n cap L : Nat) (w : World) (hm : n ≤ 9223372036854775807) (hL : L ≤ 1048576) (h : L < n) :
    Calls Try.prog 73 #[.agg #[.int .i64 x, .int .u8 y, .slice a n cap], .int .i64 (L : Int)] w fun e w' => e = .returned (.int .i64 (-1)) ∧ Below w.heap.size w w' := by
  go_enter Try.func73, Try.ntmps73
  go_wp2_with fail
  refine (szInts_no a n cap L _ hm hL h).mono ?_
  rintro e w' ⟨rfl, rfl⟩
  go_wp2
  go_ret
  exact ⟨rfl, below1 _ _⟩

set_option maxHeartbeats 1000000 in
set_option maxRecDepth 100000 in
theorem szPieces_any (lo hi : Nat) (a : Option Addr) (n cap L : Nat) (l : List Pc) (w : World) (ha : PathIn lo hi w a l) (hh : hi ≤ w.heap.size) (hn : l.length = n) (hm : n ≤ maxLen) (hr : ∀ i, i < n → (pat l i).2.2.length ≤ maxLen) (hL : L ≤ 1048576) :
    Calls Try.prog 32 #[.slice a n cap, .int .i64 (L : Int)] w fun e w' => ∃ r : Int, e = .returned (.int .i64 r) ∧ Hid (r = -1 ∨ (0 ≤ r ∧ ((n + kidsLen l n : Nat) : Int) + r = L)) ∧ Hid (Below w.heap.size w w') := by
  have HN : Hid (l.length = n) := hn
  have HA : Hid (PathIn lo hi w a l) := ha
  have HH : Hid (hi ≤ w.heap.size) := hh
  have HR : Hid (∀ i, i < n → (pat l i).2.2.length ≤ maxLen) := hr
  have hm' : n ≤ 9223372036854775807 := by simpa [maxLen] using hm
  clear ha hn hh hr hm
  by_cases h0 : L < n
  · have hd : (L : Int) - (n : Int) < 0 := by omega
    go_enter Try.func32, Try.ntmps32
    go_wp2
    go_ret
    exact ⟨-1, rfl, .inl rfl, Below.refl _ _⟩
  · have hd : ¬ (L : Int) - (n : Int) < 0 := by omega
    go_enter Try.func32, Try.ntmps32
    go_wp2
    go_loopw [5, 1] (fun i s wr => ∃ k m : Nat, i = .int .i64 k ∧ s = .int .i64 (m : Int) ∧ k ≤ n ∧ Hid (n + kidsLen l k + m = L) ∧ Hid (Below w.heap.size w wr)) (fun i _ _ => n - (intOf i).toNat)
    case atStart => exact ⟨0, L - n, rfl, by simp; omega, by omega, by show _ = _; simp [kidsLen]; omega, Below.refl _ _⟩
    case round =>
      obtain ⟨k, m, rfl, rfl, hk, HE, HL⟩ := hrel
      have hmL : m ≤ 1048576 := by have := HE.out; omega
      by_cases hlt : k < n
      · have hlt1 : (k : Int) < (n : Int) := by omega
        obtain ⟨b, o, rfl, h1, h2, hc0, hc1, ra, rc, hc2, _⟩ := (HA.out.below HL.out HH.out).piece (k := k) (by rw [HN.out]; exact hlt)
        have hq : (pat l k).2.2.length ≤ 9223372036854775807 := by have := HR.out k hlt; simpa [maxLen] using this
        have HS : Hid (kidsLen l (k + 1) = kidsLen l k + (pat l k).2.2.length) := rfl
        obtain ⟨q, HQ⟩ : ∃ q : Nat, Hid (q = (pat l k).2.2.length) := ⟨_, rfl⟩
        obtain ⟨x, HX⟩ : ∃ x, Hid (x = (pat l k).1) := ⟨_, rfl⟩
        obtain ⟨y, HY⟩ : ∃ x, Hid (x = (pat l k).2.1) := ⟨_, rfl⟩
        rw [← HX.out] at hc0
        rw [← HY.out] at hc1
        rw [← HQ.out] at hc2 hq HS
        by_cases hfit : q ≤ m
        · go_wp2_with fail
          refine (szPiece_yes x y ra q rc m wr hq hmL hfit).mono ?_
          rintro e w1 ⟨rfl, hb1⟩
          have hd2 : ¬ ((m - q : Nat) : Int) < 0 := by omega
          go_wp2
          go_roundw
          case rel => exact ⟨k + 1, m - q, by go_num, rfl, by omega, by have := HE.out; have := HS.out; show _ = _; omega, HL.out.trans (hb1.mono HL.out.size)⟩
          case measure => simp [intOf]; omega
        · go_wp2_with fail
          refine (szPiece_no x y ra q rc m wr hq hmL (by omega)).mono ?_
          rintro e w1 ⟨rfl, hb1⟩
          go_wp2
          go_ret
          exact ⟨-1, rfl, .inl rfl, HL.out.trans (hb1.mono HL.out.size)⟩
      · obtain rfl : k = n := by omega
        go_wp2
        go_ret
        exact ⟨m, rfl, .inr ⟨by omega, by have := HE.out; omega⟩, HL.out⟩

set_option maxHeartbeats 1000000 in
theorem szPath_any (lo hi : Nat) (a : Option Addr) (n cap L : Nat) (l : List Pc) (w : World) (ha : PathIn lo hi w a l) (hh : hi ≤ w.heap.size) (hn : l.length = n) (hm : n ≤ maxLen) (hr : ∀ i, i < n → (pat l i).2.2.length ≤ maxLen) (hL : L ≤ 1048576) :
    Calls Try.prog 8 #[pv a n cap, .int .i64 (L : Int)] w fun e w' => ∃ r : Int, e = .returned (.int .i64 r) ∧ Hid (r = -1 ∨ (0 ≤ r ∧ ((n + kidsLen l n : Nat) : Int) + r = L)) ∧ Hid (Below w.heap.size w w') := by
  have HC' : Hid (∀ o, Calls Try.prog 32 #[.slice a n cap, .int .i64 (L : Int)] (w.alloc o) fun e w' => ∃ r : Int, e = .returned (.int .i64 r) ∧ Hid (r = -1 ∨ (0 ≤ r ∧ ((n + kidsLen l n : Nat) : Int) + r = L)) ∧ Hid (Below (w.alloc o).heap.size (w.alloc o) w')) := fun o => szPieces_any lo hi a n cap L l (w.alloc o) (ha.below (below1 _ _) hh) (by simp; omega) hn hm hr hL
  clear ha hh hn hm hr
  unfold pv
  go_enter Try.func8, Try.ntmps8
  go_wp2_with fail
  refine (HC'.out _).mono ?_
  rintro e w1 ⟨r, rfl, H1, H2⟩
  have HB : Hid (Below w.heap.size w w1) := (below1 _ _).trans (H2.out.mono (by simp))
  clear H2
  by_cases hr : r < 0
  · go_wp2
    go_ret
    exact ⟨-1, rfl, .inl rfl, HB⟩
  · go_wp2
    go_ret
    exact ⟨r, rfl, H1, HB⟩

set_option maxHeartbeats 1000000 in
set_option maxRecDepth 100000 in
theorem toInts_any (lo hi : Nat) (a : Option Addr) (n cap : Nat) (l : List Int) (w : World) (ha : RowIn lo hi w a l) (hh : hi ≤ w.heap.size) (hn : l.length = n) (hm : n ≤ 1048576) :
    Calls Try.prog 96 #[.slice a n cap] w fun e w' => e = .returned (.slice (some ⟨w.heap.size, 0, none⟩) n n) ∧ RowOwn w.heap.size w'.heap.size w' (some ⟨w.heap.size, 0, none⟩) l ∧ Below w.heap.size w w' ∧ w'.heap.size = w.heap.size + 1 := by
  have HN : Hid (l.length = n) := hn
  have HA : Hid (RowIn lo hi w a l) := ha
  have HH : Hid (hi ≤ w.heap.size) := hh
  have hmk := run_make_row' (P := Try.prog) 68 3 (.int .i64 0) 8 Try.underlying68 Try.info3 rfl .i64 .i64 n (by omega) (by omega)
  clear ha hn hh
  go_enter Try.func96, Try.ntmps96
  go_wp2
  go_loopw [4] (fun i wr => ∃ k : Nat, i = .int .i64 k ∧ k ≤ n ∧ Hid (Blk wr w.heap.size n (fun j => if j < k then .int .i64 (l.getD j 0) else .int .i64 0)) ∧ Hid (Below w.heap.size w wr) ∧ wr.heap.size = w.heap.size + 1) (fun i _ => n - (intOf i).toNat)
  case atStart =>
    refine ⟨0, rfl, by omega, ?_, below1 _ _, by simp⟩
    obtain ⟨c, hb, hn', hc⟩ := World.rowIs_made w (.int .i64 0) n 3
    exact ⟨c, 3, hb, fun i hi => by rw [hc i hi]; simp⟩
  case round =>
    obtain ⟨k, rfl, hk, HB, HL, hsz⟩ := hrel
    by_cases hlt : k < n
    · have hlt1 : (k : Int) < (n : Int) := by omega
      obtain ⟨b, o, rfl, h1, h2, hc⟩ : ∃ b o, a = some ⟨b, o, none⟩ ∧ lo ≤ b ∧ b < hi ∧ ∀ i, i < l.length → w.cell? ⟨b, o + i, none⟩ = some (.int .i64 (l.getD i 0)) := by
        rcases HA.out with rfl | h
        · exact absurd HN.out (by simp; omega)
        · exact h
      have hca := cell_below (hc k (by rw [HN.out]; exact hlt)) HL.out (by have := HH.out; omega)
      clear hc h1 h2
      have hcb := HB.out.cell hlt
      have hfb := HB.out.frozen k
      go_wp2
      go_roundw
      case rel =>
        refine ⟨k + 1, by go_num, by omega, ?_, HL.out.setCell (Nat.le_refl _) _, by simpa using hsz⟩
        refine (HB.out.set k hlt _).congr fun j hj => ?_
        by_cases e : j = k
        · subst e; simp
        · by_cases e2 : j < k
          · simp [e, e2, show j < k + 1 by omega]
          · simp [e, e2, show ¬ j < k + 1 by omega]
      case measure => simp [intOf]; omega
    · go_wp2
      go_ret
      refine ⟨rfl, ?_, HL.out, hsz⟩
      by_cases h0 : l = []
      · exact .inl h0
      · refine .inr ⟨_, rfl, Nat.le_refl _, by omega, ?_⟩
        rw [HN.out]
        exact HB.out.congr fun j hj => by simp [show j < k by omega]
/-- toIntS, its answer behind a letter -/
theorem toIL (lo hi : Nat) (a : Option Addr) (n cap : Nat) (l : List Int) (w : World) (ha : RowIn lo hi w a l) (hh : hi ≤ w.heap.size) (hn : l.length = n) (hm : n ≤ 1048576) :
    Calls Try.prog 96 #[.slice a n cap] w fun e w' => ∃ g : Nat, e = .returned (.slice (some ⟨g, 0, none⟩) n n) ∧ Hid (RowOwn w.heap.size w'.heap.size w' (some ⟨g, 0, none⟩) l) ∧ Hid (Below w.heap.size w w') :=
  (toInts_any lo hi a n cap l w ha hh hn hm).mono fun _ _ ⟨h1, h2, h3, _⟩ => ⟨_, h1, h2, h3⟩
theorem RowOwn.setCellP {lo hi b j : Nat} {w : World} {a : Option Addr} {l : List Int} (h : RowOwn lo hi w a l) (hb : b < lo) (v : Value) : RowOwn lo hi (w.setCell ⟨b, j, none⟩ v) a l := by
  rcases h with h | ⟨g, e, h1, h2, h3⟩
  · exact .inl h
  · exact .inr ⟨g, e, h1, h2, h3.of_block (Below.heap_setCell w ⟨b, j, none⟩ v g (by simp; omega))⟩

set_option maxHeartbeats 2000000 in
theorem toPiece_any (lo hi : Nat) (x y : Int) (a : Option Addr) (n cap : Nat) (l : List Int) (w : World) (ha : RowIn lo hi w a l) (hh : hi ≤ w.heap.size) (hn : l.length = n) (hm : n ≤ 1048576) :
    Calls Try.prog 76 #[.agg #[.int .i64 x, .int .u8 y, .slice a n cap]] w fun e w' => ∃ g : Nat, e = .returned (.agg #[.int .i64 x, .int .u8 y, .slice (some ⟨g, 0, none⟩) n n]) ∧ Hid (RowOwn w.heap.size w'.heap.size w' (some ⟨g, 0, none⟩) l) ∧ Hid (Below w.heap.size w w') := by
  have HA : Hid (RowIn lo hi w a l) := ha
  have HN : Hid (l.length = n) := hn
  have HH : Hid (hi ≤ w.heap.size) := hh
  clear ha hn hh
  obtain ⟨B, HB⟩ : ∃ B, Hid (B = w.heap.size) := ⟨_, rfl⟩
  obtain ⟨W, HW⟩ : ∃ W, Hid (W = ((w.alloc (.cells #[.int .i64 x, .int .u8 y, .slice a n cap] 123)).alloc (.cells #[.int .i64 0, .int .u8 0, .slice none 0 0] 120)).alloc (.cells #[.int .i64 x, .int .u8 y, .slice none 0 0] 120)) := ⟨_, rfl⟩
  have HBW : Hid (Below w.heap.size w W) := by rw [HW.out]; exact below3 w _ _ _
  have HSW : Hid (W.heap.size = B + 3) := by rw [HW.out, HB.out]; show _ = _; simp
  have K1 : Hid (Blk W (B + 1) 3 (fun i => if i = 0 then .int .i64 0 else if i = 1 then .int .u8 0 else .slice none 0 0)) := by
    rw [HW.out]
    exact (blk_three _ (B + 1) (by rw [HB.out]; simp) _ _ _ _).alloc _
  have K2 : Hid (Blk W (B + 1 + 1) 3 (fun i => if i = 0 then .int .i64 x else if i = 1 then .int .u8 y else .slice none 0 0)) := by
    rw [HW.out]
    exact blk_three _ (B + 1 + 1) (by rw [HB.out]; simp) _ _ _ _
  go_enter Try.func76, Try.ntmps76
  go_wp2_with fail
  rw [← HB.out, ← HW.out]
  refine (toIL lo hi a n cap l W (HA.out.below HBW.out HH.out) (Nat.le_trans HH.out HBW.out.size) HN.out hm).mono ?_
  rintro e w1 ⟨g, rfl, HX, HB1⟩
  have L1 := (K1.out.of_block (HB1.out.block _ K1.out.lt))
  have L2 := (K2.out.of_block (HB1.out.block _ K2.out.lt))
  have c0 : w1.cell? ⟨B + 1, 0, none⟩ = some (.int .i64 0) := L1.cell (i := 0) (by omega)
  have c1 : w1.cell? ⟨B + 1, 1, none⟩ = some (.int .u8 0) := L1.cell (i := 1) (by omega)
  have c2 : w1.cell? ⟨B + 1, 2, none⟩ = some (.slice none 0 0) := L1.cell (i := 2) (by omega)
  have d0 : w1.cell? ⟨B + 1 + 1, 0, none⟩ = some (.int .i64 x) := L2.cell (i := 0) (by omega)
  have d1 : w1.cell? ⟨B + 1 + 1, 1, none⟩ = some (.int .u8 y) := L2.cell (i := 1) (by omega)
  have d2 : w1.cell? ⟨B + 1 + 1, 2, none⟩ = some (.slice none 0 0) := L2.cell (i := 2) (by omega)
  have f0 := L1.frozen 0
  have f1 := L1.frozen 1
  have f2 := L1.frozen 2
  have f3 := L2.frozen 2
  have HX1 : Hid (RowOwn (B + 3) w1.heap.size w1 (some ⟨g, 0, none⟩) l) := by rw [← HSW.out]; exact HX
  have HBB : Hid (Below w.heap.size w w1) := HBW.out.trans (HB1.out.mono HBW.out.size)
  clear L1 L2 K1 K2 HX HB1 HBW HW
  go_wp2
  refine bodyPost_ret (v := .agg #[.int .i64 x, .int .u8 y, .slice (some ⟨g, 0, none⟩) n n]) (by simp [results, Try.results76, go_sem, c0, c1, c2]) rfl ?_
  refine ⟨g, rfl, ?_, ?_⟩
  · show RowOwn _ _ _ _ _
    have := (((HX1.out.setCellP (b := B + 1 + 1) (j := 2) (by omega) (.slice (some ⟨g, 0, none⟩) n n)).setCellP (b := B + 1) (j := 0) (by omega) (.int .i64 x)).setCellP (b := B + 1) (j := 1) (by omega) (.int .u8 y)).setCellP (b := B + 1) (j := 2) (by omega) (.slice (some ⟨g, 0, none⟩) n n)
    exact this.wide (by have := HB.out; omega) (by simp)
  · show Below _ _ _
    have hB := HB.out
    exact (((HBB.out.setCell (p := ⟨B + 1 + 1, 2, none⟩) (by show w.heap.size ≤ B + 1 + 1; omega) _).setCell (p := ⟨B + 1, 0, none⟩) (by show w.heap.size ≤ B + 1; omega) _).setCell (p := ⟨B + 1, 1, none⟩) (by show w.heap.size ≤ B + 1; omega) _).setCell (p := ⟨B + 1, 2, none⟩) (by show w.heap.size ≤ B + 1; omega) _
end Go.Proofs.Ytkcflhlipdnbnaa

/-
  Paths that are owned; made new (toPieceS, toPath); held against one another (eqPieceS, eqPath).
-/
namespace Go.Proofs.Ytkcflhlipdnbnaa
open Go.RowKit

/-- the first k of n pieces lie in a block, their kids in blocks of their own -/
def PartPc (lo hi : Nat) (w : World) (b : Nat) (l : List Pc) (n k : Nat) : Prop :=
  ∃ (f : Nat → Value) (R : Nat → Option Addr) (C : Nat → Nat), Blk w b (n * 3) f ∧ ∀ i, i < k → f (i * 3) = .int .i64 (pat l i).1 ∧ f (i * 3 + 1) = .int .u8 (pat l i).2.1 ∧ f (i * 3 + 2) = .slice (R i) (pat l i).2.2.length (C i) ∧ RowOwn lo hi w (R i) (pat l i).2.2 ∧
    ((pat l i).2.2 ≠ [] → (∀ c, R i = some ⟨c, 0, none⟩ → c ≠ b) ∧ ∀ j, j < i → (pat l j).2.2 ≠ [] → R j ≠ R i)
/-- a list of pieces that is owned -/
def PathOwn (lo hi : Nat) (w : World) (a : Option Addr) (l : List Pc) : Prop :=
  l = [] ∨ ∃ b, a = some ⟨b, 0, none⟩ ∧ lo ≤ b ∧ b < hi ∧ PartPc lo hi w b l l.length l.length

theorem PathOwn.toIn {lo hi : Nat} {w : World} {a : Option Addr} {l : List Pc} (h : PathOwn lo hi w a l) : PathIn lo hi w a l := by
  rcases h with h | ⟨b, e, h1, h2, f, R, C, hB, hp⟩
  · exact .inl h
  · refine .inr ⟨b, 0, e, h1, h2, fun i hi => ?_⟩
    obtain ⟨e1, e2, e3, e4, _⟩ := hp i hi
    refine ⟨?_, ?_, R i, C i, ?_, e4.toIn⟩
    · rw [Nat.zero_add, hB.cell (by omega), e1]
    · rw [Nat.zero_add, hB.cell (by omega), e2]
    · rw [Nat.zero_add, hB.cell (by omega), e3]
theorem PartPc.of_blocks {lo hi b : Nat} {w w' : World} {l : List Pc} {n k : Nat} (h : PartPc lo hi w b l n k) (h1 : w'.heap[b]? = w.heap[b]?) (h2 : ∀ c, lo ≤ c → c < hi → w'.heap[c]? = w.heap[c]?) : PartPc lo hi w' b l n k := by
  obtain ⟨f, R, C, h3, h4⟩ := h
  refine ⟨f, R, C, h3.of_block h1, fun i hi => ?_⟩
  obtain ⟨e0, e1, e2, e3, e4⟩ := h4 i hi
  refine ⟨e0, e1, e2, ?_, e4⟩
  rcases e3 with h | ⟨c, ec, h5, h6, h7⟩
  · exact .inl h
  · exact .inr ⟨c, ec, h5, h6, h7.of_block (h2 c h5 h6)⟩
theorem PartPc.below {lo hi B b : Nat} {w w' : World} {l : List Pc} {n k : Nat} (h : PartPc lo hi w b l n k) (hb : Below B w w') (hB : hi ≤ B) (hl : b < B) : PartPc lo hi w' b l n k :=
  h.of_blocks (hb.block b hl) (fun c _ h2 => hb.block c (by omega))
theorem PathOwn.below {lo hi B : Nat} {w w' : World} {a : Option Addr} {l : List Pc} (h : PathOwn lo hi w a l) (hb : Below B w w') (hB : hi ≤ B) : PathOwn lo hi w' a l := by
  rcases h with h | ⟨b, e, h1, h2, h3⟩
  · exact .inl h
  · exact .inr ⟨b, e, h1, h2, h3.below hb hB (by omega)⟩
theorem PartPc.wide {lo hi lo' hi' b : Nat} {w : World} {l : List Pc} {n k : Nat} (h : PartPc lo hi w b l n k) (h1 : lo' ≤ lo) (h2 : hi ≤ hi') : PartPc lo' hi' w b l n k := by
  obtain ⟨f, R, C, h3, h4⟩ := h
  refine ⟨f, R, C, h3, fun i hi => ?_⟩
  obtain ⟨e0, e1, e2, e3, e4⟩ := h4 i hi
  exact ⟨e0, e1, e2, e3.wide h1 h2, e4⟩
theorem PathOwn.wide {lo hi lo' hi' : Nat} {w : World} {a : Option Addr} {l : List Pc} (h : PathOwn lo hi w a l) (h1 : lo' ≤ lo) (h2 : hi ≤ hi') : PathOwn lo' hi' w a l := by
  rcases h with h | ⟨b, e, h3, h4, h5⟩
  · exact .inl h
  · exact .inr ⟨b, e, by omega, by omega, h5.wide h1 h2⟩
theorem PathOwn.kept {lo hi : Nat} {p : Nat → Prop} {w w' : World} {a : Option Addr} {l : List Pc} (h : PathOwn lo hi w a l) (hk : KeptP p w w') (hh : hi ≤ w.heap.size) (hp : ∀ c, lo ≤ c → c < hi → ¬ p c) : PathOwn lo hi w' a l := by
  rcases h with h | ⟨b, e, h1, h2, h3⟩
  · exact .inl h
  · exact .inr ⟨b, e, h1, h2, h3.of_blocks (hk.block b (by omega) (hp b h1 h2)) (fun c h4 h5 => hk.block c (by omega) (hp c h4 h5))⟩
theorem PathOwn.setCell {lo hi b j : Nat} {w : World} {a : Option Addr} {l : List Pc} (h : PathOwn lo hi w a l) (hb : b < lo) (v : Value) : PathOwn lo hi (w.setCell ⟨b, j, none⟩ v) a l := by
  rcases h with h | ⟨g, e, h1, h2, h3⟩
  · exact .inl h
  · exact .inr ⟨g, e, h1, h2, h3.of_blocks (Below.heap_setCell w ⟨b, j, none⟩ v g (by simp; omega)) (fun c h4 _ => Below.heap_setCell w ⟨b, j, none⟩ v c (by simp; omega))⟩

/-- the cells of a piece that is laid into a list -/
abbrev putPc (w : World) (b k : Nat) (x y : Value) (z : Value) : World := ((w.setCell ⟨b, k * 3, none⟩ x).setCell ⟨b, k * 3 + 1, none⟩ y).setCell ⟨b, k * 3 + 2, none⟩ z
theorem putPc_block (w : World) (b k c : Nat) (x y z : Value) (h : c ≠ b) : (putPc w b k x y z).heap[c]? = w.heap[c]? := by
  unfold putPc
  rw [Below.heap_setCell _ _ _ _ (by simpa using h), Below.heap_setCell _ _ _ _ (by simpa using h), Below.heap_setCell _ _ _ _ (by simpa using h)]
/-- one piece more, whose kids are new -/
theorem PartPc.step {lo hi hi' b g cap : Nat} {w : World} {l : List Pc} {n k : Nat} (h : PartPc lo hi w b l n k) (hk : k < n) (hb : b < hi) (hr : RowOwn hi hi' w (some ⟨g, 0, none⟩) (pat l k).2.2) (hlo : lo ≤ hi) (hhi : hi ≤ hi') :
    PartPc lo hi' (putPc w b k (.int .i64 (pat l k).1) (.int .u8 (pat l k).2.1) (.slice (some ⟨g, 0, none⟩) (pat l k).2.2.length cap)) b l n (k + 1) := by
  obtain ⟨f, R, C, h1, h2⟩ := h
  have hgb : (pat l k).2.2 ≠ [] → hi ≤ g := by
    intro hne
    rcases hr with h | ⟨c, e, h3, _, _⟩
    · exact absurd h hne
    · simp at e; omega
  have keep : ∀ {x y : Nat} {a : Option Addr} {r : List Int}, RowOwn x y w a r → (r ≠ [] → a ≠ some ⟨b, 0, none⟩) → RowOwn x y (putPc w b k (.int .i64 (pat l k).1) (.int .u8 (pat l k).2.1) (.slice (some ⟨g, 0, none⟩) (pat l k).2.2.length cap)) a r := by
    intro x y a r hx hne
    by_cases h0 : r = []
    · exact .inl h0
    · rcases hx with h | ⟨c, e, h3, h4, h5⟩
      · exact absurd h h0
      · have hcb : c ≠ b := by intro e2; subst e2; exact hne h0 e
        exact .inr ⟨c, e, h3, h4, h5.of_block (putPc_block _ _ _ _ _ _ _ hcb)⟩
  refine ⟨_, fun i => if i = k then some ⟨g, 0, none⟩ else R i, fun i => if i = k then cap else C i, ((h1.set (k * 3) (by omega) _).set (k * 3 + 1) (by omega) _).set (k * 3 + 2) (by omega) _, fun i hi2 => ?_⟩
  by_cases e : i = k
  · subst e
    refine ⟨by simp, by simp, by simp, ?_, ?_⟩
    · simp only [if_true]
      exact keep (hr.wide hlo (Nat.le_refl _)) (fun hne e => by have := hgb hne; simp at e <;> omega)
    · intro hne
      have hge := hgb hne
      refine ⟨fun c hc => by simp at hc; omega, fun j hj hnj => ?_⟩
      have : ¬ j = i := by omega
      simp only [this, if_false, if_true]
      intro e3
      obtain ⟨_, _, _, e4, _⟩ := h2 j (by omega)
      rcases e4 with h | ⟨c, ec, _, hc, _⟩
      · exact hnj h
      · rw [e3] at ec; simp at ec <;> omega
  · obtain ⟨e0, e1, e2, e3, e4⟩ := h2 i (by omega)
    have n1 : ¬ i * 3 = k * 3 + 2 := by omega
    have n2 : ¬ i * 3 = k * 3 + 1 := by omega
    have n3 : ¬ i * 3 = k * 3 := by omega
    have n4 : ¬ i * 3 + 1 = k * 3 + 2 := by omega
    have n5 : ¬ i * 3 + 1 = k * 3 + 1 := by omega
    have n6 : ¬ i * 3 + 1 = k * 3 := by omega
    have n7 : ¬ i * 3 + 2 = k * 3 + 2 := by omega
    have n8 : ¬ i * 3 + 2 = k * 3 + 1 := by omega
    have n9 : ¬ i * 3 + 2 = k * 3 := by omega
    refine ⟨by simp only [n1, n2, n3, if_false]; exact e0, by simp only [n4, n5, n6, if_false]; exact e1, by simp only [n7, n8, n9, if_false, e]; exact e2, ?_, ?_⟩
    · simp only [e, if_false]
      exact (keep e3 (fun hne he => (e4 hne).1 b he rfl)).wide (Nat.le_refl _) hhi
    · intro hne
      simp only [e, if_false]
      refine ⟨(e4 hne).1, fun j hj hnj => ?_⟩
      have : ¬ j = k := by omega
      simp only [this, if_false]
      exact (e4 hne).2 j hj hnj

theorem Try.info120 : (Try.prog.info? 120).map (fun i => (i.zero, i.size, i.bytes)) = some (some (.agg #[.int .i64 0, .int .u8 0, .slice none 0 0]), 3, 40) := by kernel_rfl

set_option maxHeartbeats 2000000 in
set_option maxRecDepth 100000 in
theorem toPieces_any (lo hi : Nat) (a : Option Addr) (n cap : Nat) (l : List Pc) (w : World) (ha : PathIn lo hi w a l) (hh : hi ≤ w.heap.size) (hn : l.length = n) (hm : n ≤ 1048576) (hr : ∀ i, i < n → (pat l i).2.2.length ≤ 1048576) :
    Calls Try.prog 37 #[.slice a n cap] w fun e w' => ∃ g : Nat, e = .returned (.slice (some ⟨g, 0, none⟩) n n) ∧ Hid (PathOwn w.heap.size w'.heap.size w' (some ⟨g, 0, none⟩) l) ∧ Hid (Below w.heap.size w w') := by
  have HN : Hid (l.length = n) := hn
  have HA : Hid (PathIn lo hi w a l) := ha
  have HH : Hid (hi ≤ w.heap.size) := hh
  have HR : Hid (∀ i, i < n → (pat l i).2.2.length ≤ 1048576) := hr
  obtain ⟨i0, hi0, hz0, hz1, hz2⟩ := info_parts Try.info120
  have hmk := Go.run_make (P := Try.prog) w 32 120 i0 _ Try.underlying32 hi0 hz0 .i64 .i64 (n : Int) (n : Int) (by omega) (by omega) (by rw [hz2]; omega) (by omega)
  rw [hz1] at hmk
  obtain ⟨cs, hcs⟩ : ∃ cs, cs = madeCells (Value.agg #[.int .i64 0, .int .u8 0, .slice none 0 0]).cells ((n : Int).toNat * 3) := ⟨_, rfl⟩
  rw [← hcs, Int.toNat_natCast] at hmk
  have HZ : Hid (cs.size = n * 3) := by rw [hcs, size_madeCells, Int.toNat_natCast]; rfl
  clear ha hn hh hr hcs hi0 hz0 hz1 hz2
  go_enter Try.func37, Try.ntmps37
  go_wp2
  go_loopw [4] (fun i wr => ∃ k : Nat, i = .int .i64 k ∧ k ≤ n ∧ Hid (PartPc w.heap.size wr.heap.size wr w.heap.size l n k) ∧ Hid (Below w.heap.size w wr) ∧ Hid (w.heap.size < wr.heap.size)) (fun i _ => n - (intOf i).toNat)
  case atStart =>
    refine ⟨0, rfl, by omega, ?_, below1 _ _, by show _ < _; simp⟩
    refine ⟨fun i => cs.getD i (.int .i64 0), fun _ => none, fun _ => 0, ?_, fun i hi => absurd hi (by omega)⟩
    rw [← HZ.out]
    exact blk_new w cs 120 _ (fun i hi => by simp [Array.getD, hi])
  case round =>
    obtain ⟨k, rfl, hk, HP, HL, HS⟩ := hrel
    by_cases hlt : k < n
    · have hlt1 : (k : Int) < (n : Int) := by omega
      obtain ⟨b, o, rfl, h1, h2, hc0, hc1, ra, rc, hc2, hrow⟩ := (HA.out.below HL.out HH.out).piece (k := k) (by rw [HN.out]; exact hlt)
      have HROW : Hid (RowIn lo hi wr ra (pat l k).2.2) := hrow
      obtain ⟨q, HQ⟩ : ∃ q : Nat, Hid (q = (pat l k).2.2.length) := ⟨_, rfl⟩
      obtain ⟨x, HX⟩ : ∃ x, Hid (x = (pat l k).1) := ⟨_, rfl⟩
      obtain ⟨y, HY⟩ : ∃ x, Hid (x = (pat l k).2.1) := ⟨_, rfl⟩
      rw [← HX.out] at hc0
      rw [← HY.out] at hc1
      rw [← HQ.out] at hc2
      clear hrow h1 h2
      have hq : q ≤ 1048576 := by rw [HQ.out]; exact HR.out k hlt
      have hsz : hi ≤ wr.heap.size := Nat.le_trans HH.out HL.out.size
      go_wp2_with fail
      refine (toPiece_any lo hi x y ra q rc (pat l k).2.2 wr HROW.out hsz HQ.out.symm hq).mono ?_
      rintro e w1 ⟨g, rfl, X1, B1⟩
      have HP1 : Hid (PartPc w.heap.size wr.heap.size w1 w.heap.size l n k) := HP.out.below B1.out (Nat.le_refl _) HS.out
      have HS1 : Hid (wr.heap.size ≤ w1.heap.size) := B1.out.size
      have HB1 : Hid (Below w.heap.size w w1) := HL.out.trans (B1.out.mono HL.out.size)
      obtain ⟨f, R, C, hblk, _⟩ := HP1.out
      have hd0 := hblk.cell (i := k * 3) (by omega)
      have hd1 := hblk.cell (i := k * 3 + 1) (by omega)
      have hd2 := hblk.cell (i := k * 3 + 2) (by omega)
      have hf0 := hblk.frozen (k * 3)
      have hf1 := hblk.frozen (k * 3 + 1)
      have hf2 := hblk.frozen (k * 3 + 2)
      clear hblk hc0 hc1 hc2 B1
      go_wp2
      go_roundw
      case rel =>
        have hst := HP1.out.step (cap := q) hlt HS.out X1.out HL.out.size HS1.out
        rw [← HQ.out, ← HX.out, ← HY.out] at hst
        refine ⟨k + 1, by go_num, by omega, ?_, ((HB1.out.setCell (Nat.le_refl _) _).setCell (Nat.le_refl _) _).setCell (Nat.le_refl _) _, ?_⟩
        · show PartPc _ _ _ _ _ _ _
          simpa using hst
        · have := HS.out; have := HS1.out; show _ < _; simp; omega
      case measure => simp [intOf]; omega
    · obtain rfl : k = n := by omega
      go_wp2
      go_ret
      refine ⟨w.heap.size, rfl, .inr ⟨_, rfl, Nat.le_refl _, HS.out, ?_⟩, HL.out⟩
      rw [HN.out]; exact HP.out

set_option maxHeartbeats 1000000 in
theorem toPath_any (lo hi : Nat) (a : Option Addr) (n cap : Nat) (l : List Pc) (w : World) (ha : PathIn lo hi w a l) (hh : hi ≤ w.heap.size) (hn : l.length = n) (hm : n ≤ 1048576) (hr : ∀ i, i < n → (pat l i).2.2.length ≤ 1048576) :
    Calls Try.prog 10 #[pv a n cap] w fun e w' => ∃ g : Nat, e = .returned (pv (some ⟨g, 0, none⟩) n n) ∧ Hid (PathOwn w.heap.size w'.heap.size w' (some ⟨g, 0, none⟩) l) ∧ Hid (Below w.heap.size w w') := by
  have HC : Hid (∀ w0, Below w.heap.size w w0 → Calls Try.prog 37 #[.slice a n cap] w0 fun e w' => ∃ g : Nat, e = .returned (.slice (some ⟨g, 0, none⟩) n n) ∧ Hid (PathOwn w0.heap.size w'.heap.size w' (some ⟨g, 0, none⟩) l) ∧ Hid (Below w0.heap.size w0 w')) :=
    fun w0 h => toPieces_any lo hi a n cap l w0 (ha.below h hh) (Nat.le_trans hh h.size) hn hm hr
  clear ha hh hn hr
  unfold pv
  go_enter Try.func10, Try.ntmps10
  go_wp2_with fail
  refine (HC.out _ (below3 w _ _ _)).mono ?_
  rintro e w1 ⟨g, rfl, hx, hb⟩
  have hb1 := hb.out
  clear hb
  have k1 := ((blk_one (w.alloc (.cells #[.slice a n cap] 24)) (w.heap.size + 1) (by simp) (.slice none 0 0) 34).alloc (.cells #[.slice none 0 0] 34)).of_block (hb1.block (w.heap.size + 1) (by simp))
  have k2 := (blk_one ((w.alloc (.cells #[.slice a n cap] 24)).alloc (.cells #[.slice none 0 0] 34)) (w.heap.size + 1 + 1) (by simp) (.slice none 0 0) 34).of_block (hb1.block (w.heap.size + 1 + 1) (by simp))
  have c1 : w1.cell? ⟨w.heap.size + 1, 0, none⟩ = some (.slice none 0 0) := k1.cell (i := 0) (by omega)
  have c3 : w1.cell? ⟨w.heap.size + 1 + 1, 0, none⟩ = some (.slice none 0 0) := k2.cell (i := 0) (by omega)
  have f1 : w1.frozen? ⟨w.heap.size + 1, 0, none⟩ = false := k1.frozen 0
  have f3 : w1.frozen? ⟨w.heap.size + 1 + 1, 0, none⟩ = false := k2.frozen 0
  clear k1 k2
  have HX : Hid (PathOwn (w.heap.size + 1 + 1 + 1) w1.heap.size w1 (some ⟨g, 0, none⟩) l) := by have := hx.out; simp at this; exact this
  have HB : Hid (Below w.heap.size w w1) := (below3 w _ _ _).trans (hb1.mono (by simp; omega))
  clear hx hb1
  go_wp2
  refine bodyPost_ret (v := .agg #[.slice (some ⟨g, 0, none⟩) n n]) (by simp [results, Try.results10, go_sem, c1]) rfl ?_
  refine ⟨g, rfl, ?_, ?_⟩
  · have := ((HX.out.setCell (b := w.heap.size + 1 + 1) (j := 0) (by omega) (.slice (some ⟨g, 0, none⟩) n n)).setCell (b := w.heap.size + 1) (j := 0) (by omega) (.slice (some ⟨g, 0, none⟩) n n))
    exact (this.wide (by omega) (by simp))
  · exact (HB.out.setCell (by simp; omega) _).setCell (by simp) _

set_option maxHeartbeats 2000000 in
theorem eqPiece_any (lo hi lo' hi' : Nat) (x x' y y' : Int) (a a' : Option Addr) (n n' cap cap' : Nat) (l l' : List Int) (r : Bool) (w : World) (ha : RowIn lo hi w a l) (hb : RowIn lo' hi' w a' l') (hh : hi ≤ w.heap.size) (hh' : hi' ≤ w.heap.size) (hn : l.length = n) (hn' : l'.length = n') (hm : n ≤ 1048576) (hr : r = decide ((x, y, l) = (x', y', l'))) :
    Calls Try.prog 85 #[.agg #[.int .i64 x, .int .u8 y, .slice a n cap], .agg #[.int .i64 x', .int .u8 y', .slice a' n' cap']] w fun e w' => e = .returned (.bool r) ∧ Below w.heap.size w w' := by
  have HR : Hid (r = decide ((x, y, l) = (x', y', l'))) := hr
  have HA : Hid (RowIn lo hi w a l) := ha
  have HB : Hid (RowIn lo' hi' w a' l') := hb
  have HN : Hid (l.length = n) := hn
  have HN' : Hid (l'.length = n') := hn'
  have HH : Hid (hi ≤ w.heap.size ∧ hi' ≤ w.heap.size) := ⟨hh, hh'⟩
  obtain ⟨s, HS⟩ : ∃ s : Bool, Hid (s = decide (l = l')) := ⟨_, rfl⟩
  clear ha hb hr hn hn' hh hh'
  by_cases hx : x = x'
  · subst hx
    by_cases hy : y = y'
    · subst hy
      have HT : Hid (r = s) := by show _ = _; rw [HR.out, HS.out]; simp
      go_enter Try.func85, Try.ntmps85
      go_wp2_with fail
      refine (eqInts_any lo hi lo' hi' a a' n n' cap cap' l l' s _ (HA.out.below (below2 _ _ _) HH.out.1) (HB.out.below (below2 _ _ _) HH.out.2) HN.out HN'.out hm HS.out).mono ?_
      rintro e w1 ⟨rfl, hb1⟩
      have HB1 : Hid (Below w.heap.size w w1) := (below2 w _ _).trans (hb1.mono (by simp; omega))
      clear hb1
      cases s
      · go_wp2
        go_ret
        exact ⟨by rw [HT.out]; rfl, HB1.out⟩
      · go_wp2
        go_ret
        exact ⟨by rw [HT.out]; rfl, HB1.out⟩
    · have HT : Hid (r = false) := by show _ = _; rw [HR.out]; simp [hy]
      go_enter Try.func85, Try.ntmps85
      go_wp2
      go_ret
      exact ⟨by rw [HT.out]; rfl, below2 _ _ _⟩
  · have HT : Hid (r = false) := by show _ = _; rw [HR.out]; simp [hx]
    go_enter Try.func85, Try.ntmps85
    go_wp2
    go_ret
    exact ⟨by rw [HT.out]; rfl, below2 _ _ _⟩

set_option maxHeartbeats 4000000 in
set_option maxRecDepth 100000 in
theorem eqPieces_any (lo hi lo' hi' : Nat) (a a' : Option Addr) (n n' cap cap' : Nat) (l l' : List Pc) (r : Bool) (w : World) (ha : PathIn lo hi w a l) (hb : PathIn lo' hi' w a' l') (hh : hi ≤ w.heap.size) (hh' : hi' ≤ w.heap.size) (hn : l.length = n) (hn' : l'.length = n') (hm : n ≤ 1048576) (hr : ∀ i, i < n → (pat l i).2.2.length ≤ 1048576) (hR : r = decide (l = l')) :
    Calls Try.prog 45 #[.slice a n cap, .slice a' n' cap'] w fun e w' => e = .returned (.bool r) ∧ Below w.heap.size w w' := by
  have HR : Hid (r = decide (l = l')) := hR
  have HN : Hid (l.length = n) := hn
  have HN' : Hid (l'.length = n') := hn'
  have HA : Hid (PathIn lo hi w a l) := ha
  have HB : Hid (PathIn lo' hi' w a' l') := hb
  have HH : Hid (hi ≤ w.heap.size ∧ hi' ≤ w.heap.size) := ⟨hh, hh'⟩
  have HQ : Hid (∀ i, i < n → (pat l i).2.2.length ≤ 1048576) := hr
  clear ha hb hn hn' hh hh' hr hR
  by_cases hne : n = n'
  · subst hne
    go_enter Try.func45, Try.ntmps45
    go_wp2
    go_loopw [5] (fun i wr => ∃ k : Nat, i = .int .i64 k ∧ k ≤ n ∧ Hid (∀ j, j < k → pat l j = pat l' j) ∧ Hid (Below w.heap.size w wr)) (fun i _ => n - (intOf i).toNat)
    case atStart => exact ⟨0, rfl, by omega, fun j hj => absurd hj (by omega), Below.refl _ _⟩
    case round =>
      obtain ⟨k, rfl, hk, HE, HL⟩ := hrel
      by_cases hlt : k < n
      · have hlt1 : (k : Int) < (n : Int) := by omega
        obtain ⟨b, o, rfl, _, _, hc0, hc1, ra, rc, hc2, hrow⟩ := (HA.out.below HL.out HH.out.1).piece (k := k) (by rw [HN.out]; exact hlt)
        obtain ⟨b', o', rfl, _, _, hc0', hc1', ra', rc', hc2', hrow'⟩ := (HB.out.below HL.out HH.out.2).piece (k := k) (by rw [HN'.out]; exact hlt)
        have HROW : Hid (RowIn lo hi wr ra (pat l k).2.2) := hrow
        have HROW' : Hid (RowIn lo' hi' wr ra' (pat l' k).2.2) := hrow'
        obtain ⟨q, HQ1⟩ : ∃ q : Nat, Hid (q = (pat l k).2.2.length) := ⟨_, rfl⟩
        obtain ⟨x, HX⟩ : ∃ x, Hid (x = (pat l k).1) := ⟨_, rfl⟩
        obtain ⟨y, HY⟩ : ∃ x, Hid (x = (pat l k).2.1) := ⟨_, rfl⟩
        obtain ⟨q', HQ'⟩ : ∃ q : Nat, Hid (q = (pat l' k).2.2.length) := ⟨_, rfl⟩
        obtain ⟨x', HX'⟩ : ∃ x, Hid (x = (pat l' k).1) := ⟨_, rfl⟩
        obtain ⟨y', HY'⟩ : ∃ x, Hid (x = (pat l' k).2.1) := ⟨_, rfl⟩
        rw [← HX.out] at hc0
        rw [← HY.out] at hc1
        rw [← HQ1.out] at hc2
        rw [← HX'.out] at hc0'
        rw [← HY'.out] at hc1'
        rw [← HQ'.out] at hc2'
        clear hrow hrow'
        have hq : q ≤ 1048576 := by rw [HQ1.out]; exact HQ.out k hlt
        obtain ⟨s, HS⟩ : ∃ s : Bool, Hid (s = decide (pat l k = pat l' k)) := ⟨_, rfl⟩
        have hl1 := lt_of_cell hc1
        have hl2 := lt_of_cell hc1'
        have HC : Hid (∀ w0, Below wr.heap.size wr w0 → Calls Try.prog 85 #[.agg #[.int .i64 x, .int .u8 y, .slice ra q rc], .agg #[.int .i64 x', .int .u8 y', .slice ra' q' rc']] w0 fun e w' => e = .returned (.bool s) ∧ Hid (Below w.heap.size w w') ∧ (w'.cell? ⟨b, o + k * 3, none⟩ = some (.int .i64 x) ∧ w'.cell? ⟨b, o + k * 3 + 1, none⟩ = some (.int .u8 y) ∧ w'.cell? ⟨b, o + k * 3 + 2, none⟩ = some (.slice ra q rc) ∧ w'.cell? ⟨b', o' + k * 3, none⟩ = some (.int .i64 x') ∧ w'.cell? ⟨b', o' + k * 3 + 1, none⟩ = some (.int .u8 y') ∧ w'.cell? ⟨b', o' + k * 3 + 2, none⟩ = some (.slice ra' q' rc'))) := by
          intro w0 h
          have e1 := HH.out.1; have e2 := HH.out.2; have e3 := HL.out.size; have e4 := h.size
          refine (eqPiece_any lo hi lo' hi' x x' y y' ra ra' q q' rc rc' (pat l k).2.2 (pat l' k).2.2 s w0 (HROW.out.below h (by omega)) (HROW'.out.below h (by omega)) (by omega) (by omega) HQ1.out.symm HQ'.out.symm hq (by rw [HS.out, HX.out, HX'.out, HY.out, HY'.out])).mono ?_
          exact fun _ _ ⟨h1, h2⟩ => ⟨h1, (HL.out.trans (h.mono e3)).trans (h2.mono (by omega)), cell_below hc0 (h.trans (h2.mono e4)) hl1, cell_below hc1 (h.trans (h2.mono e4)) hl1, cell_below hc2 (h.trans (h2.mono e4)) hl1, cell_below hc0' (h.trans (h2.mono e4)) hl2, cell_below hc1' (h.trans (h2.mono e4)) hl2, cell_below hc2' (h.trans (h2.mono e4)) hl2⟩
        clear hl1 hl2
        go_wp2_with fail
        go_region_held3 (fun w' => w'.cell? ⟨b, o + k * 3, none⟩ = some (.int .i64 x) ∧ w'.cell? ⟨b, o + k * 3 + 1, none⟩ = some (.int .u8 y) ∧ w'.cell? ⟨b, o + k * 3 + 2, none⟩ = some (.slice ra q rc) ∧ w'.cell? ⟨b', o' + k * 3, none⟩ = some (.int .i64 x') ∧ w'.cell? ⟨b', o' + k * 3 + 1, none⟩ = some (.int .u8 y') ∧ w'.cell? ⟨b', o' + k * 3 + 2, none⟩ = some (.slice ra' q' rc')) (first | exact ⟨hc0, hc1, hc2, hc0', hc1', hc2'⟩ | exact hk1) (first | (go_at_call 85; refine (HC.out _ (Below.drew (Below.refl _ _))).mono ?_; rintro e w1 ⟨rfl, hb1, hk1⟩))
        all_goals clear hk1
        all_goals (rcases Bool.eq_false_or_eq_true s with hs | hs)
        all_goals subst hs
        · go_wp2
          go_roundw
          case rel =>
            refine ⟨k + 1, by go_num, by omega, ?_, hb1⟩
            intro j hj
            rcases Nat.lt_or_ge j k with h | h
            · exact HE.out j h
            · obtain rfl : j = k := by omega
              have := HS.out
              simpa using this.symm
          case measure => simp [intOf]; omega
        · go_wp2
          go_ret
          refine ⟨?_, hb1.out⟩
          have hf : r = false := by
            rw [HR.out]; simp only [decide_eq_false_iff_not]
            intro e
            have := HS.out
            rw [e] at this
            simp at this
          rw [hf]; rfl
      · go_wp2
        go_ret
        refine ⟨?_, HL.out⟩
        have ht : r = true := by
          rw [HR.out]; simp only [decide_eq_true_eq]
          refine pat_ext (by rw [HN.out, HN'.out]) fun i h1 => ?_
          exact HE.out i (by have := HN.out; omega)
        rw [ht]; rfl
  · have hf : r = false := by
      rw [HR.out]; simp only [decide_eq_false_iff_not]
      intro e; subst e; have := HN.out; have := HN'.out; omega
    subst hf
    go_enter Try.func45, Try.ntmps45
    go_wp2
    go_ret
    exact ⟨rfl, Below.refl _ _⟩

set_option maxHeartbeats 1000000 in
theorem eqPath_any (lo hi lo' hi' : Nat) (a a' : Option Addr) (n n' cap cap' : Nat) (l l' : List Pc) (r : Bool) (w : World) (ha : PathIn lo hi w a l) (hb : PathIn lo' hi' w a' l') (hh : hi ≤ w.heap.size) (hh' : hi' ≤ w.heap.size) (hn : l.length = n) (hn' : l'.length = n') (hm : n ≤ 1048576) (hr : ∀ i, i < n → (pat l i).2.2.length ≤ 1048576) (hR : r = decide (l = l')) :
    Calls Try.prog 13 #[pv a n cap, pv a' n' cap'] w fun e w' => e = .returned (.bool r) ∧ Hid (Below w.heap.size w w') := by
  have HC : Hid (∀ w0, Below w.heap.size w w0 → Calls Try.prog 45 #[.slice a n cap, .slice a' n' cap'] w0 fun e w' => e = .returned (.bool r) ∧ Hid (Below w.heap.size w w')) := fun w0 h =>
    (eqPieces_any lo hi lo' hi' a a' n n' cap cap' l l' r w0 (ha.below h hh) (hb.below h hh') (Nat.le_trans hh h.size) (Nat.le_trans hh' h.size) hn hn' hm hr hR).mono fun _ _ ⟨h1, h2⟩ => ⟨h1, h.trans (h2.mono h.size)⟩
  clear ha hb hh hh' hn hn' hr hR
  unfold pv
  go_enter Try.func13, Try.ntmps13
  go_wp2_with fail
  refine (HC.out _ (below2 w _ _)).mono ?_
  rintro e w1 ⟨rfl, hb1⟩
  cases r
  · go_wp2
    go_ret
    exact ⟨rfl, hb1.out⟩
  · go_wp2
    go_ret
    exact ⟨rfl, hb1.out⟩
end Go.Proofs.Ytkcflhlipdnbnaa

/-
  Marks in all that a path owns, and whether they are held: markPieceS, markPath, heldPieceS, heldPath.
-/
namespace Go.Proofs.Ytkcflhlipdnbnaa
open Go.RowKit

/-- the first mark of piece i -/
def posP (K : Nat) (l : List Pc) (i : Nat) : Nat := K + kidsLen l i + i * 2
/-- a piece that is marked -/
def mkAtP (K : Nat) (l : List Pc) (i : Nat) : Pc := (((posP K l i : Nat) : Int), ((posP K l i + 1 : Nat) : Int) % 256, marks (posP K l i + 2) (pat l i).2.2.length)
/-- the pieces ahead of place k are marked -/
def mkToP (K : Nat) (l : List Pc) (k : Nat) : List Pc := (List.range l.length).map fun i => if i < k then mkAtP K l i else pat l i
theorem mkToP_len (K : Nat) (l : List Pc) (k : Nat) : (mkToP K l k).length = l.length := by simp [mkToP]
theorem mkToP_at {K : Nat} {l : List Pc} {k i : Nat} (h : i < l.length) : pat (mkToP K l k) i = if i < k then mkAtP K l i else pat l i := by simp [mkToP, pat, List.getD, h]
theorem mkToP_zero (K : Nat) (l : List Pc) : mkToP K l 0 = l := by
  refine pat_ext (mkToP_len K l 0) fun i hi => ?_
  rw [mkToP_at (by rw [mkToP_len] at hi; exact hi)]; simp
theorem mkAtP_len (K : Nat) (l : List Pc) (i : Nat) : (mkAtP K l i).2.2.length = (pat l i).2.2.length := by simp [mkAtP, marks]
theorem mkToP_rowlen {K : Nat} {l : List Pc} {k i : Nat} (h : i < l.length) : (pat (mkToP K l k) i).2.2.length = (pat l i).2.2.length := by
  rw [mkToP_at h]; split
  · exact mkAtP_len K l i
  · rfl
theorem posP_step (K : Nat) (l : List Pc) (k : Nat) : posP K l (k + 1) = posP K l k + 2 + (pat l k).2.2.length := by simp only [posP, kidsLen]; omega

/-- one piece turned in place -/
theorem PartPc.turned {lo hi b n k : Nat} {w w1 : World} {l l' : List Pc} {f : Nat → Value} {R : Nat → Option Addr} {C : Nat → Nat} {r' : List Int} {x' y' : Int}
    (h1 : Blk w b (n * 3) f)
    (h2 : ∀ i, i < n → f (i * 3) = .int .i64 (pat l i).1 ∧ f (i * 3 + 1) = .int .u8 (pat l i).2.1 ∧ f (i * 3 + 2) = .slice (R i) (pat l i).2.2.length (C i) ∧ RowOwn lo hi w (R i) (pat l i).2.2 ∧ ((pat l i).2.2 ≠ [] → (∀ c, R i = some ⟨c, 0, none⟩ → c ≠ b) ∧ ∀ j, j < i → (pat l j).2.2 ≠ [] → R j ≠ R i))
    (hk : k < n) (hK : KeptP (fun c => (pat l k).2.2 ≠ [] ∧ R k = some ⟨c, 0, none⟩) ((w.setCell ⟨b, k * 3, none⟩ (.int .i64 x')).setCell ⟨b, k * 3 + 1, none⟩ (.int .u8 y')) w1) (hr : RowOwn lo hi w1 (R k) r') (hl : r'.length = (pat l k).2.2.length)
    (e1 : pat l' k = (x', y', r')) (e2 : ∀ i, i < n → i ≠ k → pat l' i = pat l i) : PartPc lo hi w1 b l' n n := by
  have hrow : ∀ i, i < n → (pat l' i).2.2.length = (pat l i).2.2.length := by
    intro i hi
    by_cases e : i = k
    · subst e; rw [e1]; exact hl
    · rw [e2 i hi e]
  have hne : ∀ i, i < n → ((pat l' i).2.2 ≠ [] ↔ (pat l i).2.2 ≠ []) := fun i hi => ne_nil_len (hrow i hi)
  have hb0 := (h1.set (k * 3) (by omega) (.int .i64 x')).set (k * 3 + 1) (by omega) (.int .u8 y')
  have hb1 := hK.blk hb0 (fun ⟨h3, h4⟩ => ((h2 k hk).2.2.2.2 h3).1 b h4 rfl)
  refine ⟨_, R, C, hb1, fun i hin => ?_⟩
  obtain ⟨p0, p1, p2, p3, p4⟩ := h2 i hin
  have n1 : ¬ i * 3 = k * 3 + 1 := by omega
  have n2 : ¬ i * 3 + 1 = k * 3 := by omega
  have n3 : ¬ i * 3 + 2 = k * 3 + 1 := by omega
  have n4 : ¬ i * 3 + 2 = k * 3 := by omega
  refine ⟨?_, ?_, by simp only [n3, n4, if_false]; rw [p2, hrow i hin], ?_, ?_⟩
  · simp only [n1, if_false]
    by_cases e : i = k
    · subst e; rw [e1]; simp
    · have n5 : ¬ i * 3 = k * 3 := by omega
      simp only [n5, if_false]; rw [p0, e2 i hin e]
  · by_cases e : i = k
    · subst e; rw [e1]; simp
    · have n5 : ¬ i * 3 + 1 = k * 3 + 1 := by omega
      simp only [n5, n2, if_false]; rw [p1, e2 i hin e]
  · by_cases e : i = k
    · subst e; rw [e1]; exact hr
    · rw [e2 i hin e]
      by_cases hi0 : (pat l i).2.2 = []
      · exact .inl hi0
      · rcases p3 with h | ⟨c, ec, h5, h6, h7⟩
        · exact absurd h hi0
        · have hcb : c ≠ b := (p4 hi0).1 c ec
          have h8 := (h7.of_block (Below.heap_setCell w ⟨b, k * 3, none⟩ (.int .i64 x') c (by simpa using hcb))).of_block (Below.heap_setCell _ ⟨b, k * 3 + 1, none⟩ (.int .u8 y') c (by simpa using hcb))
          refine .inr ⟨c, ec, h5, h6, hK.blk h8 (fun ⟨h9, h10⟩ => ?_)⟩
          rcases Nat.lt_or_ge i k with h | h
          · exact ((h2 k hk).2.2.2.2 h9).2 i h hi0 (by rw [ec, h10])
          · exact (p4 hi0).2 k (by omega) h9 (by rw [ec, h10])
  · intro h3
    have h4 := p4 ((hne i hin).1 h3)
    exact ⟨h4.1, fun j hj hj0 => h4.2 j hj ((hne j (by omega)).1 hj0)⟩

set_option maxHeartbeats 4000000 in
set_option maxRecDepth 100000 in
theorem markPieces_any (lo hi : Nat) (a : Option Addr) (n cap K : Nat) (l : List Pc) (w : World) (ha : PathOwn lo hi w a l) (hn : l.length = n) (hm : n ≤ 1048576) (hs : kidsLen l n ≤ 1048576) (hK : K ≤ 1000000000) :
    Calls Try.prog 46 #[.slice a n cap, .int .i64 (K : Int)] w fun e w' => e = .returned (.int .i64 ((posP K l n : Nat) : Int)) ∧ Hid (PathOwn lo hi w' a (mkToP K l n)) ∧ Hid (KeptP (fun c => lo ≤ c ∧ c < hi) w w') := by
  have HN : Hid (l.length = n) := hn
  have HQ : Hid (∀ i, i < n → (pat l i).2.2.length ≤ 1048576) := fun i hi => Nat.le_trans (kids_le l hi) hs
  have HBD : Hid (∀ k, k ≤ n → posP K l k ≤ 1010000000) := by
    intro k hk
    have := kidsLen_mono l hk
    unfold posP
    omega
  by_cases h0 : n = 0
  · subst h0
    have hl : l = [] := List.length_eq_zero_iff.1 hn
    have HP : Hid (posP K l 0 = K) := by show _ = _; simp [posP, kidsLen]
    rw [HP.out]
    clear hn hs
    have HL : Hid (l = []) := hl
    clear ha hl
    go_enter Try.func46, Try.ntmps46
    go_wp2
    go_loop [5, 1] (fun i k => i = .int .i64 0 ∧ k = .int .i64 (K : Int)) (fun _ _ => 0)
    case atStart => exact ⟨rfl, rfl⟩
    case round =>
      obtain ⟨rfl, rfl⟩ := hrel
      go_wp2
      go_ret
      exact ⟨rfl, .inl (by rw [HL.out]; rfl), KeptP.refl _ _⟩
  · obtain ⟨b, rfl, h1, h2, hp⟩ : ∃ b, a = some ⟨b, 0, none⟩ ∧ lo ≤ b ∧ b < hi ∧ PartPc lo hi w b l l.length l.length := by
      rcases ha with rfl | h
      · exact absurd hn (by simp; omega)
      · exact h
    have HX : Hid (lo ≤ b ∧ b < hi) := ⟨h1, h2⟩
    have HP0 : Hid (PartPc lo hi w b (mkToP K l 0) n n) := by rw [mkToP_zero]; rw [hn] at hp; exact hp
    clear ha hp hn hs h1 h2
    go_enter Try.func46, Try.ntmps46
    go_wp2
    go_loopw [5, 1] (fun i s wr => ∃ k : Nat, i = .int .i64 k ∧ (∃ m : Nat, s = .int .i64 (m : Int) ∧ Hid (m = posP K l k)) ∧ k ≤ n ∧ Hid (PartPc lo hi wr b (mkToP K l k) n n) ∧ Hid (KeptP (fun c => lo ≤ c ∧ c < hi) w wr)) (fun i _ _ => n - (intOf i).toNat)
    case atStart => exact ⟨0, rfl, ⟨K, rfl, by show _ = _; simp [posP, kidsLen]⟩, by omega, HP0, KeptP.refl _ _⟩
    case round =>
      obtain ⟨k, rfl, ⟨m, rfl, HM⟩, hk, HP, HL⟩ := hrel
      by_cases hlt : k < n
      · have hlt1 : (k : Int) < (n : Int) := by omega
        obtain ⟨f, R, C, hblk, hrows⟩ := HP.out
        have HBK : Hid (Blk wr b (n * 3) f) := hblk
        have HRS : Hid (∀ i, i < n → f (i * 3) = .int .i64 (pat (mkToP K l k) i).1 ∧ f (i * 3 + 1) = .int .u8 (pat (mkToP K l k) i).2.1 ∧ f (i * 3 + 2) = .slice (R i) (pat (mkToP K l k) i).2.2.length (C i) ∧ RowOwn lo hi wr (R i) (pat (mkToP K l k) i).2.2 ∧ ((pat (mkToP K l k) i).2.2 ≠ [] → (∀ c, R i = some ⟨c, 0, none⟩ → c ≠ b) ∧ ∀ j, j < i → (pat (mkToP K l k) j).2.2 ≠ [] → R j ≠ R i)) := hrows
        obtain ⟨q, HQ1⟩ : ∃ q : Nat, Hid (q = (pat (mkToP K l k) k).2.2.length) := ⟨_, rfl⟩
        obtain ⟨ra, HRA⟩ : ∃ ra, Hid (ra = R k) := ⟨_, rfl⟩
        obtain ⟨rc, HRC⟩ : ∃ rc, Hid (rc = C k) := ⟨_, rfl⟩
        have hd0 := hblk.cell (i := k * 3) (by omega)
        have hd1 := hblk.cell (i := k * 3 + 1) (by omega)
        have hd2 := hblk.cell (i := k * 3 + 2) (by omega)
        rw [(hrows k hlt).2.2.1, ← HQ1.out, ← HRA.out, ← HRC.out] at hd2
        have hf0 := hblk.frozen (k * 3)
        have hf1 := hblk.frozen (k * 3 + 1)
        have HQ2 : Hid (q = (pat l k).2.2.length) := by show _ = _; rw [HQ1.out, mkToP_rowlen (by rw [HN.out]; exact hlt)]
        have hq : q ≤ 1048576 := by rw [HQ2.out]; exact HQ.out k hlt
        have hmb : m ≤ 1010000000 := by rw [HM.out]; exact HBD.out k hk
        obtain ⟨W, HW⟩ : ∃ W, Hid (W = (wr.setCell ⟨b, k * 3, none⟩ (.int .i64 (m : Int))).setCell ⟨b, k * 3 + 1, none⟩ (.int .u8 (((m : Int) + 1) % 256))) := ⟨_, rfl⟩
        have HRW : Hid (RowOwn lo hi W ra (pat (mkToP K l k) k).2.2) := by
          rw [HW.out, HRA.out]
          by_cases hi0 : (pat (mkToP K l k) k).2.2 = []
          · exact .inl hi0
          · rcases (hrows k hlt).2.2.2.1 with h | ⟨c, ec, h5, h6, h7⟩
            · exact absurd h hi0
            · have hcb : c ≠ b := ((hrows k hlt).2.2.2.2 hi0).1 c ec
              exact .inr ⟨c, ec, h5, h6, (h7.of_block (Below.heap_setCell _ _ _ c (by simpa using hcb))).of_block (Below.heap_setCell _ _ _ c (by simpa using hcb))⟩
        clear hblk hrows
        go_wp2_with fail
        rw [← HW.out]
        have hm2 : ((m : Int) + 1 + 1) = ((m + 2 : Nat) : Int) := by omega
        rw [hm2]
        refine (markInts_any (fun c => (pat (mkToP K l k) k).2.2 ≠ [] ∧ R k = some ⟨c, 0, none⟩) lo hi ra q rc (m + 2) (pat (mkToP K l k) k).2.2 W HRW.out HQ1.out.symm hq (by omega) (fun c hc hne => ⟨hne, by rw [← HRA.out]; exact hc⟩)).mono ?_
        rintro e w1 ⟨rfl, hr1, hk1, _⟩
        have HR1 : Hid (RowOwn lo hi w1 (R k) (marks (m + 2) q)) := by rw [← HRA.out]; exact hr1
        have HK1 : Hid (KeptP (fun c => (pat (mkToP K l k) k).2.2 ≠ [] ∧ R k = some ⟨c, 0, none⟩) ((wr.setCell ⟨b, k * 3, none⟩ (.int .i64 (m : Int))).setCell ⟨b, k * 3 + 1, none⟩ (.int .u8 (((m : Int) + 1) % 256))) w1) := by rw [← HW.out]; exact hk1
        clear hr1 hk1 hd0 hd1 hd2 hf0 hf1 HRW HW
        go_wp2
        go_roundw
        case rel =>
          refine ⟨k + 1, by go_num, ⟨m + 2 + q, by go_num, by show _ = _; rw [posP_step, HM.out, HQ2.out]⟩, by omega, ?_, ?_⟩
          · refine PartPc.turned (r' := marks (m + 2) q) HBK.out HRS.out hlt HK1.out HR1.out (by rw [marks_len, HQ1.out]) ?_ ?_
            · rw [mkToP_at (by rw [HN.out]; exact hlt), if_pos (by omega)]
              unfold mkAtP
              rw [← HM.out, ← HQ2.out]
              simp
            · intro i hi hne
              rw [mkToP_at (by rw [HN.out]; exact hi), mkToP_at (by rw [HN.out]; exact hi)]
              by_cases e : i < k
              · rw [if_pos (by omega), if_pos e]
              · rw [if_neg (by omega), if_neg e]
          · refine ((HL.out.setCell HX.out _).setCell HX.out _).trans (HK1.out.mono ?_)
            rintro c ⟨h3, h4⟩
            rcases (HRS.out k hlt).2.2.2.1 with h | ⟨c', ec, h5, h6, _⟩
            · exact absurd h h3
            · rw [h4] at ec; simp at ec; subst ec; exact ⟨h5, h6⟩
        case measure => simp [intOf]; omega
      · obtain rfl : k = n := by omega
        go_wp2
        go_ret
        refine ⟨by rw [← HM.out]; rfl, .inr ⟨b, rfl, HX.out.1, HX.out.2, ?_⟩, HL⟩
        rw [mkToP_len, HN.out]
        exact HP.out

set_option maxHeartbeats 1000000 in
theorem markPath_any (lo hi : Nat) (a : Option Addr) (n cap K : Nat) (l : List Pc) (w : World) (ha : PathOwn lo hi w a l) (hh : hi ≤ w.heap.size) (hn : l.length = n) (hm : n ≤ 1048576) (hs : kidsLen l n ≤ 1048576) (hK : K ≤ 1000000000) :
    Calls Try.prog 14 #[pv a n cap, .int .i64 (K : Int)] w fun e w' => ∃ m : Nat, e = .returned (.int .i64 (m : Int)) ∧ Hid (m = posP K l n) ∧ Hid (PathOwn lo hi w' a (mkToP K l n)) ∧ Hid (KeptP (fun c => lo ≤ c ∧ c < hi) w w') := by
  have HC : Hid (∀ o, Calls Try.prog 46 #[.slice a n cap, .int .i64 (K : Int)] (w.alloc o) fun e w' => e = .returned (.int .i64 ((posP K l n : Nat) : Int)) ∧ Hid (PathOwn lo hi w' a (mkToP K l n)) ∧ Hid (KeptP (fun c => lo ≤ c ∧ c < hi) (w.alloc o) w')) := fun o =>
    markPieces_any lo hi a n cap K l (w.alloc o) (ha.below (below1 w o) hh) hn hm hs hK
  clear ha hn hs hh
  unfold pv
  go_enter Try.func14, Try.ntmps14
  go_wp2_with fail
  refine (HC.out _).mono ?_
  rintro e w1 ⟨rfl, H1, H2⟩
  have HK : Hid (KeptP (fun c => lo ≤ c ∧ c < hi) w w1) := (KeptP.of_below (below1 w _) (fun k hk _ => hk)).trans H2.out
  obtain ⟨m, HM⟩ : ∃ m : Nat, Hid (m = posP K l n) := ⟨_, rfl⟩
  rw [← HM.out]
  clear H2
  go_wp2
  go_ret
  exact ⟨m, rfl, HM, H1, HK⟩

end Go.Proofs.Ytkcflhlipdnbnaa
