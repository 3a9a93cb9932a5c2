/-
  Paths that are owned; made new (toPieceS, toPath); held against one another (eqPieceS, eqPath).
-/
import Derived.Test.YtkcflhlipdnbnaaPtA
namespace Go.Proofs.Ytkcflhlipdnbnaa
open Go.RowKit

/-- the first k of n pieces lie in a block, their kids in blocks of their own -/
def PartPc (lo hi : Nat) (w : World) (b : Nat) (l : List Pc) (n k : Nat) : Prop :=
  ∃ (f : Nat → Value) (R : Nat → Option Addr) (C : Nat → Nat), Blk w b (n * 3) f ∧ ∀ i, i < k → f (i * 3) = .int .i64 (pat l i).1 ∧ f (i * 3 + 1) = .int .u8 (pat l i).2.1 ∧ f (i * 3 + 2) = .slice (R i) (pat l i).2.2.length (C i) ∧ RowOwn lo hi w (R i) (pat l i).2.2 ∧
    ((pat l i).2.2 ≠ [] → (∀ c, R i = some ⟨c, 0, none⟩ → c ≠ b) ∧ ∀ j, j < i → (pat l j).2.2 ≠ [] → R j ≠ R i)
/-- a list of pieces that is owned -/
def PathOwn (lo hi : Nat) (w : World) (a : Option Addr) (l : List Pc) : Prop :=
  l = [] ∨ ∃ b, a = some ⟨b, 0, none⟩ ∧ lo ≤ b ∧ b < hi ∧ PartPc lo hi w b l l.length l.length

theorem PathOwn.toIn {lo hi : Nat} {w : World} {a : Option Addr} {l : List Pc} (h : PathOwn lo hi w a l) : PathIn lo hi w a l := by
  rcases h with h | ⟨b, e, h1, h2, f, R, C, hB, hp⟩
  · exact .inl h
  · refine .inr ⟨b, 0, e, h1, h2, fun i hi => ?_⟩
    obtain ⟨e1, e2, e3, e4, _⟩ := hp i hi
    refine ⟨?_, ?_, R i, C i, ?_, e4.toIn⟩
    · rw [Nat.zero_add, hB.cell (by omega), e1]
    · rw [Nat.zero_add, hB.cell (by omega), e2]
    · rw [Nat.zero_add, hB.cell (by omega), e3]
theorem PartPc.of_blocks {lo hi b : Nat} {w w' : World} {l : List Pc} {n k : Nat} (h : PartPc lo hi w b l n k) (h1 : w'.heap[b]? = w.heap[b]?) (h2 : ∀ c, lo ≤ c → c < hi → w'.heap[c]? = w.heap[c]?) : PartPc lo hi w' b l n k := by
  obtain ⟨f, R, C, h3, h4⟩ := h
  refine ⟨f, R, C, h3.of_block h1, fun i hi => ?_⟩
  obtain ⟨e0, e1, e2, e3, e4⟩ := h4 i hi
  refine ⟨e0, e1, e2, ?_, e4⟩
  rcases e3 with h | ⟨c, ec, h5, h6, h7⟩
  · exact .inl h
  · exact .inr ⟨c, ec, h5, h6, h7.of_block (h2 c h5 h6)⟩
theorem PartPc.below {lo hi B b : Nat} {w w' : World} {l : List Pc} {n k : Nat} (h : PartPc lo hi w b l n k) (hb : Below B w w') (hB : hi ≤ B) (hl : b < B) : PartPc lo hi w' b l n k :=
  h.of_blocks (hb.block b hl) (fun c _ h2 => hb.block c (by omega))
theorem PathOwn.below {lo hi B : Nat} {w w' : World} {a : Option Addr} {l : List Pc} (h : PathOwn lo hi w a l) (hb : Below B w w') (hB : hi ≤ B) : PathOwn lo hi w' a l := by
  rcases h with h | ⟨b, e, h1, h2, h3⟩
  · exact .inl h
  · exact .inr ⟨b, e, h1, h2, h3.below hb hB (by omega)⟩
theorem PartPc.wide {lo hi lo' hi' b : Nat} {w : World} {l : List Pc} {n k : Nat} (h : PartPc lo hi w b l n k) (h1 : lo' ≤ lo) (h2 : hi ≤ hi') : PartPc lo' hi' w b l n k := by
  obtain ⟨f, R, C, h3, h4⟩ := h
  refine ⟨f, R, C, h3, fun i hi => ?_⟩
  obtain ⟨e0, e1, e2, e3, e4⟩ := h4 i hi
  exact ⟨e0, e1, e2, e3.wide h1 h2, e4⟩
theorem PathOwn.wide {lo hi lo' hi' : Nat} {w : World} {a : Option Addr} {l : List Pc} (h : PathOwn lo hi w a l) (h1 : lo' ≤ lo) (h2 : hi ≤ hi') : PathOwn lo' hi' w a l := by
  rcases h with h | ⟨b, e, h3, h4, h5⟩
  · exact .inl h
  · exact .inr ⟨b, e, by omega, by omega, h5.wide h1 h2⟩
theorem PathOwn.kept {lo hi : Nat} {p : Nat → Prop} {w w' : World} {a : Option Addr} {l : List Pc} (h : PathOwn lo hi w a l) (hk : KeptP p w w') (hh : hi ≤ w.heap.size) (hp : ∀ c, lo ≤ c → c < hi → ¬ p c) : PathOwn lo hi w' a l := by
  rcases h with h | ⟨b, e, h1, h2, h3⟩
  · exact .inl h
  · exact .inr ⟨b, e, h1, h2, h3.of_blocks (hk.block b (by omega) (hp b h1 h2)) (fun c h4 h5 => hk.block c (by omega) (hp c h4 h5))⟩
theorem PathOwn.setCell {lo hi b j : Nat} {w : World} {a : Option Addr} {l : List Pc} (h : PathOwn lo hi w a l) (hb : b < lo) (v : Value) : PathOwn lo hi (w.setCell ⟨b, j, none⟩ v) a l := by
  rcases h with h | ⟨g, e, h1, h2, h3⟩
  · exact .inl h
  · exact .inr ⟨g, e, h1, h2, h3.of_blocks (Below.heap_setCell w ⟨b, j, none⟩ v g (by simp; omega)) (fun c h4 _ => Below.heap_setCell w ⟨b, j, none⟩ v c (by simp; omega))⟩

/-- the cells of a piece that is laid into a list -/
abbrev putPc (w : World) (b k : Nat) (x y : Value) (z : Value) : World := ((w.setCell ⟨b, k * 3, none⟩ x).setCell ⟨b, k * 3 + 1, none⟩ y).setCell ⟨b, k * 3 + 2, none⟩ z
theorem putPc_block (w : World) (b k c : Nat) (x y z : Value) (h : c ≠ b) : (putPc w b k x y z).heap[c]? = w.heap[c]? := by
  unfold putPc
  rw [Below.heap_setCell _ _ _ _ (by simpa using h), Below.heap_setCell _ _ _ _ (by simpa using h), Below.heap_setCell _ _ _ _ (by simpa using h)]
/-- one piece more, whose kids are new -/
theorem PartPc.step {lo hi hi' b g cap : Nat} {w : World} {l : List Pc} {n k : Nat} (h : PartPc lo hi w b l n k) (hk : k < n) (hb : b < hi) (hr : RowOwn hi hi' w (some ⟨g, 0, none⟩) (pat l k).2.2) (hlo : lo ≤ hi) (hhi : hi ≤ hi') :
    PartPc lo hi' (putPc w b k (.int .i64 (pat l k).1) (.int .u8 (pat l k).2.1) (.slice (some ⟨g, 0, none⟩) (pat l k).2.2.length cap)) b l n (k + 1) := by
  obtain ⟨f, R, C, h1, h2⟩ := h
  have hgb : (pat l k).2.2 ≠ [] → hi ≤ g := by
    intro hne
    rcases hr with h | ⟨c, e, h3, _, _⟩
    · exact absurd h hne
    · simp at e; omega
  have keep : ∀ {x y : Nat} {a : Option Addr} {r : List Int}, RowOwn x y w a r → (r ≠ [] → a ≠ some ⟨b, 0, none⟩) → RowOwn x y (putPc w b k (.int .i64 (pat l k).1) (.int .u8 (pat l k).2.1) (.slice (some ⟨g, 0, none⟩) (pat l k).2.2.length cap)) a r := by
    intro x y a r hx hne
    by_cases h0 : r = []
    · exact .inl h0
    · rcases hx with h | ⟨c, e, h3, h4, h5⟩
      · exact absurd h h0
      · have hcb : c ≠ b := by intro e2; subst e2; exact hne h0 e
        exact .inr ⟨c, e, h3, h4, h5.of_block (putPc_block _ _ _ _ _ _ _ hcb)⟩
  refine ⟨_, fun i => if i = k then some ⟨g, 0, none⟩ else R i, fun i => if i = k then cap else C i, ((h1.set (k * 3) (by omega) _).set (k * 3 + 1) (by omega) _).set (k * 3 + 2) (by omega) _, fun i hi2 => ?_⟩
  by_cases e : i = k
  · subst e
    refine ⟨by simp, by simp, by simp, ?_, ?_⟩
    · simp only [if_true]
      exact keep (hr.wide hlo (Nat.le_refl _)) (fun hne e => by have := hgb hne; simp at e <;> omega)
    · intro hne
      have hge := hgb hne
      refine ⟨fun c hc => by simp at hc; omega, fun j hj hnj => ?_⟩
      have : ¬ j = i := by omega
      simp only [this, if_false, if_true]
      intro e3
      obtain ⟨_, _, _, e4, _⟩ := h2 j (by omega)
      rcases e4 with h | ⟨c, ec, _, hc, _⟩
      · exact hnj h
      · rw [e3] at ec; simp at ec <;> omega
  · obtain ⟨e0, e1, e2, e3, e4⟩ := h2 i (by omega)
    have n1 : ¬ i * 3 = k * 3 + 2 := by omega
    have n2 : ¬ i * 3 = k * 3 + 1 := by omega
    have n3 : ¬ i * 3 = k * 3 := by omega
    have n4 : ¬ i * 3 + 1 = k * 3 + 2 := by omega
    have n5 : ¬ i * 3 + 1 = k * 3 + 1 := by omega
    have n6 : ¬ i * 3 + 1 = k * 3 := by omega
    have n7 : ¬ i * 3 + 2 = k * 3 + 2 := by omega
    have n8 : ¬ i * 3 + 2 = k * 3 + 1 := by omega
    have n9 : ¬ i * 3 + 2 = k * 3 := by omega
    refine ⟨by simp only [n1, n2, n3, if_false]; exact e0, by simp only [n4, n5, n6, if_false]; exact e1, by simp only [n7, n8, n9, if_false, e]; exact e2, ?_, ?_⟩
    · simp only [e, if_false]
      exact (keep e3 (fun hne he => (e4 hne).1 b he rfl)).wide (Nat.le_refl _) hhi
    · intro hne
      simp only [e, if_false]
      refine ⟨(e4 hne).1, fun j hj hnj => ?_⟩
      have : ¬ j = k := by omega
      simp only [this, if_false]
      exact (e4 hne).2 j hj hnj

theorem Try.info120 : (Try.prog.info? 120).map (fun i => (i.zero, i.size, i.bytes)) = some (some (.agg #[.int .i64 0, .int .u8 0, .slice none 0 0]), 3, 40) := by kernel_rfl

set_option maxHeartbeats 2000000 in
set_option maxRecDepth 100000 in
theorem toPieces_any (lo hi : Nat) (a : Option Addr) (n cap : Nat) (l : List Pc) (w : World) (ha : PathIn lo hi w a l) (hh : hi ≤ w.heap.size) (hn : l.length = n) (hm : n ≤ 1048576) (hr : ∀ i, i < n → (pat l i).2.2.length ≤ 1048576) :
    Calls Try.prog 37 #[.slice a n cap] w fun e w' => ∃ g : Nat, e = .returned (.slice (some ⟨g, 0, none⟩) n n) ∧ Hid (PathOwn w.heap.size w'.heap.size w' (some ⟨g, 0, none⟩) l) ∧ Hid (Below w.heap.size w w') := by
  have HN : Hid (l.length = n) := hn
  have HA : Hid (PathIn lo hi w a l) := ha
  have HH : Hid (hi ≤ w.heap.size) := hh
  have HR : Hid (∀ i, i < n → (pat l i).2.2.length ≤ 1048576) := hr
  obtain ⟨i0, hi0, hz0, hz1, hz2⟩ := info_parts Try.info120
  have hmk := Go.run_make (P := Try.prog) w 32 120 i0 _ Try.underlying32 hi0 hz0 .i64 .i64 (n : Int) (n : Int) (by omega) (by omega) (by rw [hz2]; omega) (by omega)
  rw [hz1] at hmk
  obtain ⟨cs, hcs⟩ : ∃ cs, cs = madeCells (Value.agg #[.int .i64 0, .int .u8 0, .slice none 0 0]).cells ((n : Int).toNat * 3) := ⟨_, rfl⟩
  rw [← hcs, Int.toNat_natCast] at hmk
  have HZ : Hid (cs.size = n * 3) := by rw [hcs, size_madeCells, Int.toNat_natCast]; rfl
  clear ha hn hh hr hcs hi0 hz0 hz1 hz2
  go_enter Try.func37, Try.ntmps37
  go_wp2
  go_loopw [4] (fun i wr => ∃ k : Nat, i = .int .i64 k ∧ k ≤ n ∧ Hid (PartPc w.heap.size wr.heap.size wr w.heap.size l n k) ∧ Hid (Below w.heap.size w wr) ∧ Hid (w.heap.size < wr.heap.size)) (fun i _ => n - (intOf i).toNat)
  case atStart =>
    refine ⟨0, rfl, by omega, ?_, below1 _ _, by show _ < _; simp⟩
    refine ⟨fun i => cs.getD i (.int .i64 0), fun _ => none, fun _ => 0, ?_, fun i hi => absurd hi (by omega)⟩
    rw [← HZ.out]
    exact blk_new w cs 120 _ (fun i hi => by simp [Array.getD, hi])
  case round =>
    obtain ⟨k, rfl, hk, HP, HL, HS⟩ := hrel
    by_cases hlt : k < n
    · have hlt1 : (k : Int) < (n : Int) := by omega
      obtain ⟨b, o, rfl, h1, h2, hc0, hc1, ra, rc, hc2, hrow⟩ := (HA.out.below HL.out HH.out).piece (k := k) (by rw [HN.out]; exact hlt)
      have HROW : Hid (RowIn lo hi wr ra (pat l k).2.2) := hrow
      obtain ⟨q, HQ⟩ : ∃ q : Nat, Hid (q = (pat l k).2.2.length) := ⟨_, rfl⟩
      obtain ⟨x, HX⟩ : ∃ x, Hid (x = (pat l k).1) := ⟨_, rfl⟩
      obtain ⟨y, HY⟩ : ∃ x, Hid (x = (pat l k).2.1) := ⟨_, rfl⟩
      rw [← HX.out] at hc0
      rw [← HY.out] at hc1
      rw [← HQ.out] at hc2
      clear hrow h1 h2
      have hq : q ≤ 1048576 := by rw [HQ.out]; exact HR.out k hlt
      have hsz : hi ≤ wr.heap.size := Nat.le_trans HH.out HL.out.size
      go_wp2_with fail
      refine (toPiece_any lo hi x y ra q rc (pat l k).2.2 wr HROW.out hsz HQ.out.symm hq).mono ?_
      rintro e w1 ⟨g, rfl, X1, B1⟩
      have HP1 : Hid (PartPc w.heap.size wr.heap.size w1 w.heap.size l n k) := HP.out.below B1.out (Nat.le_refl _) HS.out
      have HS1 : Hid (wr.heap.size ≤ w1.heap.size) := B1.out.size
      have HB1 : Hid (Below w.heap.size w w1) := HL.out.trans (B1.out.mono HL.out.size)
      obtain ⟨f, R, C, hblk, _⟩ := HP1.out
      have hd0 := hblk.cell (i := k * 3) (by omega)
      have hd1 := hblk.cell (i := k * 3 + 1) (by omega)
      have hd2 := hblk.cell (i := k * 3 + 2) (by omega)
      have hf0 := hblk.frozen (k * 3)
      have hf1 := hblk.frozen (k * 3 + 1)
      have hf2 := hblk.frozen (k * 3 + 2)
      clear hblk hc0 hc1 hc2 B1
      go_wp2
      go_roundw
      case rel =>
        have hst := HP1.out.step (cap := q) hlt HS.out X1.out HL.out.size HS1.out
        rw [← HQ.out, ← HX.out, ← HY.out] at hst
        refine ⟨k + 1, by go_num, by omega, ?_, ((HB1.out.setCell (Nat.le_refl _) _).setCell (Nat.le_refl _) _).setCell (Nat.le_refl _) _, ?_⟩
        · show PartPc _ _ _ _ _ _ _
          simpa using hst
        · have := HS.out; have := HS1.out; show _ < _; simp; omega
      case measure => simp [intOf]; omega
    · obtain rfl : k = n := by omega
      go_wp2
      go_ret
      refine ⟨w.heap.size, rfl, .inr ⟨_, rfl, Nat.le_refl _, HS.out, ?_⟩, HL.out⟩
      rw [HN.out]; exact HP.out

set_option maxHeartbeats 1000000 in
theorem toPath_any (lo hi : Nat) (a : Option Addr) (n cap : Nat) (l : List Pc) (w : World) (ha : PathIn lo hi w a l) (hh : hi ≤ w.heap.size) (hn : l.length = n) (hm : n ≤ 1048576) (hr : ∀ i, i < n → (pat l i).2.2.length ≤ 1048576) :
    Calls Try.prog 10 #[pv a n cap] w fun e w' => ∃ g : Nat, e = .returned (pv (some ⟨g, 0, none⟩) n n) ∧ Hid (PathOwn w.heap.size w'.heap.size w' (some ⟨g, 0, none⟩) l) ∧ Hid (Below w.heap.size w w') := by
  have HC : Hid (∀ w0, Below w.heap.size w w0 → Calls Try.prog 37 #[.slice a n cap] w0 fun e w' => ∃ g : Nat, e = .returned (.slice (some ⟨g, 0, none⟩) n n) ∧ Hid (PathOwn w0.heap.size w'.heap.size w' (some ⟨g, 0, none⟩) l) ∧ Hid (Below w0.heap.size w0 w')) :=
    fun w0 h => toPieces_any lo hi a n cap l w0 (ha.below h hh) (Nat.le_trans hh h.size) hn hm hr
  clear ha hh hn hr
  unfold pv
  go_enter Try.func10, Try.ntmps10
  go_wp2_with fail
  refine (HC.out _ (below3 w _ _ _)).mono ?_
  rintro e w1 ⟨g, rfl, hx, hb⟩
  have hb1 := hb.out
  clear hb
  have k1 := ((blk_one (w.alloc (.cells #[.slice a n cap] 24)) (w.heap.size + 1) (by simp) (.slice none 0 0) 34).alloc (.cells #[.slice none 0 0] 34)).of_block (hb1.block (w.heap.size + 1) (by simp))
  have k2 := (blk_one ((w.alloc (.cells #[.slice a n cap] 24)).alloc (.cells #[.slice none 0 0] 34)) (w.heap.size + 1 + 1) (by simp) (.slice none 0 0) 34).of_block (hb1.block (w.heap.size + 1 + 1) (by simp))
  have c1 : w1.cell? ⟨w.heap.size + 1, 0, none⟩ = some (.slice none 0 0) := k1.cell (i := 0) (by omega)
  have c3 : w1.cell? ⟨w.heap.size + 1 + 1, 0, none⟩ = some (.slice none 0 0) := k2.cell (i := 0) (by omega)
  have f1 : w1.frozen? ⟨w.heap.size + 1, 0, none⟩ = false := k1.frozen 0
  have f3 : w1.frozen? ⟨w.heap.size + 1 + 1, 0, none⟩ = false := k2.frozen 0
  clear k1 k2
  have HX : Hid (PathOwn (w.heap.size + 1 + 1 + 1) w1.heap.size w1 (some ⟨g, 0, none⟩) l) := by have := hx.out; simp at this; exact this
  have HB : Hid (Below w.heap.size w w1) := (below3 w _ _ _).trans (hb1.mono (by simp; omega))
  clear hx hb1
  go_wp2
  refine bodyPost_ret (v := .agg #[.slice (some ⟨g, 0, none⟩) n n]) (by simp [results, Try.results10, go_sem, c1]) rfl ?_
  refine ⟨g, rfl, ?_, ?_⟩
  · have := ((HX.out.setCell (b := w.heap.size + 1 + 1) (j := 0) (by omega) (.slice (some ⟨g, 0, none⟩) n n)).setCell (b := w.heap.size + 1) (j := 0) (by omega) (.slice (some ⟨g, 0, none⟩) n n))
    exact (this.wide (by omega) (by simp))
  · exact (HB.out.setCell (by simp; omega) _).setCell (by simp) _

set_option maxHeartbeats 2000000 in
theorem eqPiece_any (lo hi lo' hi' : Nat) (x x' y y' : Int) (a a' : Option Addr) (n n' cap cap' : Nat) (l l' : List Int) (r : Bool) (w : World) (ha : RowIn lo hi w a l) (hb : RowIn lo' hi' w a' l') (hh : hi ≤ w.heap.size) (hh' : hi' ≤ w.heap.size) (hn : l.length = n) (hn' : l'.length = n') (hm : n ≤ 1048576) (hr : r = decide ((x, y, l) = (x', y', l'))) :
    Calls Try.prog 85 #[.agg #[.int .i64 x, .int .u8 y, .slice a n cap], .agg #[.int .i64 x', .int .u8 y', .slice a' n' cap']] w fun e w' => e = .returned (.bool r) ∧ Below w.heap.size w w' := by
  have HR : Hid (r = decide ((x, y, l) = (x', y', l'))) := hr
  have HA : Hid (RowIn lo hi w a l) := ha
  have HB : Hid (RowIn lo' hi' w a' l') := hb
  have HN : Hid (l.length = n) := hn
  have HN' : Hid (l'.length = n') := hn'
  have HH : Hid (hi ≤ w.heap.size ∧ hi' ≤ w.heap.size) := ⟨hh, hh'⟩
  obtain ⟨s, HS⟩ : ∃ s : Bool, Hid (s = decide (l = l')) := ⟨_, rfl⟩
  clear ha hb hr hn hn' hh hh'
  by_cases hx : x = x'
  · subst hx
    by_cases hy : y = y'
    · subst hy
      have HT : Hid (r = s) := by show _ = _; rw [HR.out, HS.out]; simp
      go_enter Try.func85, Try.ntmps85
      go_wp2_with fail
      refine (eqInts_any lo hi lo' hi' a a' n n' cap cap' l l' s _ (HA.out.below (below2 _ _ _) HH.out.1) (HB.out.below (below2 _ _ _) HH.out.2) HN.out HN'.out hm HS.out).mono ?_
      rintro e w1 ⟨rfl, hb1⟩
      have HB1 : Hid (Below w.heap.size w w1) := (below2 w _ _).trans (hb1.mono (by simp; omega))
      clear hb1
      cases s
      · go_wp2
        go_ret
        exact ⟨by rw [HT.out]; rfl, HB1.out⟩
      · go_wp2
        go_ret
        exact ⟨by rw [HT.out]; rfl, HB1.out⟩
    · have HT : Hid (r = false) := by show _ = _; rw [HR.out]; simp [hy]
      go_enter Try.func85, Try.ntmps85
      go_wp2
      go_ret
      exact ⟨by rw [HT.out]; rfl, below2 _ _ _⟩
  · have HT : Hid (r = false) := by show _ = _; rw [HR.out]; simp [hx]
    go_enter Try.func85, Try.ntmps85
    go_wp2
    go_ret
    exact ⟨by rw [HT.out]; rfl, below2 _ _ _⟩

set_option maxHeartbeats 4000000 in
set_option maxRecDepth 100000 in
theorem eqPieces_any (lo hi lo' hi' : Nat) (a a' : Option Addr) (n n' cap cap' : Nat) (l l' : List Pc) (r : Bool) (w : World) (ha : PathIn lo hi w a l) (hb : PathIn lo' hi' w a' l') (hh : hi ≤ w.heap.size) (hh' : hi' ≤ w.heap.size) (hn : l.length = n) (hn' : l'.length = n') (hm : n ≤ 1048576) (hr : ∀ i, i < n → (pat l i).2.2.length ≤ 1048576) (hR : r = decide (l = l')) :
    Calls Try.prog 45 #[.slice a n cap, .slice a' n' cap'] w fun e w' => e = .returned (.bool r) ∧ Below w.heap.size w w' := by
  have HR : Hid (r = decide (l = l')) := hR
  have HN : Hid (l.length = n) := hn
  have HN' : Hid (l'.length = n') := hn'
  have HA : Hid (PathIn lo hi w a l) := ha
  have HB : Hid (PathIn lo' hi' w a' l') := hb
  have HH : Hid (hi ≤ w.heap.size ∧ hi' ≤ w.heap.size) := ⟨hh, hh'⟩
  have HQ : Hid (∀ i, i < n → (pat l i).2.2.length ≤ 1048576) := hr
  clear ha hb hn hn' hh hh' hr hR
  by_cases hne : n = n'
  · subst hne
    go_enter Try.func45, Try.ntmps45
    go_wp2
    go_loopw [5] (fun i wr => ∃ k : Nat, i = .int .i64 k ∧ k ≤ n ∧ Hid (∀ j, j < k → pat l j = pat l' j) ∧ Hid (Below w.heap.size w wr)) (fun i _ => n - (intOf i).toNat)
    case atStart => exact ⟨0, rfl, by omega, fun j hj => absurd hj (by omega), Below.refl _ _⟩
    case round =>
      obtain ⟨k, rfl, hk, HE, HL⟩ := hrel
      by_cases hlt : k < n
      · have hlt1 : (k : Int) < (n : Int) := by omega
        obtain ⟨b, o, rfl, _, _, hc0, hc1, ra, rc, hc2, hrow⟩ := (HA.out.below HL.out HH.out.1).piece (k := k) (by rw [HN.out]; exact hlt)
        obtain ⟨b', o', rfl, _, _, hc0', hc1', ra', rc', hc2', hrow'⟩ := (HB.out.below HL.out HH.out.2).piece (k := k) (by rw [HN'.out]; exact hlt)
        have HROW : Hid (RowIn lo hi wr ra (pat l k).2.2) := hrow
        have HROW' : Hid (RowIn lo' hi' wr ra' (pat l' k).2.2) := hrow'
        obtain ⟨q, HQ1⟩ : ∃ q : Nat, Hid (q = (pat l k).2.2.length) := ⟨_, rfl⟩
        obtain ⟨x, HX⟩ : ∃ x, Hid (x = (pat l k).1) := ⟨_, rfl⟩
        obtain ⟨y, HY⟩ : ∃ x, Hid (x = (pat l k).2.1) := ⟨_, rfl⟩
        obtain ⟨q', HQ'⟩ : ∃ q : Nat, Hid (q = (pat l' k).2.2.length) := ⟨_, rfl⟩
        obtain ⟨x', HX'⟩ : ∃ x, Hid (x = (pat l' k).1) := ⟨_, rfl⟩
        obtain ⟨y', HY'⟩ : ∃ x, Hid (x = (pat l' k).2.1) := ⟨_, rfl⟩
        rw [← HX.out] at hc0
        rw [← HY.out] at hc1
        rw [← HQ1.out] at hc2
        rw [← HX'.out] at hc0'
        rw [← HY'.out] at hc1'
        rw [← HQ'.out] at hc2'
        clear hrow hrow'
        have hq : q ≤ 1048576 := by rw [HQ1.out]; exact HQ.out k hlt
        obtain ⟨s, HS⟩ : ∃ s : Bool, Hid (s = decide (pat l k = pat l' k)) := ⟨_, rfl⟩
        have hl1 := lt_of_cell hc1
        have hl2 := lt_of_cell hc1'
        have HC : Hid (∀ w0, Below wr.heap.size wr w0 → Calls Try.prog 85 #[.agg #[.int .i64 x, .int .u8 y, .slice ra q rc], .agg #[.int .i64 x', .int .u8 y', .slice ra' q' rc']] w0 fun e w' => e = .returned (.bool s) ∧ Hid (Below w.heap.size w w') ∧ (w'.cell? ⟨b, o + k * 3, none⟩ = some (.int .i64 x) ∧ w'.cell? ⟨b, o + k * 3 + 1, none⟩ = some (.int .u8 y) ∧ w'.cell? ⟨b, o + k * 3 + 2, none⟩ = some (.slice ra q rc) ∧ w'.cell? ⟨b', o' + k * 3, none⟩ = some (.int .i64 x') ∧ w'.cell? ⟨b', o' + k * 3 + 1, none⟩ = some (.int .u8 y') ∧ w'.cell? ⟨b', o' + k * 3 + 2, none⟩ = some (.slice ra' q' rc'))) := by
          intro w0 h
          have e1 := HH.out.1; have e2 := HH.out.2; have e3 := HL.out.size; have e4 := h.size
          refine (eqPiece_any lo hi lo' hi' x x' y y' ra ra' q q' rc rc' (pat l k).2.2 (pat l' k).2.2 s w0 (HROW.out.below h (by omega)) (HROW'.out.below h (by omega)) (by omega) (by omega) HQ1.out.symm HQ'.out.symm hq (by rw [HS.out, HX.out, HX'.out, HY.out, HY'.out])).mono ?_
          exact fun _ _ ⟨h1, h2⟩ => ⟨h1, (HL.out.trans (h.mono e3)).trans (h2.mono (by omega)), cell_below hc0 (h.trans (h2.mono e4)) hl1, cell_below hc1 (h.trans (h2.mono e4)) hl1, cell_below hc2 (h.trans (h2.mono e4)) hl1, cell_below hc0' (h.trans (h2.mono e4)) hl2, cell_below hc1' (h.trans (h2.mono e4)) hl2, cell_below hc2' (h.trans (h2.mono e4)) hl2⟩
        clear hl1 hl2
        go_wp2_with fail
        go_region_held3 (fun w' => w'.cell? ⟨b, o + k * 3, none⟩ = some (.int .i64 x) ∧ w'.cell? ⟨b, o + k * 3 + 1, none⟩ = some (.int .u8 y) ∧ w'.cell? ⟨b, o + k * 3 + 2, none⟩ = some (.slice ra q rc) ∧ w'.cell? ⟨b', o' + k * 3, none⟩ = some (.int .i64 x') ∧ w'.cell? ⟨b', o' + k * 3 + 1, none⟩ = some (.int .u8 y') ∧ w'.cell? ⟨b', o' + k * 3 + 2, none⟩ = some (.slice ra' q' rc')) (first | exact ⟨hc0, hc1, hc2, hc0', hc1', hc2'⟩ | exact hk1) (first | (go_at_call 85; refine (HC.out _ (Below.drew (Below.refl _ _))).mono ?_; rintro e w1 ⟨rfl, hb1, hk1⟩))
        all_goals clear hk1
        all_goals (rcases Bool.eq_false_or_eq_true s with hs | hs)
        all_goals subst hs
        · go_wp2
          go_roundw
          case rel =>
            refine ⟨k + 1, by go_num, by omega, ?_, hb1⟩
            intro j hj
            rcases Nat.lt_or_ge j k with h | h
            · exact HE.out j h
            · obtain rfl : j = k := by omega
              have := HS.out
              simpa using this.symm
          case measure => simp [intOf]; omega
        · go_wp2
          go_ret
          refine ⟨?_, hb1.out⟩
          have hf : r = false := by
            rw [HR.out]; simp only [decide_eq_false_iff_not]
            intro e
            have := HS.out
            rw [e] at this
            simp at this
          rw [hf]; rfl
      · go_wp2
        go_ret
        refine ⟨?_, HL.out⟩
        have ht : r = true := by
          rw [HR.out]; simp only [decide_eq_true_eq]
          refine pat_ext (by rw [HN.out, HN'.out]) fun i h1 => ?_
          exact HE.out i (by have := HN.out; omega)
        rw [ht]; rfl
  · have hf : r = false := by
      rw [HR.out]; simp only [decide_eq_false_iff_not]
      intro e; subst e; have := HN.out; have := HN'.out; omega
    subst hf
    go_enter Try.func45, Try.ntmps45
    go_wp2
    go_ret
    exact ⟨rfl, Below.refl _ _⟩

set_option maxHeartbeats 1000000 in
theorem eqPath_any (lo hi lo' hi' : Nat) (a a' : Option Addr) (n n' cap cap' : Nat) (l l' : List Pc) (r : Bool) (w : World) (ha : PathIn lo hi w a l) (hb : PathIn lo' hi' w a' l') (hh : hi ≤ w.heap.size) (hh' : hi' ≤ w.heap.size) (hn : l.length = n) (hn' : l'.length = n') (hm : n ≤ 1048576) (hr : ∀ i, i < n → (pat l i).2.2.length ≤ 1048576) (hR : r = decide (l = l')) :
    Calls Try.prog 13 #[pv a n cap, pv a' n' cap'] w fun e w' => e = .returned (.bool r) ∧ Hid (Below w.heap.size w w') := by
  have HC : Hid (∀ w0, Below w.heap.size w w0 → Calls Try.prog 45 #[.slice a n cap, .slice a' n' cap'] w0 fun e w' => e = .returned (.bool r) ∧ Hid (Below w.heap.size w w')) := fun w0 h =>
    (eqPieces_any lo hi lo' hi' a a' n n' cap cap' l l' r w0 (ha.below h hh) (hb.below h hh') (Nat.le_trans hh h.size) (Nat.le_trans hh' h.size) hn hn' hm hr hR).mono fun _ _ ⟨h1, h2⟩ => ⟨h1, h.trans (h2.mono h.size)⟩
  clear ha hb hh hh' hn hn' hr hR
  unfold pv
  go_enter Try.func13, Try.ntmps13
  go_wp2_with fail
  refine (HC.out _ (below2 w _ _)).mono ?_
  rintro e w1 ⟨rfl, hb1⟩
  cases r
  · go_wp2
    go_ret
    exact ⟨rfl, hb1.out⟩
  · go_wp2
    go_ret
    exact ⟨rfl, hb1.out⟩
end Go.Proofs.Ytkcflhlipdnbnaa
