/-
  Lists of items that are owned; made new (toItemS, toBag); held against one another (eqItemS, eqBag).
-/
import Derived.Test.YtijbngdafgmpaaaItemB
namespace Go.Proofs.Ytijbngdafgmpaaa
open Go.RowKit

theorem Try.info35 : (Try.prog.info? 35).map (fun i => (i.zero, i.size, i.bytes)) = some (some (.agg #[.slice none 0 0, .int .i64 0]), 2, 32) := by kernel_rfl

/-- the first k of n items lie in a block, their rows in blocks of their own -/
def PartOwn (lo hi : Nat) (w : World) (b : Nat) (l : List It) (n k : Nat) : Prop :=
  ∃ (f : Nat → Value) (R : Nat → Option Addr) (C : Nat → Nat), Blk w b (n * 2) f ∧ ∀ i, i < k → f (i * 2) = .slice (R i) (at' l i).1.length (C i) ∧ f (i * 2 + 1) = .int .i64 (at' l i).2 ∧ RowOwn lo hi w (R i) (at' l i).1 ∧
    ((at' l i).1 ≠ [] → (∀ c, R i = some ⟨c, 0, none⟩ → c ≠ b) ∧ ∀ j, j < i → (at' l j).1 ≠ [] → R j ≠ R i)

/-- a list of items that is owned -/
def BagOwn (lo hi : Nat) (w : World) (a : Option Addr) (l : List It) : Prop :=
  l = [] ∨ ∃ b, a = some ⟨b, 0, none⟩ ∧ lo ≤ b ∧ b < hi ∧ PartOwn lo hi w b l l.length l.length

theorem BagOwn.toIn {lo hi : Nat} {w : World} {a : Option Addr} {l : List It} (h : BagOwn lo hi w a l) : BagIn lo hi w a l := by
  rcases h with h | ⟨b, e, h1, h2, f, R, C, hB, hp⟩
  · exact .inl h
  · refine .inr ⟨b, 0, e, h1, h2, fun i hi => ?_⟩
    obtain ⟨e1, e2, e3, _⟩ := hp i hi
    refine ⟨R i, C i, ?_, e3.toIn, ?_⟩
    · rw [Nat.zero_add, hB.cell (by omega), e1]
    · rw [Nat.zero_add, hB.cell (by omega), e2]
theorem PartOwn.below {lo hi B b : Nat} {w w' : World} {l : List It} {n k : Nat} (h : PartOwn lo hi w b l n k) (hb : Below B w w') (hB : hi ≤ B) (hl : b < B) : PartOwn lo hi w' b l n k := by
  obtain ⟨f, R, C, h1, h2⟩ := h
  refine ⟨f, R, C, h1.of_block (hb.block b hl), fun i hi => ?_⟩
  obtain ⟨e1, e2, e3, e4⟩ := h2 i hi
  exact ⟨e1, e2, e3.below hb hB, e4⟩
theorem BagOwn.below {lo hi B : Nat} {w w' : World} {a : Option Addr} {l : List It} (h : BagOwn lo hi w a l) (hb : Below B w w') (hB : hi ≤ B) : BagOwn lo hi w' a l := by
  rcases h with h | ⟨b, e, h1, h2, h3⟩
  · exact .inl h
  · exact .inr ⟨b, e, h1, h2, h3.below hb hB (by omega)⟩
theorem PartOwn.wide {lo hi lo' hi' b : Nat} {w : World} {l : List It} {n k : Nat} (h : PartOwn lo hi w b l n k) (h1 : lo' ≤ lo) (h2 : hi ≤ hi') : PartOwn lo' hi' w b l n k := by
  obtain ⟨f, R, C, h3, h4⟩ := h
  refine ⟨f, R, C, h3, fun i hi => ?_⟩
  obtain ⟨e1, e2, e3, e4⟩ := h4 i hi
  exact ⟨e1, e2, e3.wide h1 h2, e4⟩
theorem BagOwn.wide {lo hi lo' hi' : Nat} {w : World} {a : Option Addr} {l : List It} (h : BagOwn lo hi w a l) (h1 : lo' ≤ lo) (h2 : hi ≤ hi') : BagOwn lo' hi' w a l := by
  rcases h with h | ⟨b, e, h3, h4, h5⟩
  · exact .inl h
  · exact .inr ⟨b, e, by omega, by omega, h5.wide h1 h2⟩

/-- one item more, whose row is new -/
theorem PartOwn.step {lo hi hi' b g cap : Nat} {w : World} {l : List It} {n k : Nat} (h : PartOwn lo hi w b l n k) (hk : k < n) (hb : b < hi) (hr : RowOwn hi hi' w (some ⟨g, 0, none⟩) (at' l k).1) (hlo : lo ≤ hi) (hhi : hi ≤ hi') :
    PartOwn lo hi' ((w.setCell ⟨b, k * 2, none⟩ (.slice (some ⟨g, 0, none⟩) (at' l k).1.length cap)).setCell ⟨b, k * 2 + 1, none⟩ (.int .i64 (at' l k).2)) b l n (k + 1) := by
  obtain ⟨f, R, C, h1, h2⟩ := h
  have hgb : (at' l k).1 ≠ [] → hi ≤ g := by
    intro hne
    rcases hr with h | ⟨c, e, h3, _, _⟩
    · exact absurd h hne
    · simp at e; omega
  have keep : ∀ {x y : Nat} {a : Option Addr} {r : List Int}, RowOwn x y w a r → (r ≠ [] → a ≠ some ⟨b, 0, none⟩) → RowOwn x y ((w.setCell ⟨b, k * 2, none⟩ (.slice (some ⟨g, 0, none⟩) (at' l k).1.length cap)).setCell ⟨b, k * 2 + 1, none⟩ (.int .i64 (at' l k).2)) a r := by
    intro x y a r hx hne
    by_cases h0 : r = []
    · exact .inl h0
    · rcases hx with h | ⟨c, e, h3, h4, h5⟩
      · exact absurd h h0
      · have hcb : c ≠ b := by intro e2; subst e2; exact hne h0 e
        refine .inr ⟨c, e, h3, h4, (h5.of_block (Below.heap_setCell w _ _ c (by simpa using hcb))).of_block (Below.heap_setCell _ _ _ c (by simpa using hcb))⟩
  refine ⟨_, fun i => if i = k then some ⟨g, 0, none⟩ else R i, fun i => if i = k then cap else C i, (h1.set (k * 2) (by omega) _).set (k * 2 + 1) (by omega) _, fun i hi2 => ?_⟩
  by_cases e : i = k
  · subst e
    refine ⟨by simp, by simp, ?_, ?_⟩
    · simp only [if_true]
      exact keep (hr.wide hlo (Nat.le_refl _)) (fun hne e => by have := hgb hne; simp at e <;> omega)
    · intro hne
      have hge := hgb hne
      refine ⟨fun c hc => by simp at hc; omega, fun j hj hnj => ?_⟩
      have : ¬ j = i := by omega
      simp only [this, if_false, if_true]
      intro e3
      obtain ⟨_, _, e4, _⟩ := h2 j (by omega)
      rcases e4 with h | ⟨c, ec, _, hc, _⟩
      · exact hnj h
      · rw [e3] at ec; simp at ec <;> omega
  · obtain ⟨e1, e2, e3, e4⟩ := h2 i (by omega)
    have n1 : ¬ i * 2 = k * 2 + 1 := by omega
    have n2 : ¬ i * 2 = k * 2 := by omega
    have n3 : ¬ i * 2 + 1 = k * 2 + 1 := by omega
    have n4 : ¬ i * 2 + 1 = k * 2 := by omega
    refine ⟨by simp only [n1, n2, if_false, e]; exact e1, by simp only [n3, n4, if_false]; exact e2, ?_, ?_⟩
    · simp only [e, if_false]
      exact (keep e3 (fun hne he => (e4 hne).1 b he rfl)).wide (Nat.le_refl _) hhi
    · intro hne
      simp only [e, if_false]
      refine ⟨(e4 hne).1, fun j hj hnj => ?_⟩
      have : ¬ j = k := by omega
      simp only [this, if_false]
      exact (e4 hne).2 j hj hnj

theorem PartOwn.of_blocks {lo hi b : Nat} {w w' : World} {l : List It} {n k : Nat} (h : PartOwn lo hi w b l n k) (h1 : w'.heap[b]? = w.heap[b]?) (h2 : ∀ c, lo ≤ c → c < hi → w'.heap[c]? = w.heap[c]?) : PartOwn lo hi w' b l n k := by
  obtain ⟨f, R, C, h3, h4⟩ := h
  refine ⟨f, R, C, h3.of_block h1, fun i hi => ?_⟩
  obtain ⟨e1, e2, e3, e4⟩ := h4 i hi
  refine ⟨e1, e2, ?_, e4⟩
  rcases e3 with h | ⟨c, ec, h5, h6, h7⟩
  · exact .inl h
  · exact .inr ⟨c, ec, h5, h6, h7.of_block (h2 c h5 h6)⟩
theorem BagOwn.setCell {lo hi b j : Nat} {w : World} {a : Option Addr} {l : List It} (h : BagOwn lo hi w a l) (hb : b < lo) (v : Value) : BagOwn lo hi (w.setCell ⟨b, j, none⟩ v) a l := by
  rcases h with h | ⟨g, e, h1, h2, h3⟩
  · exact .inl h
  · exact .inr ⟨g, e, h1, h2, h3.of_blocks (Below.heap_setCell w ⟨b, j, none⟩ v g (by simp; omega)) (fun c h4 _ => Below.heap_setCell w ⟨b, j, none⟩ v c (by simp; omega))⟩
/-- a new block of one cell -/
theorem blk_one (w : World) (b : Nat) (hb : b = w.heap.size) (x : Value) (T : TypeId) : Blk (w.alloc (.cells #[x] T)) b 1 (fun _ => x) :=
  hb ▸ blk_new w #[x] T _ (fun i hi => by
    have hi' : i < 1 := hi
    obtain rfl : i = 0 := by omega
    rfl)

set_option maxHeartbeats 1000000 in
set_option maxRecDepth 100000 in
theorem toItems_any (lo hi : Nat) (a : Option Addr) (n cap : Nat) (l : List It) (w : World) (ha : BagIn lo hi w a l) (hh : hi ≤ w.heap.size) (hn : l.length = n) (hm : n ≤ 1048576) (hr : ∀ i, i < n → (at' l i).1.length ≤ 1048576) :
    Calls Try.prog 76 #[.slice a n cap] w fun e w' => ∃ g : Nat, e = .returned (.slice (some ⟨g, 0, none⟩) n n) ∧ Hid (BagOwn w.heap.size w'.heap.size w' (some ⟨g, 0, none⟩) l) ∧ Hid (Below w.heap.size w w') := by
  have HN : Hid (l.length = n) := hn
  have HA : Hid (BagIn lo hi w a l) := ha
  have HH : Hid (hi ≤ w.heap.size) := hh
  have HR : Hid (∀ i, i < n → (at' l i).1.length ≤ 1048576) := hr
  obtain ⟨i0, hi0, hz0, hz1, hz2⟩ := info_parts Try.info35
  have hmk := Go.run_make (P := Try.prog) w 24 35 i0 _ Try.underlying24 hi0 hz0 .i64 .i64 (n : Int) (n : Int) (by omega) (by omega) (by rw [hz2]; omega) (by omega)
  rw [hz1] at hmk
  obtain ⟨cs, hcs⟩ : ∃ cs, cs = madeCells (Value.agg #[.slice none 0 0, .int .i64 0]).cells ((n : Int).toNat * 2) := ⟨_, rfl⟩
  rw [← hcs, Int.toNat_natCast] at hmk
  have HZ : Hid (cs.size = n * 2) := by rw [hcs, size_madeCells, Int.toNat_natCast]; rfl
  clear ha hn hh hr hcs hi0 hz0 hz1 hz2
  go_enter Try.func76, Try.ntmps76
  go_wp2
  go_loopw [4] (fun i wr => ∃ k : Nat, i = .int .i64 k ∧ k ≤ n ∧ Hid (PartOwn w.heap.size wr.heap.size wr w.heap.size l n k) ∧ Hid (Below w.heap.size w wr) ∧ Hid (w.heap.size < wr.heap.size)) (fun i _ => n - (intOf i).toNat)
  case atStart =>
    refine ⟨0, rfl, by omega, ?_, (Below.refl _ _).alloc (Nat.le_refl _) _, by show _ < _; simp⟩
    refine ⟨fun i => cs.getD i (.int .i64 0), fun _ => none, fun _ => 0, ?_, fun i hi => absurd hi (by omega)⟩
    rw [← HZ.out]
    exact blk_new w cs 35 _ (fun i hi => by simp [Array.getD, hi])
  case round =>
    obtain ⟨k, rfl, hk, HP, HL, HS⟩ := hrel
    by_cases hlt : k < n
    · have hlt1 : (k : Int) < (n : Int) := by omega
      obtain ⟨b, o, rfl, h1, h2, ra, rc, hc1, hrow, hc2⟩ := (HA.out.below HL.out HH.out).item (k := k) (by rw [HN.out]; exact hlt)
      have HROW : Hid (RowIn lo hi wr ra (at' l k).1) := hrow
      obtain ⟨q, HQ⟩ : ∃ q : Nat, Hid (q = (at' l k).1.length) := ⟨_, rfl⟩
      obtain ⟨t, HT⟩ : ∃ t : Int, Hid (t = (at' l k).2) := ⟨_, rfl⟩
      change wr.cell? _ = some (.slice ra (at' l k).1.length rc) at hc1
      change wr.cell? _ = some (.int .i64 (at' l k).2) at hc2
      rw [← HQ.out] at hc1
      rw [← HT.out] at hc2
      clear hrow h1 h2
      have hq : q ≤ 1048576 := by rw [HQ.out]; exact HR.out k hlt
      have hsz : hi ≤ wr.heap.size := Nat.le_trans HH.out HL.out.size
      go_wp2_with fail
      refine (toItem_any lo hi ra q rc t (at' l k).1 wr HROW.out hsz HQ.out.symm hq).mono ?_
      rintro e w1 ⟨g, rfl, X1, B1⟩
      have HP1 : Hid (PartOwn w.heap.size wr.heap.size w1 w.heap.size l n k) := HP.out.below B1.out (Nat.le_refl _) HS.out
      have HS1 : Hid (wr.heap.size ≤ w1.heap.size) := B1.out.size
      have HB1 : Hid (Below w.heap.size w w1) := HL.out.trans (B1.out.mono HL.out.size)
      obtain ⟨f, R, C, hblk, _⟩ := HP1.out
      have hd1 := hblk.cell (i := k * 2) (by omega)
      have hd2 := hblk.cell (i := k * 2 + 1) (by omega)
      have hf1 := hblk.frozen (k * 2)
      have hf2 := hblk.frozen (k * 2 + 1)
      clear hblk hc1 hc2 B1
      go_wp2
      go_roundw
      case rel =>
        have hst := HP1.out.step (cap := q) hlt HS.out X1.out HL.out.size HS1.out
        rw [← HQ.out, ← HT.out] at hst
        refine ⟨k + 1, by go_num, by omega, ?_, (HB1.out.setCell (Nat.le_refl _) _).setCell (Nat.le_refl _) _, ?_⟩
        · show PartOwn _ _ _ _ _ _ _
          simpa using hst
        · have := HS.out; have := HS1.out; show _ < _; simp; omega
      case measure => simp [intOf]; omega
    · obtain rfl : k = n := by omega
      go_wp2
      go_ret
      refine ⟨w.heap.size, rfl, .inr ⟨_, rfl, Nat.le_refl _, HS.out, ?_⟩, HL.out⟩
      rw [HN.out]; exact HP.out

set_option maxHeartbeats 1000000 in
theorem toBag_any (lo hi : Nat) (a : Option Addr) (n cap : Nat) (l : List It) (w : World) (ha : BagIn lo hi w a l) (hh : hi ≤ w.heap.size) (hn : l.length = n) (hm : n ≤ 1048576) (hr : ∀ i, i < n → (at' l i).1.length ≤ 1048576) :
    Calls Try.prog 42 #[.agg #[.slice a n cap]] w fun e w' => ∃ g : Nat, e = .returned (.agg #[.slice (some ⟨g, 0, none⟩) n n]) ∧ Hid (BagOwn w.heap.size w'.heap.size w' (some ⟨g, 0, none⟩) l) ∧ Hid (Below w.heap.size w w') := by
  have HC : Hid (∀ w0, Below w.heap.size w w0 → Calls Try.prog 76 #[.slice a n cap] w0 fun e w' => ∃ g : Nat, e = .returned (.slice (some ⟨g, 0, none⟩) n n) ∧ Hid (BagOwn w0.heap.size w'.heap.size w' (some ⟨g, 0, none⟩) l) ∧ Hid (Below w0.heap.size w0 w')) :=
    fun w0 h => toItems_any lo hi a n cap l w0 (ha.below h hh) (Nat.le_trans hh h.size) hn hm hr
  clear ha hh hn hr
  go_enter Try.func42, Try.ntmps42
  go_wp2_with fail
  refine (HC.out _ (below3 w _ _ _)).mono ?_
  rintro e w1 ⟨g, rfl, hx, hb⟩
  have hb1 := hb.out
  clear hb
  have k1 := ((blk_one (w.alloc (.cells #[.slice a n cap] 52)) (w.heap.size + 1) (by simp) (.slice none 0 0) 26).alloc (.cells #[.slice none 0 0] 26)).of_block (hb1.block (w.heap.size + 1) (by simp))
  have k2 := (blk_one ((w.alloc (.cells #[.slice a n cap] 52)).alloc (.cells #[.slice none 0 0] 26)) (w.heap.size + 1 + 1) (by simp) (.slice none 0 0) 26).of_block (hb1.block (w.heap.size + 1 + 1) (by simp))
  have c1 : w1.cell? ⟨w.heap.size + 1, 0, none⟩ = some (.slice none 0 0) := k1.cell (i := 0) (by omega)
  have c3 : w1.cell? ⟨w.heap.size + 1 + 1, 0, none⟩ = some (.slice none 0 0) := k2.cell (i := 0) (by omega)
  have f1 : w1.frozen? ⟨w.heap.size + 1, 0, none⟩ = false := k1.frozen 0
  have f3 : w1.frozen? ⟨w.heap.size + 1 + 1, 0, none⟩ = false := k2.frozen 0
  clear k1 k2
  have HX : Hid (BagOwn (w.heap.size + 1 + 1 + 1) w1.heap.size w1 (some ⟨g, 0, none⟩) l) := by have := hx.out; simp at this; exact this
  have HB : Hid (Below w.heap.size w w1) := (below3 w _ _ _).trans (hb1.mono (by simp; omega))
  clear hx hb1
  go_wp2
  refine bodyPost_ret (v := .agg #[.slice (some ⟨g, 0, none⟩) n n]) (by simp [results, Try.results42, go_sem, c1]) rfl ?_
  refine ⟨g, rfl, ?_, ?_⟩
  · have := ((HX.out.setCell (b := w.heap.size + 1 + 1) (j := 0) (by omega) (.slice (some ⟨g, 0, none⟩) n n)).setCell (b := w.heap.size + 1) (j := 0) (by omega) (.slice (some ⟨g, 0, none⟩) n n))
    exact (this.wide (by omega) (by simp))
  · exact (HB.out.setCell (by simp; omega) _).setCell (by simp) _

set_option maxHeartbeats 2000000 in
set_option maxRecDepth 100000 in
theorem eqItems_any (lo hi lo' hi' : Nat) (a a' : Option Addr) (n n' cap cap' : Nat) (l l' : List It) (r : Bool) (w : World) (ha : BagIn lo hi w a l) (hb : BagIn lo' hi' w a' l') (hh : hi ≤ w.heap.size) (hh' : hi' ≤ w.heap.size) (hn : l.length = n) (hn' : l'.length = n') (hm : n ≤ 1048576) (hr : ∀ i, i < n → (at' l i).1.length ≤ 1048576) (hR : r = decide (l = l')) :
    Calls Try.prog 77 #[.slice a n cap, .slice a' n' cap'] w fun e w' => e = .returned (.bool r) ∧ Below w.heap.size w w' := by
  have HR : Hid (r = decide (l = l')) := hR
  have HN : Hid (l.length = n) := hn
  have HN' : Hid (l'.length = n') := hn'
  have HA : Hid (BagIn lo hi w a l) := ha
  have HB : Hid (BagIn lo' hi' w a' l') := hb
  have HH : Hid (hi ≤ w.heap.size ∧ hi' ≤ w.heap.size) := ⟨hh, hh'⟩
  have HQ : Hid (∀ i, i < n → (at' l i).1.length ≤ 1048576) := hr
  clear ha hb hn hn' hh hh' hr hR
  by_cases hne : n = n'
  · subst hne
    go_enter Try.func77, Try.ntmps77
    go_wp2
    go_loopw [5] (fun i wr => ∃ k : Nat, i = .int .i64 k ∧ k ≤ n ∧ Hid (∀ j, j < k → at' l j = at' l' j) ∧ Hid (Below w.heap.size w wr)) (fun i _ => n - (intOf i).toNat)
    case atStart => exact ⟨0, rfl, by omega, fun j hj => absurd hj (by omega), Below.refl _ _⟩
    case round =>
      obtain ⟨k, rfl, hk, HE, HL⟩ := hrel
      by_cases hlt : k < n
      · have hlt1 : (k : Int) < (n : Int) := by omega
        obtain ⟨b, o, rfl, _, _, ra, rc, hc1, hrow, hc2⟩ := (HA.out.below HL.out HH.out.1).item (k := k) (by rw [HN.out]; exact hlt)
        obtain ⟨b', o', rfl, _, _, ra', rc', hc1', hrow', hc2'⟩ := (HB.out.below HL.out HH.out.2).item (k := k) (by rw [HN'.out]; exact hlt)
        have HROW : Hid (RowIn lo hi wr ra (at' l k).1) := hrow
        have HROW' : Hid (RowIn lo' hi' wr ra' (at' l' k).1) := hrow'
        obtain ⟨q, HQ1⟩ : ∃ q : Nat, Hid (q = (at' l k).1.length) := ⟨_, rfl⟩
        obtain ⟨t, HT⟩ : ∃ t : Int, Hid (t = (at' l k).2) := ⟨_, rfl⟩
        obtain ⟨q', HQ'⟩ : ∃ q : Nat, Hid (q = (at' l' k).1.length) := ⟨_, rfl⟩
        obtain ⟨t', HT'⟩ : ∃ t : Int, Hid (t = (at' l' k).2) := ⟨_, rfl⟩
        change wr.cell? _ = some (.slice ra (at' l k).1.length rc) at hc1
        change wr.cell? _ = some (.int .i64 (at' l k).2) at hc2
        change wr.cell? _ = some (.slice ra' (at' l' k).1.length rc') at hc1'
        change wr.cell? _ = some (.int .i64 (at' l' k).2) at hc2'
        rw [← HQ1.out] at hc1
        rw [← HT.out] at hc2
        rw [← HQ'.out] at hc1'
        rw [← HT'.out] at hc2'
        clear hrow hrow'
        have hq : q ≤ 1048576 := by rw [HQ1.out]; exact HQ.out k hlt
        obtain ⟨s, HS⟩ : ∃ s : Bool, Hid (s = decide (at' l k = at' l' k)) := ⟨_, rfl⟩
        have hl1 := lt_of_cell hc1
        have hl2 := lt_of_cell hc1'
        have HC : Hid (∀ w0, Below wr.heap.size wr w0 → Calls Try.prog 94 #[.agg #[.slice ra q rc, .int .i64 t], .agg #[.slice ra' q' rc', .int .i64 t']] w0 fun e w' => e = .returned (.bool s) ∧ Hid (Below w.heap.size w w') ∧ (w'.cell? ⟨b, o + k * 2, none⟩ = some (.slice ra q rc) ∧ w'.cell? ⟨b, o + k * 2 + 1, none⟩ = some (.int .i64 t) ∧ w'.cell? ⟨b', o' + k * 2, none⟩ = some (.slice ra' q' rc') ∧ w'.cell? ⟨b', o' + k * 2 + 1, none⟩ = some (.int .i64 t'))) := by
          intro w0 h
          have e1 := HH.out.1; have e2 := HH.out.2; have e3 := HL.out.size; have e4 := h.size
          refine (eqItem_any lo hi lo' hi' ra ra' q q' rc rc' t t' (at' l k).1 (at' l' k).1 s w0 (HROW.out.below h (by omega)) (HROW'.out.below h (by omega)) (by omega) (by omega) HQ1.out.symm HQ'.out.symm hq (by rw [HS.out, HT.out, HT'.out])).mono ?_
          exact fun _ _ ⟨h1, h2⟩ => ⟨h1, (HL.out.trans (h.mono e3)).trans (h2.mono (by omega)), cell_below hc1 (h.trans (h2.mono e4)) hl1, cell_below hc2 (h.trans (h2.mono e4)) hl1, cell_below hc1' (h.trans (h2.mono e4)) hl2, cell_below hc2' (h.trans (h2.mono e4)) hl2⟩
        clear hl1 hl2
        go_wp2_with fail
        go_region_held (fun w' => w'.cell? ⟨b, o + k * 2, none⟩ = some (.slice ra q rc) ∧ w'.cell? ⟨b, o + k * 2 + 1, none⟩ = some (.int .i64 t) ∧ w'.cell? ⟨b', o' + k * 2, none⟩ = some (.slice ra' q' rc') ∧ w'.cell? ⟨b', o' + k * 2 + 1, none⟩ = some (.int .i64 t')) (first | exact ⟨hc1, hc2, hc1', hc2'⟩ | exact hk1) ((go_at_call 94; refine (HC.out _ (Below.drew (Below.refl _ _))).mono ?_; rintro e w1 ⟨rfl, hb1, hk1⟩))
        all_goals clear hk1
        all_goals (rcases Bool.eq_false_or_eq_true s with hs | hs)
        all_goals subst hs
        · go_wp2
          go_roundw
          case rel =>
            refine ⟨k + 1, by go_num, by omega, ?_, hb1⟩
            intro j hj
            rcases Nat.lt_or_ge j k with h | h
            · exact HE.out j h
            · obtain rfl : j = k := by omega
              have := HS.out
              simpa using this.symm
          case measure => simp [intOf]; omega
        · go_wp2
          go_ret
          refine ⟨?_, hb1.out⟩
          have hf : r = false := by
            rw [HR.out]; simp only [decide_eq_false_iff_not]
            intro e
            have := HS.out
            rw [e] at this
            simp at this
          rw [hf]; rfl
      · go_wp2
        go_ret
        refine ⟨?_, HL.out⟩
        have ht : r = true := by
          rw [HR.out]; simp only [decide_eq_true_eq]
          apply List.ext_getElem (by rw [HN.out, HN'.out])
          intro i h1 h2
          have := HE.out i (by have := HN.out; omega)
          simpa [at', List.getD, h1, h2] using this
        rw [ht]; rfl
  · have hf : r = false := by
      rw [HR.out]; simp only [decide_eq_false_iff_not]
      intro e; subst e; have := HN.out; have := HN'.out; omega
    subst hf
    go_enter Try.func77, Try.ntmps77
    go_wp2
    go_ret
    exact ⟨rfl, Below.refl _ _⟩

set_option maxHeartbeats 1000000 in
theorem eqBag_any (lo hi lo' hi' : Nat) (a a' : Option Addr) (n n' cap cap' : Nat) (l l' : List It) (r : Bool) (w : World) (ha : BagIn lo hi w a l) (hb : BagIn lo' hi' w a' l') (hh : hi ≤ w.heap.size) (hh' : hi' ≤ w.heap.size) (hn : l.length = n) (hn' : l'.length = n') (hm : n ≤ 1048576) (hr : ∀ i, i < n → (at' l i).1.length ≤ 1048576) (hR : r = decide (l = l')) :
    Calls Try.prog 43 #[.agg #[.slice a n cap], .agg #[.slice a' n' cap']] w fun e w' => e = .returned (.bool r) ∧ Below w.heap.size w w' := by
  have HC : Hid (∀ w0, Below w.heap.size w w0 → Calls Try.prog 77 #[.slice a n cap, .slice a' n' cap'] w0 fun e w' => e = .returned (.bool r) ∧ Hid (Below w.heap.size w w')) := fun w0 h =>
    (eqItems_any lo hi lo' hi' a a' n n' cap cap' l l' r w0 (ha.below h hh) (hb.below h hh') (Nat.le_trans hh h.size) (Nat.le_trans hh' h.size) hn hn' hm hr hR).mono fun _ _ ⟨h1, h2⟩ => ⟨h1, h.trans (h2.mono h.size)⟩
  clear ha hb hh hh' hn hn' hr hR
  go_enter Try.func43, Try.ntmps43
  go_wp2_with fail
  refine (HC.out _ (below2 w _ _)).mono ?_
  rintro e w1 ⟨rfl, hb1⟩
  cases r
  · go_wp2
    go_ret
    exact ⟨rfl, hb1.out⟩
  · go_wp2
    go_ret
    exact ⟨rfl, hb1.out⟩
end Go.Proofs.Ytijbngdafgmpaaa
