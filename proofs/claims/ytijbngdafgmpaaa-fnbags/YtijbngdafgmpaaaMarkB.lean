/-
  Marks in all that a bag owns, and whether they are held: markItemS, markBag, heldItemS, heldBag.
-/
import Derived.Test.YtijbngdafgmpaaaItemC
namespace Go.Proofs.Ytijbngdafgmpaaa
open Go.RowKit

/-- the first mark of item i -/
def pos (K : Nat) (l : List It) (i : Nat) : Nat := K + rowsLen l i + i
/-- an item that is marked -/
def mkAt (K : Nat) (l : List It) (i : Nat) : It := (marks (pos K l i) (at' l i).1.length, ((pos K l i + (at' l i).1.length : Nat) : Int))
/-- the items ahead of place k are marked -/
def mkTo (K : Nat) (l : List It) (k : Nat) : List It := (List.range l.length).map fun i => if i < k then mkAt K l i else at' l i
theorem mkTo_len (K : Nat) (l : List It) (k : Nat) : (mkTo K l k).length = l.length := by simp [mkTo]
theorem mkTo_at {K : Nat} {l : List It} {k i : Nat} (h : i < l.length) : at' (mkTo K l k) i = if i < k then mkAt K l i else at' l i := by simp [mkTo, at', List.getD, h]
theorem mkTo_zero (K : Nat) (l : List It) : mkTo K l 0 = l := by
  apply List.ext_getElem (by simp [mkTo])
  intro i h1 h2
  simp [mkTo, at', List.getD, h2]
theorem mkAt_len (K : Nat) (l : List It) (i : Nat) : (mkAt K l i).1.length = (at' l i).1.length := by simp [mkAt, marks]
theorem mkTo_rowlen {K : Nat} {l : List It} {k i : Nat} (h : i < l.length) : (at' (mkTo K l k) i).1.length = (at' l i).1.length := by
  rw [mkTo_at h]; split
  · exact mkAt_len K l i
  · rfl
theorem pos_step (K : Nat) (l : List It) (k : Nat) : pos K l (k + 1) = pos K l k + (at' l k).1.length + 1 := by simp only [pos, rowsLen]; omega
theorem ne_nil_len {r r' : List Int} (h : r.length = r'.length) : r ≠ [] ↔ r' ≠ [] := by
  constructor
  · intro h1 h2; subst h2; exact h1 (List.length_eq_zero_iff.1 (by simpa using h))
  · intro h1 h2; subst h2; exact h1 (List.length_eq_zero_iff.1 (by simpa using h.symm))

theorem below1' (w : World) (o1 : Obj) : Below w.heap.size w (w.alloc o1) := (Below.refl _ _).alloc (Nat.le_refl _) _

/-- one item turned in place -/
theorem PartOwn.turned {lo hi b n k : Nat} {w w1 : World} {l l' : List It} {f : Nat → Value} {R : Nat → Option Addr} {C : Nat → Nat} {r' : List Int} {t' : Int}
    (h1 : Blk w b (n * 2) f)
    (h2 : ∀ i, i < n → f (i * 2) = .slice (R i) (at' l i).1.length (C i) ∧ f (i * 2 + 1) = .int .i64 (at' l i).2 ∧ RowOwn lo hi w (R i) (at' l i).1 ∧ ((at' l i).1 ≠ [] → (∀ c, R i = some ⟨c, 0, none⟩ → c ≠ b) ∧ ∀ j, j < i → (at' l j).1 ≠ [] → R j ≠ R i))
    (hk : k < n) (hK : KeptP (fun c => (at' l k).1 ≠ [] ∧ R k = some ⟨c, 0, none⟩) w w1) (hr : RowOwn lo hi w1 (R k) r') (hl : r'.length = (at' l k).1.length)
    (e1 : at' l' k = (r', t')) (e2 : ∀ i, i < n → i ≠ k → at' l' i = at' l i) : PartOwn lo hi (w1.setCell ⟨b, k * 2 + 1, none⟩ (.int .i64 t')) b l' n n := by
  have hrow : ∀ i, i < n → (at' l' i).1.length = (at' l i).1.length := by
    intro i hi
    by_cases e : i = k
    · subst e; rw [e1]; exact hl
    · rw [e2 i hi e]
  have hne : ∀ i, i < n → ((at' l' i).1 ≠ [] ↔ (at' l i).1 ≠ []) := fun i hi => ne_nil_len (hrow i hi)
  have hb1 : Blk w1 b (n * 2) f := hK.blk h1 (fun ⟨h3, h4⟩ => ((h2 k hk).2.2.2 h3).1 b h4 rfl)
  refine ⟨_, R, C, hb1.set (k * 2 + 1) (by omega) _, fun i hin => ?_⟩
  obtain ⟨p1, p2, p3, p4⟩ := h2 i hin
  have n1 : ¬ i * 2 = k * 2 + 1 := by omega
  refine ⟨by simp only [n1, if_false]; rw [p1, hrow i hin], ?_, ?_, ?_⟩
  · by_cases e : i = k
    · subst e; rw [e1]; simp
    · have n2 : ¬ i * 2 + 1 = k * 2 + 1 := by omega
      simp only [n2, if_false]; rw [p2, e2 i hin e]
  · have base : RowOwn lo hi w1 (R i) (at' l' i).1 := by
      by_cases e : i = k
      · subst e; rw [e1]; exact hr
      · rw [e2 i hin e]
        rcases p3 with h | ⟨c, ec, h5, h6, h7⟩
        · exact .inl h
        · by_cases hi0 : (at' l i).1 = []
          · exact .inl hi0
          · refine .inr ⟨c, ec, h5, h6, hK.blk h7 (fun ⟨h8, h9⟩ => ?_)⟩
            rcases Nat.lt_or_ge i k with h | h
            · exact ((h2 k hk).2.2.2 h8).2 i h hi0 (by rw [ec, h9])
            · exact (p4 hi0).2 k (by omega) h8 (by rw [ec, h9])
    by_cases hi0 : (at' l' i).1 = []
    · exact .inl hi0
    · rcases base with h | ⟨c, ec, h5, h6, h7⟩
      · exact absurd h hi0
      · have hcb : c ≠ b := (p4 ((hne i hin).1 hi0)).1 c ec
        exact .inr ⟨c, ec, h5, h6, h7.of_block (Below.heap_setCell _ _ _ c (by simpa using hcb))⟩
  · intro h3
    have h4 := p4 ((hne i hin).1 h3)
    exact ⟨h4.1, fun j hj hj0 => h4.2 j hj ((hne j (by omega)).1 hj0)⟩

set_option maxHeartbeats 2000000 in
set_option maxRecDepth 100000 in
theorem markItems_any (lo hi : Nat) (a : Option Addr) (n cap K : Nat) (l : List It) (w : World) (ha : BagOwn lo hi w a l) (hn : l.length = n) (hm : n ≤ 1048576) (hs : rowsLen l n ≤ 1048576) (hK : K ≤ 1048576) :
    Calls Try.prog 78 #[.slice a n cap, .int .i64 (K : Int)] w fun e w' => e = .returned (.int .i64 ((pos K l n : Nat) : Int)) ∧ Hid (BagOwn lo hi w' a (mkTo K l n)) ∧ Hid (KeptP (fun c => lo ≤ c ∧ c < hi) w w') := by
  have HN : Hid (l.length = n) := hn
  have HQ : Hid (∀ i, i < n → (at' l i).1.length ≤ 1048576) := fun i hi => Nat.le_trans (row_le l hi) hs
  have HBD : Hid (∀ k, k ≤ n → pos K l k ≤ 1099511627776) := by
    intro k hk
    have := rowsLen_mono l hk
    unfold pos
    omega
  by_cases h0 : n = 0
  · subst h0
    have hl : l = [] := List.length_eq_zero_iff.1 hn
    have HP : Hid (pos K l 0 = K) := by show _ = _; simp [pos, rowsLen]
    rw [HP.out]
    clear hn hs
    have HL : Hid (l = []) := hl
    clear ha hl
    go_enter Try.func78, Try.ntmps78
    go_wp2
    go_loop [5, 1] (fun i k => i = .int .i64 0 ∧ k = .int .i64 (K : Int)) (fun _ _ => 0)
    case atStart => exact ⟨rfl, rfl⟩
    case round =>
      obtain ⟨rfl, rfl⟩ := hrel
      go_wp2
      go_ret
      exact ⟨rfl, .inl (by rw [HL.out]; rfl), KeptP.refl _ _⟩
  · obtain ⟨b, rfl, h1, h2, hp⟩ : ∃ b, a = some ⟨b, 0, none⟩ ∧ lo ≤ b ∧ b < hi ∧ PartOwn lo hi w b l l.length l.length := by
      rcases ha with rfl | h
      · exact absurd hn (by simp; omega)
      · exact h
    have HX : Hid (lo ≤ b ∧ b < hi) := ⟨h1, h2⟩
    have HP0 : Hid (PartOwn lo hi w b (mkTo K l 0) n n) := by rw [mkTo_zero]; rw [hn] at hp; exact hp
    clear ha hp hn hs h1 h2
    go_enter Try.func78, Try.ntmps78
    go_wp2
    go_loopw [5, 1] (fun i s wr => ∃ k : Nat, i = .int .i64 k ∧ (∃ m : Nat, s = .int .i64 (m : Int) ∧ Hid (m = pos K l k)) ∧ k ≤ n ∧ Hid (PartOwn lo hi wr b (mkTo K l k) n n) ∧ Hid (KeptP (fun c => lo ≤ c ∧ c < hi) w wr)) (fun i _ _ => n - (intOf i).toNat)
    case atStart => exact ⟨0, rfl, ⟨K, rfl, by show _ = _; simp [pos, rowsLen]⟩, by omega, HP0, KeptP.refl _ _⟩
    case round =>
      obtain ⟨k, rfl, ⟨m, rfl, HM⟩, hk, HP, HL⟩ := hrel
      by_cases hlt : k < n
      · have hlt1 : (k : Int) < (n : Int) := by omega
        obtain ⟨f, R, C, hblk, hrows⟩ := HP.out
        have HBK : Hid (Blk wr b (n * 2) f) := hblk
        have HRS : Hid (∀ i, i < n → f (i * 2) = .slice (R i) (at' (mkTo K l k) i).1.length (C i) ∧ f (i * 2 + 1) = .int .i64 (at' (mkTo K l k) i).2 ∧ RowOwn lo hi wr (R i) (at' (mkTo K l k) i).1 ∧ ((at' (mkTo K l k) i).1 ≠ [] → (∀ c, R i = some ⟨c, 0, none⟩ → c ≠ b) ∧ ∀ j, j < i → (at' (mkTo K l k) j).1 ≠ [] → R j ≠ R i)) := hrows
        obtain ⟨q, HQ1⟩ : ∃ q : Nat, Hid (q = (at' (mkTo K l k) k).1.length) := ⟨_, rfl⟩
        obtain ⟨ra, HRA⟩ : ∃ ra, Hid (ra = R k) := ⟨_, rfl⟩
        obtain ⟨rc, HRC⟩ : ∃ rc, Hid (rc = C k) := ⟨_, rfl⟩
        have hc1 := hblk.cell (i := k * 2) (by omega)
        rw [(hrows k hlt).1, ← HQ1.out, ← HRA.out, ← HRC.out] at hc1
        have HQ2 : Hid (q = (at' l k).1.length) := by show _ = _; rw [HQ1.out, mkTo_rowlen (by rw [HN.out]; exact hlt)]
        have hq : q ≤ 1048576 := by rw [HQ2.out]; exact HQ.out k hlt
        have hmb : m ≤ 1099511627776 := by rw [HM.out]; exact HBD.out k hk
        clear hblk hrows
        go_wp2_with fail
        refine (markInts_any (fun c => (at' (mkTo K l k) k).1 ≠ [] ∧ R k = some ⟨c, 0, none⟩) lo hi ra q rc m (at' (mkTo K l k) k).1 wr (by rw [HRA.out]; exact (HRS.out k hlt).2.2.1) HQ1.out.symm hq hmb (fun c hc hne => ⟨hne, by rw [← HRA.out]; exact hc⟩)).mono ?_
        rintro e w1 ⟨rfl, hr1, hk1, _⟩
        have HR1 : Hid (RowOwn lo hi w1 (R k) (marks m q)) := by rw [← HRA.out]; exact hr1
        have HK1 : Hid (KeptP (fun c => (at' (mkTo K l k) k).1 ≠ [] ∧ R k = some ⟨c, 0, none⟩) wr w1) := hk1
        have hbk1 : Blk w1 b (n * 2) f := hk1.blk HBK.out (fun ⟨h3, h4⟩ => ((HRS.out k hlt).2.2.2 h3).1 b h4 rfl)
        have hd1 := hbk1.cell (i := k * 2 + 1) (by omega)
        have hf1 := hbk1.frozen (k * 2 + 1)
        clear hr1 hk1 hbk1 hc1
        go_wp2
        go_roundw
        case rel =>
          refine ⟨k + 1, by go_num, ⟨m + q + 1, by go_num, by show _ = _; rw [pos_step, HM.out, HQ2.out]⟩, by omega, ?_, ?_⟩
          · have hpm := HM.out
            refine PartOwn.turned (r' := marks m q) HBK.out HRS.out hlt HK1.out HR1.out (by rw [marks_len, HQ1.out]) ?_ ?_
            · rw [mkTo_at (by rw [HN.out]; exact hlt), if_pos (by omega)]
              unfold mkAt
              rw [← HM.out, ← HQ2.out]
              simp
            · intro i hi hne
              rw [mkTo_at (by rw [HN.out]; exact hi), mkTo_at (by rw [HN.out]; exact hi)]
              by_cases e : i < k
              · rw [if_pos (by omega), if_pos e]
              · rw [if_neg (by omega), if_neg e]
          · refine (HL.out.trans (HK1.out.mono ?_)).setCell HX.out _
            rintro c ⟨h3, h4⟩
            rcases (HRS.out k hlt).2.2.1 with h | ⟨c', ec, h5, h6, _⟩
            · exact absurd h h3
            · rw [h4] at ec; simp at ec; subst ec; exact ⟨h5, h6⟩
        case measure => simp [intOf]; omega
      · obtain rfl : k = n := by omega
        go_wp2
        go_ret
        refine ⟨by rw [← HM.out]; rfl, .inr ⟨b, rfl, HX.out.1, HX.out.2, ?_⟩, HL⟩
        rw [mkTo_len, HN.out]
        exact HP.out

set_option maxHeartbeats 2000000 in
set_option maxRecDepth 100000 in
theorem heldItems_any (lo hi : Nat) (a : Option Addr) (n cap K : Nat) (l : List It) (w : World) (ha : BagIn lo hi w a (mkTo K l n)) (hn : l.length = n) (hm : n ≤ 1048576) (hs : rowsLen l n ≤ 1048576) (hK : K ≤ 1048576) :
    Calls Try.prog 79 #[.slice a n cap, .int .i64 (K : Int)] w fun e w' => e = .returned (.int .i64 ((pos K l n : Nat) : Int)) ∧ w = w' := by
  have HN : Hid (l.length = n) := hn
  have HA : Hid (BagIn lo hi w a (mkTo K l n)) := ha
  have HQ : Hid (∀ i, i < n → (at' l i).1.length ≤ 1048576) := fun i hi => Nat.le_trans (row_le l hi) hs
  have HBD : Hid (∀ k, k ≤ n → pos K l k ≤ 1099511627776) := by
    intro k hk
    have := rowsLen_mono l hk
    unfold pos
    omega
  clear ha hn hs
  go_enter Try.func79, Try.ntmps79
  go_wp2
  go_loop [5, 1] (fun i s => ∃ k : Nat, i = .int .i64 k ∧ (∃ m : Nat, s = .int .i64 (m : Int) ∧ Hid (m = pos K l k)) ∧ k ≤ n) (fun i _ => n - (intOf i).toNat)
  case atStart => exact ⟨0, rfl, ⟨K, rfl, by show _ = _; simp [pos, rowsLen]⟩, by omega⟩
  case round =>
    obtain ⟨k, rfl, ⟨m, rfl, HM⟩, hk⟩ := hrel
    by_cases hlt : k < n
    · have hlt1 : (k : Int) < (n : Int) := by omega
      have hkl : k < l.length := by rw [HN.out]; exact hlt
      obtain ⟨b, o, rfl, _, _, ra, rc, hc1, hrow, hc2⟩ := HA.out.item (k := k) (by rw [mkTo_len]; exact hkl)
      have hat : at' (mkTo K l n) k = mkAt K l k := by rw [mkTo_at hkl, if_pos hlt]
      obtain ⟨q, HQ1⟩ : ∃ q : Nat, Hid (q = (at' l k).1.length) := ⟨_, rfl⟩
      change w.cell? _ = some (.slice ra (at' (mkTo K l n) k).1.length rc) at hc1
      change w.cell? _ = some (.int .i64 (at' (mkTo K l n) k).2) at hc2
      change RowIn lo hi w ra (at' (mkTo K l n) k).1 at hrow
      rw [hat, mkAt_len, ← HQ1.out] at hc1
      rw [hat] at hc2 hrow
      unfold mkAt at hc2 hrow
      rw [← HM.out, ← HQ1.out] at hc2 hrow
      have HROW : Hid (RowIn lo hi w ra (marks m q)) := hrow
      have hq : q ≤ 1048576 := by rw [HQ1.out]; exact HQ.out k hlt
      have hmb : m ≤ 1099511627776 := by rw [HM.out]; exact HBD.out k hk
      clear hrow hat hkl
      go_wp2_with fail
      refine (heldInts_any lo hi ra q rc m w HROW.out hq hmb).mono ?_
      rintro e w1 ⟨rfl, rfl⟩
      have hz : ¬ ((m + q : Nat) : Int) < 0 := by omega
      go_wp2
      go_roundw
      case rel => exact ⟨k + 1, by go_num, ⟨m + q + 1, by go_num, by show _ = _; rw [pos_step, HM.out, HQ1.out]⟩, by omega⟩
      case measure => simp [intOf]; omega
    · obtain rfl : k = n := by omega
      go_wp2
      go_ret
      exact ⟨by rw [← HM.out]; rfl, rfl⟩

set_option maxHeartbeats 1000000 in
theorem markBag_any (lo hi : Nat) (a : Option Addr) (n cap K : Nat) (l : List It) (w : World) (ha : BagOwn lo hi w a l) (hh : hi ≤ w.heap.size) (hn : l.length = n) (hm : n ≤ 1048576) (hs : rowsLen l n ≤ 1048576) (hK : K ≤ 1048576) :
    Calls Try.prog 44 #[.agg #[.slice a n cap], .int .i64 (K : Int)] w fun e w' => ∃ m : Nat, e = .returned (.int .i64 (m : Int)) ∧ Hid (m = pos K l n) ∧ Hid (BagOwn lo hi w' a (mkTo K l n)) ∧ Hid (KeptP (fun c => lo ≤ c ∧ c < hi) w w') := by
  have HC : Hid (∀ o, Calls Try.prog 78 #[.slice a n cap, .int .i64 (K : Int)] (w.alloc o) fun e w' => e = .returned (.int .i64 ((pos K l n : Nat) : Int)) ∧ Hid (BagOwn lo hi w' a (mkTo K l n)) ∧ Hid (KeptP (fun c => lo ≤ c ∧ c < hi) (w.alloc o) w')) := fun o =>
    markItems_any lo hi a n cap K l (w.alloc o) (ha.below (below1' w o) hh) hn hm hs hK
  clear ha hn hs hh
  go_enter Try.func44, Try.ntmps44
  go_wp2_with fail
  refine (HC.out _).mono ?_
  rintro e w1 ⟨rfl, H1, H2⟩
  have HK : Hid (KeptP (fun c => lo ≤ c ∧ c < hi) w w1) := (KeptP.of_below (below1' w _) (fun k hk _ => hk)).trans H2.out
  obtain ⟨m, HM⟩ : ∃ m : Nat, Hid (m = pos K l n) := ⟨_, rfl⟩
  rw [← HM.out]
  clear H2
  go_wp2
  go_ret
  exact ⟨m, rfl, HM, H1, HK⟩

set_option maxHeartbeats 1000000 in
theorem heldBag_any (lo hi : Nat) (a : Option Addr) (n cap K : Nat) (l : List It) (w : World) (ha : BagIn lo hi w a (mkTo K l n)) (hh : hi ≤ w.heap.size) (hn : l.length = n) (hm : n ≤ 1048576) (hs : rowsLen l n ≤ 1048576) (hK : K ≤ 1048576) :
    Calls Try.prog 46 #[.agg #[.slice a n cap], .int .i64 (K : Int)] w fun e w' => ∃ m : Nat, e = .returned (.int .i64 (m : Int)) ∧ Hid (m = pos K l n) ∧ Hid (Below w.heap.size w w') := by
  have HC : Hid (∀ o, Calls Try.prog 79 #[.slice a n cap, .int .i64 (K : Int)] (w.alloc o) fun e w' => e = .returned (.int .i64 ((pos K l n : Nat) : Int)) ∧ w.alloc o = w') := fun o =>
    heldItems_any lo hi a n cap K l (w.alloc o) (ha.below (below1' w o) hh) hn hm hs hK
  clear ha hn hs hh
  go_enter Try.func46, Try.ntmps46
  go_wp2_with fail
  refine (HC.out _).mono ?_
  rintro e w1 ⟨rfl, rfl⟩
  obtain ⟨m, HM⟩ : ∃ m : Nat, Hid (m = pos K l n) := ⟨_, rfl⟩
  rw [← HM.out]
  have hz : ¬ ((m : Nat) : Int) < 0 := by omega
  go_wp2
  go_ret
  exact ⟨m, rfl, HM, below1' w _⟩
end Go.Proofs.Ytijbngdafgmpaaa
