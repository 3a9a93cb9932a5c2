/-
  Marks in all that a path owns, and whether they are held: markPieceS, markPath, heldPieceS, heldPath.
-/
import Derived.Test.YtkcflhlipdnbnaaPtB
namespace Go.Proofs.Ytkcflhlipdnbnaa
open Go.RowKit

/-- the first mark of piece i -/
def posP (K : Nat) (l : List Pc) (i : Nat) : Nat := K + kidsLen l i + i * 2
/-- a piece that is marked -/
def mkAtP (K : Nat) (l : List Pc) (i : Nat) : Pc := (((posP K l i : Nat) : Int), ((posP K l i + 1 : Nat) : Int) % 256, marks (posP K l i + 2) (pat l i).2.2.length)
/-- the pieces ahead of place k are marked -/
def mkToP (K : Nat) (l : List Pc) (k : Nat) : List Pc := (List.range l.length).map fun i => if i < k then mkAtP K l i else pat l i
theorem mkToP_len (K : Nat) (l : List Pc) (k : Nat) : (mkToP K l k).length = l.length := by simp [mkToP]
theorem mkToP_at {K : Nat} {l : List Pc} {k i : Nat} (h : i < l.length) : pat (mkToP K l k) i = if i < k then mkAtP K l i else pat l i := by simp [mkToP, pat, List.getD, h]
theorem mkToP_zero (K : Nat) (l : List Pc) : mkToP K l 0 = l := by
  refine pat_ext (mkToP_len K l 0) fun i hi => ?_
  rw [mkToP_at (by rw [mkToP_len] at hi; exact hi)]; simp
theorem mkAtP_len (K : Nat) (l : List Pc) (i : Nat) : (mkAtP K l i).2.2.length = (pat l i).2.2.length := by simp [mkAtP, marks]
theorem mkToP_rowlen {K : Nat} {l : List Pc} {k i : Nat} (h : i < l.length) : (pat (mkToP K l k) i).2.2.length = (pat l i).2.2.length := by
  rw [mkToP_at h]; split
  · exact mkAtP_len K l i
  · rfl
theorem posP_step (K : Nat) (l : List Pc) (k : Nat) : posP K l (k + 1) = posP K l k + 2 + (pat l k).2.2.length := by simp only [posP, kidsLen]; omega

/-- one piece turned in place -/
theorem PartPc.turned {lo hi b n k : Nat} {w w1 : World} {l l' : List Pc} {f : Nat → Value} {R : Nat → Option Addr} {C : Nat → Nat} {r' : List Int} {x' y' : Int}
    (h1 : Blk w b (n * 3) f)
    (h2 : ∀ i, i < n → f (i * 3) = .int .i64 (pat l i).1 ∧ f (i * 3 + 1) = .int .u8 (pat l i).2.1 ∧ f (i * 3 + 2) = .slice (R i) (pat l i).2.2.length (C i) ∧ RowOwn lo hi w (R i) (pat l i).2.2 ∧ ((pat l i).2.2 ≠ [] → (∀ c, R i = some ⟨c, 0, none⟩ → c ≠ b) ∧ ∀ j, j < i → (pat l j).2.2 ≠ [] → R j ≠ R i))
    (hk : k < n) (hK : KeptP (fun c => (pat l k).2.2 ≠ [] ∧ R k = some ⟨c, 0, none⟩) ((w.setCell ⟨b, k * 3, none⟩ (.int .i64 x')).setCell ⟨b, k * 3 + 1, none⟩ (.int .u8 y')) w1) (hr : RowOwn lo hi w1 (R k) r') (hl : r'.length = (pat l k).2.2.length)
    (e1 : pat l' k = (x', y', r')) (e2 : ∀ i, i < n → i ≠ k → pat l' i = pat l i) : PartPc lo hi w1 b l' n n := by
  have hrow : ∀ i, i < n → (pat l' i).2.2.length = (pat l i).2.2.length := by
    intro i hi
    by_cases e : i = k
    · subst e; rw [e1]; exact hl
    · rw [e2 i hi e]
  have hne : ∀ i, i < n → ((pat l' i).2.2 ≠ [] ↔ (pat l i).2.2 ≠ []) := fun i hi => ne_nil_len (hrow i hi)
  have hb0 := (h1.set (k * 3) (by omega) (.int .i64 x')).set (k * 3 + 1) (by omega) (.int .u8 y')
  have hb1 := hK.blk hb0 (fun ⟨h3, h4⟩ => ((h2 k hk).2.2.2.2 h3).1 b h4 rfl)
  refine ⟨_, R, C, hb1, fun i hin => ?_⟩
  obtain ⟨p0, p1, p2, p3, p4⟩ := h2 i hin
  have n1 : ¬ i * 3 = k * 3 + 1 := by omega
  have n2 : ¬ i * 3 + 1 = k * 3 := by omega
  have n3 : ¬ i * 3 + 2 = k * 3 + 1 := by omega
  have n4 : ¬ i * 3 + 2 = k * 3 := by omega
  refine ⟨?_, ?_, by simp only [n3, n4, if_false]; rw [p2, hrow i hin], ?_, ?_⟩
  · simp only [n1, if_false]
    by_cases e : i = k
    · subst e; rw [e1]; simp
    · have n5 : ¬ i * 3 = k * 3 := by omega
      simp only [n5, if_false]; rw [p0, e2 i hin e]
  · by_cases e : i = k
    · subst e; rw [e1]; simp
    · have n5 : ¬ i * 3 + 1 = k * 3 + 1 := by omega
      simp only [n5, n2, if_false]; rw [p1, e2 i hin e]
  · by_cases e : i = k
    · subst e; rw [e1]; exact hr
    · rw [e2 i hin e]
      by_cases hi0 : (pat l i).2.2 = []
      · exact .inl hi0
      · rcases p3 with h | ⟨c, ec, h5, h6, h7⟩
        · exact absurd h hi0
        · have hcb : c ≠ b := (p4 hi0).1 c ec
          have h8 := (h7.of_block (Below.heap_setCell w ⟨b, k * 3, none⟩ (.int .i64 x') c (by simpa using hcb))).of_block (Below.heap_setCell _ ⟨b, k * 3 + 1, none⟩ (.int .u8 y') c (by simpa using hcb))
          refine .inr ⟨c, ec, h5, h6, hK.blk h8 (fun ⟨h9, h10⟩ => ?_)⟩
          rcases Nat.lt_or_ge i k with h | h
          · exact ((h2 k hk).2.2.2.2 h9).2 i h hi0 (by rw [ec, h10])
          · exact (p4 hi0).2 k (by omega) h9 (by rw [ec, h10])
  · intro h3
    have h4 := p4 ((hne i hin).1 h3)
    exact ⟨h4.1, fun j hj hj0 => h4.2 j hj ((hne j (by omega)).1 hj0)⟩

set_option maxHeartbeats 4000000 in
set_option maxRecDepth 100000 in
theorem markPieces_any (lo hi : Nat) (a : Option Addr) (n cap K : Nat) (l : List Pc) (w : World) (ha : PathOwn lo hi w a l) (hn : l.length = n) (hm : n ≤ 1048576) (hs : kidsLen l n ≤ 1048576) (hK : K ≤ 1000000000) :
    Calls Try.prog 46 #[.slice a n cap, .int .i64 (K : Int)] w fun e w' => e = .returned (.int .i64 ((posP K l n : Nat) : Int)) ∧ Hid (PathOwn lo hi w' a (mkToP K l n)) ∧ Hid (KeptP (fun c => lo ≤ c ∧ c < hi) w w') := by
  have HN : Hid (l.length = n) := hn
  have HQ : Hid (∀ i, i < n → (pat l i).2.2.length ≤ 1048576) := fun i hi => Nat.le_trans (kids_le l hi) hs
  have HBD : Hid (∀ k, k ≤ n → posP K l k ≤ 1010000000) := by
    intro k hk
    have := kidsLen_mono l hk
    unfold posP
    omega
  by_cases h0 : n = 0
  · subst h0
    have hl : l = [] := List.length_eq_zero_iff.1 hn
    have HP : Hid (posP K l 0 = K) := by show _ = _; simp [posP, kidsLen]
    rw [HP.out]
    clear hn hs
    have HL : Hid (l = []) := hl
    clear ha hl
    go_enter Try.func46, Try.ntmps46
    go_wp2
    go_loop [5, 1] (fun i k => i = .int .i64 0 ∧ k = .int .i64 (K : Int)) (fun _ _ => 0)
    case atStart => exact ⟨rfl, rfl⟩
    case round =>
      obtain ⟨rfl, rfl⟩ := hrel
      go_wp2
      go_ret
      exact ⟨rfl, .inl (by rw [HL.out]; rfl), KeptP.refl _ _⟩
  · obtain ⟨b, rfl, h1, h2, hp⟩ : ∃ b, a = some ⟨b, 0, none⟩ ∧ lo ≤ b ∧ b < hi ∧ PartPc lo hi w b l l.length l.length := by
      rcases ha with rfl | h
      · exact absurd hn (by simp; omega)
      · exact h
    have HX : Hid (lo ≤ b ∧ b < hi) := ⟨h1, h2⟩
    have HP0 : Hid (PartPc lo hi w b (mkToP K l 0) n n) := by rw [mkToP_zero]; rw [hn] at hp; exact hp
    clear ha hp hn hs h1 h2
    go_enter Try.func46, Try.ntmps46
    go_wp2
    go_loopw [5, 1] (fun i s wr => ∃ k : Nat, i = .int .i64 k ∧ (∃ m : Nat, s = .int .i64 (m : Int) ∧ Hid (m = posP K l k)) ∧ k ≤ n ∧ Hid (PartPc lo hi wr b (mkToP K l k) n n) ∧ Hid (KeptP (fun c => lo ≤ c ∧ c < hi) w wr)) (fun i _ _ => n - (intOf i).toNat)
    case atStart => exact ⟨0, rfl, ⟨K, rfl, by show _ = _; simp [posP, kidsLen]⟩, by omega, HP0, KeptP.refl _ _⟩
    case round =>
      obtain ⟨k, rfl, ⟨m, rfl, HM⟩, hk, HP, HL⟩ := hrel
      by_cases hlt : k < n
      · have hlt1 : (k : Int) < (n : Int) := by omega
        obtain ⟨f, R, C, hblk, hrows⟩ := HP.out
        have HBK : Hid (Blk wr b (n * 3) f) := hblk
        have HRS : Hid (∀ i, i < n → f (i * 3) = .int .i64 (pat (mkToP K l k) i).1 ∧ f (i * 3 + 1) = .int .u8 (pat (mkToP K l k) i).2.1 ∧ f (i * 3 + 2) = .slice (R i) (pat (mkToP K l k) i).2.2.length (C i) ∧ RowOwn lo hi wr (R i) (pat (mkToP K l k) i).2.2 ∧ ((pat (mkToP K l k) i).2.2 ≠ [] → (∀ c, R i = some ⟨c, 0, none⟩ → c ≠ b) ∧ ∀ j, j < i → (pat (mkToP K l k) j).2.2 ≠ [] → R j ≠ R i)) := hrows
        obtain ⟨q, HQ1⟩ : ∃ q : Nat, Hid (q = (pat (mkToP K l k) k).2.2.length) := ⟨_, rfl⟩
        obtain ⟨ra, HRA⟩ : ∃ ra, Hid (ra = R k) := ⟨_, rfl⟩
        obtain ⟨rc, HRC⟩ : ∃ rc, Hid (rc = C k) := ⟨_, rfl⟩
        have hd0 := hblk.cell (i := k * 3) (by omega)
        have hd1 := hblk.cell (i := k * 3 + 1) (by omega)
        have hd2 := hblk.cell (i := k * 3 + 2) (by omega)
        rw [(hrows k hlt).2.2.1, ← HQ1.out, ← HRA.out, ← HRC.out] at hd2
        have hf0 := hblk.frozen (k * 3)
        have hf1 := hblk.frozen (k * 3 + 1)
        have HQ2 : Hid (q = (pat l k).2.2.length) := by show _ = _; rw [HQ1.out, mkToP_rowlen (by rw [HN.out]; exact hlt)]
        have hq : q ≤ 1048576 := by rw [HQ2.out]; exact HQ.out k hlt
        have hmb : m ≤ 1010000000 := by rw [HM.out]; exact HBD.out k hk
        obtain ⟨W, HW⟩ : ∃ W, Hid (W = (wr.setCell ⟨b, k * 3, none⟩ (.int .i64 (m : Int))).setCell ⟨b, k * 3 + 1, none⟩ (.int .u8 (((m : Int) + 1) % 256))) := ⟨_, rfl⟩
        have HRW : Hid (RowOwn lo hi W ra (pat (mkToP K l k) k).2.2) := by
          rw [HW.out, HRA.out]
          by_cases hi0 : (pat (mkToP K l k) k).2.2 = []
          · exact .inl hi0
          · rcases (hrows k hlt).2.2.2.1 with h | ⟨c, ec, h5, h6, h7⟩
            · exact absurd h hi0
            · have hcb : c ≠ b := ((hrows k hlt).2.2.2.2 hi0).1 c ec
              exact .inr ⟨c, ec, h5, h6, (h7.of_block (Below.heap_setCell _ _ _ c (by simpa using hcb))).of_block (Below.heap_setCell _ _ _ c (by simpa using hcb))⟩
        clear hblk hrows
        go_wp2_with fail
        rw [← HW.out]
        have hm2 : ((m : Int) + 1 + 1) = ((m + 2 : Nat) : Int) := by omega
        rw [hm2]
        refine (markInts_any (fun c => (pat (mkToP K l k) k).2.2 ≠ [] ∧ R k = some ⟨c, 0, none⟩) lo hi ra q rc (m + 2) (pat (mkToP K l k) k).2.2 W HRW.out HQ1.out.symm hq (by omega) (fun c hc hne => ⟨hne, by rw [← HRA.out]; exact hc⟩)).mono ?_
        rintro e w1 ⟨rfl, hr1, hk1, _⟩
        have HR1 : Hid (RowOwn lo hi w1 (R k) (marks (m + 2) q)) := by rw [← HRA.out]; exact hr1
        have HK1 : Hid (KeptP (fun c => (pat (mkToP K l k) k).2.2 ≠ [] ∧ R k = some ⟨c, 0, none⟩) ((wr.setCell ⟨b, k * 3, none⟩ (.int .i64 (m : Int))).setCell ⟨b, k * 3 + 1, none⟩ (.int .u8 (((m : Int) + 1) % 256))) w1) := by rw [← HW.out]; exact hk1
        clear hr1 hk1 hd0 hd1 hd2 hf0 hf1 HRW HW
        go_wp2
        go_roundw
        case rel =>
          refine ⟨k + 1, by go_num, ⟨m + 2 + q, by go_num, by show _ = _; rw [posP_step, HM.out, HQ2.out]⟩, by omega, ?_, ?_⟩
          · refine PartPc.turned (r' := marks (m + 2) q) HBK.out HRS.out hlt HK1.out HR1.out (by rw [marks_len, HQ1.out]) ?_ ?_
            · rw [mkToP_at (by rw [HN.out]; exact hlt), if_pos (by omega)]
              unfold mkAtP
              rw [← HM.out, ← HQ2.out]
              simp
            · intro i hi hne
              rw [mkToP_at (by rw [HN.out]; exact hi), mkToP_at (by rw [HN.out]; exact hi)]
              by_cases e : i < k
              · rw [if_pos (by omega), if_pos e]
              · rw [if_neg (by omega), if_neg e]
          · refine ((HL.out.setCell HX.out _).setCell HX.out _).trans (HK1.out.mono ?_)
            rintro c ⟨h3, h4⟩
            rcases (HRS.out k hlt).2.2.2.1 with h | ⟨c', ec, h5, h6, _⟩
            · exact absurd h h3
            · rw [h4] at ec; simp at ec; subst ec; exact ⟨h5, h6⟩
        case measure => simp [intOf]; omega
      · obtain rfl : k = n := by omega
        go_wp2
        go_ret
        refine ⟨by rw [← HM.out]; rfl, .inr ⟨b, rfl, HX.out.1, HX.out.2, ?_⟩, HL⟩
        rw [mkToP_len, HN.out]
        exact HP.out

set_option maxHeartbeats 1000000 in
theorem markPath_any (lo hi : Nat) (a : Option Addr) (n cap K : Nat) (l : List Pc) (w : World) (ha : PathOwn lo hi w a l) (hh : hi ≤ w.heap.size) (hn : l.length = n) (hm : n ≤ 1048576) (hs : kidsLen l n ≤ 1048576) (hK : K ≤ 1000000000) :
    Calls Try.prog 14 #[pv a n cap, .int .i64 (K : Int)] w fun e w' => ∃ m : Nat, e = .returned (.int .i64 (m : Int)) ∧ Hid (m = posP K l n) ∧ Hid (PathOwn lo hi w' a (mkToP K l n)) ∧ Hid (KeptP (fun c => lo ≤ c ∧ c < hi) w w') := by
  have HC : Hid (∀ o, Calls Try.prog 46 #[.slice a n cap, .int .i64 (K : Int)] (w.alloc o) fun e w' => e = .returned (.int .i64 ((posP K l n : Nat) : Int)) ∧ Hid (PathOwn lo hi w' a (mkToP K l n)) ∧ Hid (KeptP (fun c => lo ≤ c ∧ c < hi) (w.alloc o) w')) := fun o =>
    markPieces_any lo hi a n cap K l (w.alloc o) (ha.below (below1 w o) hh) hn hm hs hK
  clear ha hn hs hh
  unfold pv
  go_enter Try.func14, Try.ntmps14
  go_wp2_with fail
  refine (HC.out _).mono ?_
  rintro e w1 ⟨rfl, H1, H2⟩
  have HK : Hid (KeptP (fun c => lo ≤ c ∧ c < hi) w w1) := (KeptP.of_below (below1 w _) (fun k hk _ => hk)).trans H2.out
  obtain ⟨m, HM⟩ : ∃ m : Nat, Hid (m = posP K l n) := ⟨_, rfl⟩
  rw [← HM.out]
  clear H2
  go_wp2
  go_ret
  exact ⟨m, rfl, HM, H1, HK⟩

end Go.Proofs.Ytkcflhlipdnbnaa
