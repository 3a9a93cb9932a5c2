/-
  Marks that begin behind others (a second bag marked behind a first).
-/
import Derived.Test.YtijbngdafgmpaaaHeld
namespace Go.Proofs.Ytijbngdafgmpaaa
open Go.RowKit

set_option maxHeartbeats 2000000 in
set_option maxRecDepth 100000 in
theorem markItems_big (lo hi : Nat) (a : Option Addr) (n cap K : Nat) (l : List It) (w : World) (ha : BagOwn lo hi w a l) (hn : l.length = n) (hm : n ≤ 1048576) (hs : rowsLen l n ≤ 1048576) (hK : K ≤ 4194304) :
    Calls Try.prog 78 #[.slice a n cap, .int .i64 (K : Int)] w fun e w' => e = .returned (.int .i64 ((pos K l n : Nat) : Int)) ∧ Hid (BagOwn lo hi w' a (mkTo K l n)) ∧ Hid (KeptP (fun c => lo ≤ c ∧ c < hi) w w') := by
  have HN : Hid (l.length = n) := hn
  have HQ : Hid (∀ i, i < n → (at' l i).1.length ≤ 1048576) := fun i hi => Nat.le_trans (row_le l hi) hs
  have HBD : Hid (∀ k, k ≤ n → pos K l k ≤ 1099511627776) := by
    intro k hk
    have := rowsLen_mono l hk
    unfold pos
    omega
  by_cases h0 : n = 0
  · subst h0
    have hl : l = [] := List.length_eq_zero_iff.1 hn
    have HP : Hid (pos K l 0 = K) := by show _ = _; simp [pos, rowsLen]
    rw [HP.out]
    clear hn hs
    have HL : Hid (l = []) := hl
    clear ha hl
    go_enter Try.func78, Try.ntmps78
    go_wp2
    go_loop [5, 1] (fun i k => i = .int .i64 0 ∧ k = .int .i64 (K : Int)) (fun _ _ => 0)
    case atStart => exact ⟨rfl, rfl⟩
    case round =>
      obtain ⟨rfl, rfl⟩ := hrel
      go_wp2
      go_ret
      exact ⟨rfl, .inl (by rw [HL.out]; rfl), KeptP.refl _ _⟩
  · obtain ⟨b, rfl, h1, h2, hp⟩ : ∃ b, a = some ⟨b, 0, none⟩ ∧ lo ≤ b ∧ b < hi ∧ PartOwn lo hi w b l l.length l.length := by
      rcases ha with rfl | h
      · exact absurd hn (by simp; omega)
      · exact h
    have HX : Hid (lo ≤ b ∧ b < hi) := ⟨h1, h2⟩
    have HP0 : Hid (PartOwn lo hi w b (mkTo K l 0) n n) := by rw [mkTo_zero]; rw [hn] at hp; exact hp
    clear ha hp hn hs h1 h2
    go_enter Try.func78, Try.ntmps78
    go_wp2
    go_loopw [5, 1] (fun i s wr => ∃ k : Nat, i = .int .i64 k ∧ (∃ m : Nat, s = .int .i64 (m : Int) ∧ Hid (m = pos K l k)) ∧ k ≤ n ∧ Hid (PartOwn lo hi wr b (mkTo K l k) n n) ∧ Hid (KeptP (fun c => lo ≤ c ∧ c < hi) w wr)) (fun i _ _ => n - (intOf i).toNat)
    case atStart => exact ⟨0, rfl, ⟨K, rfl, by show _ = _; simp [pos, rowsLen]⟩, by omega, HP0, KeptP.refl _ _⟩
    case round =>
      obtain ⟨k, rfl, ⟨m, rfl, HM⟩, hk, HP, HL⟩ := hrel
      by_cases hlt : k < n
      · have hlt1 : (k : Int) < (n : Int) := by omega
        obtain ⟨f, R, C, hblk, hrows⟩ := HP.out
        have HBK : Hid (Blk wr b (n * 2) f) := hblk
        have HRS : Hid (∀ i, i < n → f (i * 2) = .slice (R i) (at' (mkTo K l k) i).1.length (C i) ∧ f (i * 2 + 1) = .int .i64 (at' (mkTo K l k) i).2 ∧ RowOwn lo hi wr (R i) (at' (mkTo K l k) i).1 ∧ ((at' (mkTo K l k) i).1 ≠ [] → (∀ c, R i = some ⟨c, 0, none⟩ → c ≠ b) ∧ ∀ j, j < i → (at' (mkTo K l k) j).1 ≠ [] → R j ≠ R i)) := hrows
        obtain ⟨q, HQ1⟩ : ∃ q : Nat, Hid (q = (at' (mkTo K l k) k).1.length) := ⟨_, rfl⟩
        obtain ⟨ra, HRA⟩ : ∃ ra, Hid (ra = R k) := ⟨_, rfl⟩
        obtain ⟨rc, HRC⟩ : ∃ rc, Hid (rc = C k) := ⟨_, rfl⟩
        have hc1 := hblk.cell (i := k * 2) (by omega)
        rw [(hrows k hlt).1, ← HQ1.out, ← HRA.out, ← HRC.out] at hc1
        have HQ2 : Hid (q = (at' l k).1.length) := by show _ = _; rw [HQ1.out, mkTo_rowlen (by rw [HN.out]; exact hlt)]
        have hq : q ≤ 1048576 := by rw [HQ2.out]; exact HQ.out k hlt
        have hmb : m ≤ 1099511627776 := by rw [HM.out]; exact HBD.out k hk
        clear hblk hrows
        go_wp2_with fail
        refine (markInts_any (fun c => (at' (mkTo K l k) k).1 ≠ [] ∧ R k = some ⟨c, 0, none⟩) lo hi ra q rc m (at' (mkTo K l k) k).1 wr (by rw [HRA.out]; exact (HRS.out k hlt).2.2.1) HQ1.out.symm hq hmb (fun c hc hne => ⟨hne, by rw [← HRA.out]; exact hc⟩)).mono ?_
        rintro e w1 ⟨rfl, hr1, hk1, _⟩
        have HR1 : Hid (RowOwn lo hi w1 (R k) (marks m q)) := by rw [← HRA.out]; exact hr1
        have HK1 : Hid (KeptP (fun c => (at' (mkTo K l k) k).1 ≠ [] ∧ R k = some ⟨c, 0, none⟩) wr w1) := hk1
        have hbk1 : Blk w1 b (n * 2) f := hk1.blk HBK.out (fun ⟨h3, h4⟩ => ((HRS.out k hlt).2.2.2 h3).1 b h4 rfl)
        have hd1 := hbk1.cell (i := k * 2 + 1) (by omega)
        have hf1 := hbk1.frozen (k * 2 + 1)
        clear hr1 hk1 hbk1 hc1
        go_wp2
        go_roundw
        case rel =>
          refine ⟨k + 1, by go_num, ⟨m + q + 1, by go_num, by show _ = _; rw [pos_step, HM.out, HQ2.out]⟩, by omega, ?_, ?_⟩
          · have hpm := HM.out
            refine PartOwn.turned (r' := marks m q) HBK.out HRS.out hlt HK1.out HR1.out (by rw [marks_len, HQ1.out]) ?_ ?_
            · rw [mkTo_at (by rw [HN.out]; exact hlt), if_pos (by omega)]
              unfold mkAt
              rw [← HM.out, ← HQ2.out]
              simp
            · intro i hi hne
              rw [mkTo_at (by rw [HN.out]; exact hi), mkTo_at (by rw [HN.out]; exact hi)]
              by_cases e : i < k
              · rw [if_pos (by omega), if_pos e]
              · rw [if_neg (by omega), if_neg e]
          · refine (HL.out.trans (HK1.out.mono ?_)).setCell HX.out _
            rintro c ⟨h3, h4⟩
            rcases (HRS.out k hlt).2.2.1 with h | ⟨c', ec, h5, h6, _⟩
            · exact absurd h h3
            · rw [h4] at ec; simp at ec; subst ec; exact ⟨h5, h6⟩
        case measure => simp [intOf]; omega
      · obtain rfl : k = n := by omega
        go_wp2
        go_ret
        refine ⟨by rw [← HM.out]; rfl, .inr ⟨b, rfl, HX.out.1, HX.out.2, ?_⟩, HL⟩
        rw [mkTo_len, HN.out]
        exact HP.out


set_option maxHeartbeats 1000000 in
theorem markBag_big (lo hi : Nat) (a : Option Addr) (n cap K : Nat) (l : List It) (w : World) (ha : BagOwn lo hi w a l) (hh : hi ≤ w.heap.size) (hn : l.length = n) (hm : n ≤ 1048576) (hs : rowsLen l n ≤ 1048576) (hK : K ≤ 4194304) :
    Calls Try.prog 44 #[.agg #[.slice a n cap], .int .i64 (K : Int)] w fun e w' => ∃ m : Nat, e = .returned (.int .i64 (m : Int)) ∧ Hid (m = pos K l n) ∧ Hid (BagOwn lo hi w' a (mkTo K l n)) ∧ Hid (KeptP (fun c => lo ≤ c ∧ c < hi) w w') := by
  have HC : Hid (∀ o, Calls Try.prog 78 #[.slice a n cap, .int .i64 (K : Int)] (w.alloc o) fun e w' => e = .returned (.int .i64 ((pos K l n : Nat) : Int)) ∧ Hid (BagOwn lo hi w' a (mkTo K l n)) ∧ Hid (KeptP (fun c => lo ≤ c ∧ c < hi) (w.alloc o) w')) := fun o =>
    markItems_big lo hi a n cap K l (w.alloc o) (ha.below (below1' w o) hh) hn hm hs hK
  clear ha hn hs hh
  go_enter Try.func44, Try.ntmps44
  go_wp2_with fail
  refine (HC.out _).mono ?_
  rintro e w1 ⟨rfl, H1, H2⟩
  have HK : Hid (KeptP (fun c => lo ≤ c ∧ c < hi) w w1) := (KeptP.of_below (below1' w _) (fun k hk _ => hk)).trans H2.out
  obtain ⟨m, HM⟩ : ∃ m : Nat, Hid (m = pos K l n) := ⟨_, rfl⟩
  rw [← HM.out]
  clear H2
  go_wp2
  go_ret
  exact ⟨m, rfl, HM, H1, HK⟩
/-- markBag, behind other marks -/
theorem markHB {w w0 : World} {bx : List (Nat × Value)} {lo hi : Nat} (a : Option Addr) (n cap K : Nat) (l : List It) (hb : Held w w0 bx) (h1 : BagOwn lo hi w0 a l) (hh : hi ≤ w0.heap.size) (hlo : w.heap.size ≤ lo) (hbx : ∀ x ∈ bx, ¬ (lo ≤ x.1 ∧ x.1 < hi)) (hl : l.length = n) (hm : n ≤ 1048576) (hs : rowsLen l n ≤ 1048576) (hK : K ≤ 4194304) :
    Calls Try.prog 44 #[.agg #[.slice a n cap], .int .i64 (K : Int)] w0 fun e w' => ∃ m : Nat, e = .returned (.int .i64 (m : Int)) ∧ Hid (m = pos K l n) ∧ Hid (BagOwn lo hi w' a (mkTo K l n)) ∧ Hid (Held w w' bx) ∧ Hid (KeptP (fun c => lo ≤ c ∧ c < hi) w0 w') :=
  (markBag_big lo hi a n cap K l w0 h1 hh hl hm hs hK).mono fun _ _ ⟨m, h3, h4, h5, h6⟩ => ⟨m, h3, h4, h5, hb.kept h6.out hbx (fun _ hk => Nat.le_trans hlo hk.1), h6⟩
end Go.Proofs.Ytijbngdafgmpaaa
