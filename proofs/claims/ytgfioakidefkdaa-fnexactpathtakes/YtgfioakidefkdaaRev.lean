/-
  slices.Reverse at ints.
-/
import Derived.Test.YtgfioakidefkdaaCpy
import Derived.Handy
namespace Go.Proofs.Ytgfioakidefkdaa
open Go.RowKit

/-- the first k and the last k of a list have changed places -/
def revTo (l : List Int) (k : Nat) : List Int := (List.range l.length).map fun i => if i < k ∨ l.length - k ≤ i then l.getD (l.length - 1 - i) 0 else l.getD i 0
theorem revTo_len (l : List Int) (k : Nat) : (revTo l k).length = l.length := by simp [revTo]
theorem revTo_at {l : List Int} {k i : Nat} (h : i < l.length) : (revTo l k).getD i 0 = if i < k ∨ l.length - k ≤ i then l.getD (l.length - 1 - i) 0 else l.getD i 0 := by simp [revTo, List.getD, h]
theorem revTo_zero (l : List Int) : revTo l 0 = l := by
  refine ext_getD (n := l.length) (revTo_len l 0) rfl fun j hj => ?_
  rw [revTo_at hj, if_neg (by omega)]
theorem revTo_done {l : List Int} {k : Nat} (h : l.length ≤ 2 * k + 1) : revTo l k = l.reverse := by
  refine ext_getD (n := l.length) (revTo_len l k) (by simp) fun j hj => ?_
  rw [revTo_at hj]
  have hr : l.reverse.getD j 0 = l.getD (l.length - 1 - j) 0 := by
    simp only [List.getD]
    rw [List.getElem?_reverse hj]
  rw [hr]
  split
  · rfl
  · have : l.length - 1 - j = j := by omega
    rw [this]
/-- a block that holds a row -/
theorem revTo_step {w : World} {b : Nat} {l : List Int} {k : Nat} (h : Blk w b l.length (fun i => .int .i64 ((revTo l k).getD i 0))) (hk : 2 * k + 1 < l.length) :
    Blk ((w.setCell ⟨b, k, none⟩ (.int .i64 (l.getD (l.length - 1 - k) 0))).setCell ⟨b, l.length - 1 - k, none⟩ (.int .i64 (l.getD k 0))) b l.length (fun i => .int .i64 ((revTo l (k + 1)).getD i 0)) := by
  refine ((h.set k (by omega) _).set (l.length - 1 - k) (by omega) _).congr fun i hi => ?_
  rw [revTo_at (k := k + 1) hi]
  by_cases e1 : i = l.length - 1 - k
  · rw [if_pos e1, if_pos (by omega), show l.length - 1 - i = k by omega]
  · rw [if_neg e1]
    by_cases e2 : i = k
    · subst e2; rw [if_pos rfl, if_pos (by omega)]
    · rw [if_neg e2, revTo_at hi]
      by_cases e3 : i < k ∨ l.length - k ≤ i
      · rw [if_pos e3, if_pos (by omega)]
      · rw [if_neg e3, if_neg (by omega)]

set_option maxHeartbeats 4000000 in
set_option maxRecDepth 100000 in
theorem reverse_any (p : Nat → Prop) (lo hi : Nat) (a : Option Addr) (n cap : Nat) (l : List Int) (w : World) (ha : RowOwn lo hi w a l) (hn : l.length = n) (hm : n ≤ 1048576) (hp : ∀ b, a = some ⟨b, 0, none⟩ → l ≠ [] → p b) :
    Calls Try.prog 38 #[.slice a n cap] w fun e w' => e = .returned (.tuple #[]) ∧ Hid (RowOwn lo hi w' a l.reverse) ∧ Hid (KeptP p w w') := by
  have HN : Hid (l.length = n) := hn
  by_cases h0 : n ≤ 1
  · have HX : Hid (RowOwn lo hi w a l.reverse) := by
      have : l.reverse = l := by
        match l, hn with
        | [], _ => rfl
        | [x], _ => rfl
        | _ :: _ :: _, hn => simp at hn; omega
      rw [this]; exact ha
    have hd : ¬ (0 : Int) < (n : Int) - 1 := by omega
    clear ha hn hp
    go_enter Try.func38, Try.ntmps38
    go_wp2
    go_loop [2, 3] (fun i j => i = .int .i64 0 ∧ j = .int .i64 ((n : Int) - 1)) (fun _ _ => 0)
    case atStart => exact ⟨rfl, rfl⟩
    case round =>
      obtain ⟨rfl, rfl⟩ := hrel
      go_wp2
      go_returns
      exact ⟨rfl, HX, KeptP.refl _ _⟩
  · obtain ⟨b, rfl, h1, h2, hb⟩ : ∃ b, a = some ⟨b, 0, none⟩ ∧ lo ≤ b ∧ b < hi ∧ Blk w b l.length (fun i => .int .i64 (l.getD i 0)) := by
      rcases ha with rfl | h
      · exact absurd hn (by simp; omega)
      · exact h
    have HX : Hid (lo ≤ b ∧ b < hi ∧ p b) := ⟨h1, h2, hp b rfl (by intro e; rw [e] at hn; simp at hn; omega)⟩
    have HB0 : Hid (Blk w b n (fun i => .int .i64 ((revTo l 0).getD i 0))) := by rw [← hn, revTo_zero]; exact hb
    clear ha hb hn h1 h2 hp
    go_enter Try.func38, Try.ntmps38
    go_wp2
    go_loopw [2, 3] (fun i j wr => ∃ k : Nat, i = .int .i64 k ∧ j = .int .i64 ((n : Int) - 1 - k) ∧ 2 * k ≤ n ∧ Hid (Blk wr b n (fun i => .int .i64 ((revTo l k).getD i 0))) ∧ Hid (KeptP p w wr)) (fun i _ _ => n - (intOf i).toNat)
    case atStart => exact ⟨0, rfl, by simp, by omega, HB0, KeptP.refl _ _⟩
    case round =>
      obtain ⟨k, rfl, rfl, hk, HP, HL⟩ := hrel
      by_cases hlt : 2 * k + 1 < n
      · have hlt1 : (k : Int) < (n : Int) - 1 - (k : Int) := by omega
        have hk0 : (0 : Int) ≤ (k : Int) := by omega
        have hkn : (k : Int) < (n : Int) := by omega
        obtain ⟨j, hj⟩ : ∃ j : Nat, (n : Int) - 1 - (k : Int) = (j : Int) := ⟨n - 1 - k, by omega⟩
        have hjn : (j : Int) < (n : Int) := by omega
        have hj0 : (0 : Int) ≤ (j : Int) := by omega
        have HJ : Hid (j = n - 1 - k) := by show _ = _; omega
        have ck := HP.out.cell (i := k) (by omega)
        have cj := HP.out.cell (i := j) (by omega)
        have fk := HP.out.frozen k
        have fj := HP.out.frozen j
        have ek : (revTo l k).getD k 0 = l.getD k 0 := by rw [revTo_at (by rw [HN.out]; omega), if_neg (by rw [HN.out]; omega)]
        have ej : (revTo l k).getD j 0 = l.getD j 0 := by rw [revTo_at (by rw [HN.out]; omega), if_neg (by rw [HN.out]; omega)]
        rw [ek] at ck
        rw [ej] at cj
        obtain ⟨x, HXK⟩ : ∃ x, Hid (x = l.getD k 0) := ⟨_, rfl⟩
        obtain ⟨y, HYJ⟩ : ∃ x, Hid (x = l.getD j 0) := ⟨_, rfl⟩
        rw [← HXK.out] at ck
        rw [← HYJ.out] at cj
        clear ek ej
        rw [hj]
        rw [hj] at hlt1
        have hne : k ≠ j := by omega
        have hne2 : j ≠ k := by omega
        go_wp2_with fail
        go_region
        go_wp2
        go_roundw
        case rel =>
          have hst := revTo_step (w := wr) (b := b) (l := l) (k := k) (by rw [HN.out]; exact HP.out) (by rw [HN.out]; exact hlt)
          rw [HN.out, ← HJ.out, ← HXK.out, ← HYJ.out] at hst
          exact ⟨k + 1, by go_num, by go_num, by omega, hst, ((HL.out.setCell HX.out.2.2 _).setCell HX.out.2.2 _).trans (KeptP.of_below ((Below.refl _ _).drew) (fun k hk _ => hk))⟩
        case measure => simp [intOf]; omega
      · have hd : ¬ (k : Int) < (n : Int) - 1 - (k : Int) := by omega
        go_wp2
        go_returns
        refine ⟨rfl, .inr ⟨b, rfl, HX.out.1, HX.out.2.1, ?_⟩, HL⟩
        rw [List.length_reverse, HN.out, ← revTo_done (k := k) (by rw [HN.out]; omega)]
        exact HP.out
end Go.Proofs.Ytgfioakidefkdaa
