/-
  Tables of truth, a row a vertex: the model's l06Or, l06Behind.
-/
import Derived.Test.YtdbogikcmfnpdaaLdM
import Derived.Test.YtdbogikcmfnpdaaRev
import Derived.OwnWalk
namespace Go.Proofs.Ytdbogikcmfnpdaa
open Go.RowKit

/-- m truths in a block -/
def TBlk (w : World) (b m : Nat) (f : Nat → Bool) : Prop := Blk w b m (fun i => .bool (f i))
theorem TBlk.get {w : World} {b m k : Nat} {f : Nat → Bool} (h : TBlk w b m f) (hk : k < m) : w.cell? ⟨b, k, none⟩ = some (.bool (f k)) := Blk.cell h hk
theorem TBlk.of {w w' : World} {b m : Nat} {f : Nat → Bool} (h : TBlk w b m f) (e : w'.heap[b]? = w.heap[b]?) : TBlk w' b m f := Blk.of_block h e
theorem TBlk.lt {w : World} {b m : Nat} {f : Nat → Bool} (h : TBlk w b m f) : b < w.heap.size := Blk.lt h
theorem TBlk.put {w : World} {b m k : Nat} {f : Nat → Bool} (h : TBlk w b m f) (hk : k < m) (v : Bool) : TBlk (w.setCell ⟨b, k, none⟩ (.bool v)) b m (fun i => if i = k then v else f i) :=
  (Blk.set h k hk _).congr fun i hi => by by_cases e : i = k <;> simp [e]
theorem TBlk.congr {w : World} {b m : Nat} {f g : Nat → Bool} (h : TBlk w b m f) (e : ∀ i, i < m → f i = g i) : TBlk w b m g := Blk.congr h fun i hi => by rw [e i hi]
theorem TBlk.kept {p : Nat → Prop} {w w' : World} {b m : Nat} {f : Nat → Bool} (h : TBlk w b m f) (hk : KeptP p w w') (hn : ¬ p b) : TBlk w' b m f := hk.blk h hn

set_option maxHeartbeats 1000000 in
set_option maxRecDepth 100000 in
theorem l06Or_any (p q m c1 c2 : Nat) (f g : Nat → Bool) (w : World) (hp : TBlk w p m f) (hq : TBlk w q m g) (hne : p ≠ q) (hm : m ≤ 1048576) :
    Calls Try.prog 68 #[.slice (some ⟨p, 0, none⟩) m c1, .slice (some ⟨q, 0, none⟩) m c2] w fun e w' => e = .returned (.tuple #[]) ∧ Hid (TBlk w' p m (fun i => f i || g i)) ∧ Hid (KeptP (fun c => c = p) w w') := by
  have HP : Hid (TBlk w p m f) := hp
  have HQ : Hid (TBlk w q m g) := hq
  have HNE : Hid (p ≠ q) := hne
  clear hp hq hne
  go_enter Try.func68, Try.ntmps68
  go_wp2
  go_loopw [4] (fun i wr => ∃ k : Nat, i = .int .i64 k ∧ k ≤ m ∧ Hid (TBlk wr p m (fun i => if i < k then f i || g i else f i)) ∧ Hid (KeptP (fun c => c = p) w wr)) (fun i _ => m - (intOf i).toNat)
  case atStart => exact ⟨0, rfl, by omega, HP.out.congr fun i _ => by simp, KeptP.refl _ _⟩
  case round =>
    obtain ⟨k, rfl, hk, HF, HL⟩ := hrel
    by_cases hlt : k < m
    · have hlt1 : (k : Int) < (m : Int) := by omega
      have hlt0 : (0 : Int) ≤ (k : Int) := by omega
      have hx := HF.out.get hlt
      have HFZ := HF.out.frozen k
      rw [if_neg (by omega)] at hx
      have hy := (HQ.out.kept HL.out (by have := HNE.out; omega)).get hlt
      obtain ⟨x, HX⟩ : ∃ x, Hid (x = f k) := ⟨_, rfl⟩
      obtain ⟨y, HY⟩ : ∃ x, Hid (x = g k) := ⟨_, rfl⟩
      rw [← HX.out] at hx
      rw [← HY.out] at hy
      rcases Bool.eq_false_or_eq_true x with hr | hr
      · subst hr
        clear hy
        go_wp2
        go_roundw
        case rel =>
          refine ⟨k + 1, by go_num, by omega, (HF.out.put hlt true).congr fun i hi => ?_, HL.out.setCell rfl _⟩
          by_cases e : i = k
          · subst e; simp [← HX.out]
          · by_cases e2 : i < k
            · simp [e, e2, show i < k + 1 by omega]
            · simp [e, e2, show ¬ i < k + 1 by omega]
        case measure => simp [intOf]; omega
      · subst hr
        go_wp2
        go_roundw
        case rel =>
          refine ⟨k + 1, by go_num, by omega, (HF.out.put hlt y).congr fun i hi => ?_, HL.out.setCell rfl _⟩
          by_cases e : i = k
          · subst e; simp [← HX.out, HY.out]
          · by_cases e2 : i < k
            · simp [e, e2, show i < k + 1 by omega]
            · simp [e, e2, show ¬ i < k + 1 by omega]
        case measure => simp [intOf]; omega
    · obtain rfl : k = m := by omega
      go_wp2
      go_returns
      exact ⟨rfl, HF.out.congr fun i hi => by simp [hi], HL⟩
end Go.Proofs.Ytdbogikcmfnpdaa
